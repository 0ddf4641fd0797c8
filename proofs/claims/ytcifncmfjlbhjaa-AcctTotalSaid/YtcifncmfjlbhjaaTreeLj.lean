/-
  Contracts of the landed package tree: Get.
-/
import Derived.Test.YtcifncmfjlbhjaaTreeLi
namespace Go.Proofs.Ytcifncmfjlbhjaa
open Go.RowKit
set_option linter.unusedVariables false
set_option linter.unusedSimpArgs false
set_option maxRecDepth 100000

def getTB (t : Tr) (k : Dg) : Bool := mayT t && hasP (allT t) k
def getTL (t : Tr) (k : Dg) : List UInt8 := if getTB t k = true then getV (allT t) k else []
set_option maxHeartbeats 1000000 in
theorem PGetT_any (F : Nat → Prop) (A : Option Addr) (c : Nat) (ns : List Nd) (root : Int) (k : Dg) (w : World) (hr : Row F w A ns) (hc : ns.length ≤ 1000000) :
    Calls Try.prog 21 #[.agg #[.slice A ns.length c, .int .i64 root], .agg (k.1.map bv).toArray] w fun e w' => ∃ A1 c1, e = .returned (.tuple #[.slice A1 (getTL ⟨ns, root⟩ k).length c1, .bool (getTB ⟨ns, root⟩ k)]) ∧ Own 5 w' w.heap.size A1 c1 (getTL ⟨ns, root⟩ k) ∧ Below w.heap.size w w' := by
  obtain ⟨hb0, hk0, W0⟩ := boxesTDp w A ns.length c root k 24 26
  have hr0 := hr.bel W0
  have hu := Try.underlying26
  have hut := Try.underlying24
  have hun := Try.underlying59
  have hiT := hid (show (Try.prog.info? 24).map (·.size) = some ([Value.slice A ns.length c, .int .i64 root]).length from sizeTr)
  have hi := hid (sizeDgT k)
  have hbt := hid (built_trie A ns.length c root)
  obtain ⟨m, hm⟩ : ∃ m, mayT ⟨ns, root⟩ = m := ⟨_, rfl⟩
  have hC := hid (fun W hW => PTCheck_is F A c ns root m W hW (by omega) hm)
  cases m with
  | false =>
    rw [show getTL ⟨ns, root⟩ k = [] by unfold getTL getTB; rw [hm]; rfl, show getTB ⟨ns, root⟩ k = false by unfold getTB; rw [hm]; rfl]
    generalize k.1.map bv = dk at *
    go_enter Try.func21, Try.ntmps21
    go_wp2_with (first
      | ((with_reducible refine wpList_load_rng rfl 24 (.tmp 2) rfl w.heap.size 0 rfl [Value.slice A ns.length c, .int .i64 root] _ ?_ hut rfl hiT.out ?_); exact hb0.all))
    refine (hC.out _ hr0).mono ?_
    rintro e w2 ⟨rfl, hb⟩
    go_wp2
    go_ret2
    exact ⟨none, 0, rfl, Own.nil _ _, W0.trans (hb.mono W0.size)⟩
  | true =>
    have hF := hid (fun W hW => PFindT_any F A c ns root k W hW hc hm)
    obtain ⟨f1, f2⟩ := find_spec k hm
    have f3 := end_short (t := ⟨ns, root⟩) k
    have g1 : getTB ⟨ns, root⟩ k = hasE (endN ⟨ns, root⟩ k) k := by unfold getTB; rw [hm, f1]; rfl
    have g2 : getTL ⟨ns, root⟩ k = if hasE (endN ⟨ns, root⟩ k) k = true then (endN ⟨ns, root⟩ k).v else [] := by
      unfold getTL
      rw [g1, f1]
      by_cases h : hasP (allT ⟨ns, root⟩) k = true
      · rw [if_pos h, if_pos h, f2 h]
      · rw [if_neg h, if_neg h]
    rw [g1, g2]
    clear f1 f2 g1 g2 hm
    generalize endN ⟨ns, root⟩ k = x at *
    have hiS := fun A2 c2 => hid (show (Try.prog.info? 59).map (·.size) = some (ndC x A2 c2).toArray.size by rw [List.size_toArray, len_nd]; exact sizeNd)
    have hzs := fun A2 c2 => hid (show zNdC.size = (ndC x A2 c2).toArray.size by rw [zSizeNd, List.size_toArray, len_nd])
    have hone := fun A2 c2 => hid (one_nd x A2 c2)
    generalize hasE x k = hx at *
    replace hF := hid hF.out
    generalize k.1.map bv = dk at *
    go_enter Try.func21, Try.ntmps21
    go_wp2_with (first
      | ((with_reducible refine wpList_load_rng rfl 24 (.tmp 2) rfl w.heap.size 0 rfl [Value.slice A ns.length c, .int .i64 root] _ ?_ hut rfl hiT.out ?_); exact hb0.all))
    refine (hC.out _ hr0).mono ?_
    rintro e w2 ⟨rfl, hb⟩
    have T2 := hb0.bel hb
    have k2 := hid (rangeBel2 hb hk0)
    have r2 := hid (hr0.bel hb)
    have W2 := hid (W0.trans (hb.mono W0.size))
    clear hb0 hk0 hr0 hb hC W0
    go_wp2_with (first
      | ((with_reducible refine wpList_load_rng rfl 24 (.tmp 2) rfl w.heap.size 0 rfl [Value.slice A ns.length c, .int .i64 root] _ ?_ hut rfl hiT.out ?_); exact T2.all)
      | ((with_reducible refine wpList_built rfl 84 _ rfl #[Value.slice A ns.length c, .int .i64 root] [(0, .agg #[.slice A ns.length c, .int .i64 root])] ?_ ?_ ?_); exact hbt.out; rfl)
      | ((with_reducible refine wpList_load_rng rfl 26 (.tmp 3) rfl (w.heap.size + 1) 0 rfl dk _ ?_ hu rfl hi.out ?_); exact k2.out))
    refine (hF.out _ r2.out).mono ?_
    rintro e w3 ⟨A1, c1, rfl, hrd, hb⟩
    have W3 := hid (W2.out.trans (hb.mono W2.out.size))
    have e3 := hid (heap_alloc_new w3 (.cells zNdC 59))
    have rd3 := hid hrd
    have hBN := hid (fun (W : World) (g : Nat) (tt : TypeId) (h : W.heap[g]? = some (.cells (ndC x A1 c1).toArray tt (0, 0))) => BoxN.heap h)
    have hlow := hid W3.out.size
    clear hb hrd T2 k2 r2 hF W2
    cases hx with
    | false =>
      go_wp2_with (first
        | (with_reducible refine wpList_alloc_row rfl 59 rfl zNdC zInfoNd ?_)
        | ((with_reducible refine wpList_store_row rfl 59 (.tmp 6) (.tmp 16) rfl _ _ rfl rfl 59 zNdC ?_ ?_ ?_ ?_ ?_); exact e3.out; exact (hiS A1 c1).out; exact (hzs A1 c1).out; exact (hone A1 c1).out; intro w4 hg4 hb4 hs4; have X4 := hid (xnewP rfl hb4); clear hg4 hb4 hs4))
      go_ret2
      exact ⟨none, 0, rfl, Own.nil _ _, W3.out.trans (X4.out.mono W3.out.size)⟩
    | true =>
      go_wp2_with (first
        | (with_reducible refine wpList_alloc_row rfl 59 rfl zNdC zInfoNd ?_)
        | ((with_reducible refine wpList_store_row rfl 59 (.tmp 6) (.tmp 16) rfl _ _ rfl rfl 59 zNdC ?_ ?_ ?_ ?_ ?_); exact e3.out; exact (hiS A1 c1).out; exact (hzs A1 c1).out; exact (hone A1 c1).out; intro w4 hg4 hb4 hs4; have X4 := hid (xnewP rfl hb4); have y4 := (hBN.out _ _ _ hg4).val; clear hg4 hb4 hs4))
      refine (Clone_any A1 x.v.length c1 x.v _ (rd3.out.bel X4.out) rfl (by omega)).mono ?_
      rintro e w5 ⟨A5, c5, rfl, ho5, hb5⟩
      have W5 := hid ((W3.out.trans (X4.out.mono W3.out.size)).trans (hb5.mono (Nat.le_trans W3.out.size X4.out.size)))
      have o5 := hid (ho5.base (Nat.le_trans W3.out.size X4.out.size))
      clear ho5 hb5 y4 X4
      go_wp2
      go_ret2
      exact ⟨A5, c5, rfl, o5.out, W5.out⟩
end Go.Proofs.Ytcifncmfjlbhjaa
