/-
  The document's answers of layer 6: All, Pairs, Sum, Check, Get.
-/
import Derived.Test.YtnoglodggchgpaaDoorRef06d
import Derived.Test.YtnoglodggchgpaaDoorRef06j
import Derived.Test.YtnoglodggchgpaaDoorRef06g
import Derived.Test.YtnoglodggchgpaaDoorRefE
namespace Go.Proofs.YtnoglodggchgpaaDoor
open Go.RowKit
set_option linter.unusedVariables false
set_option linter.unusedSimpArgs false
set_option maxRecDepth 100000

def pairsL (t : Tr) : List Pr := if mayT t = true then allT t else []
def codeT (t : Tr) : Int := if mayT t = true then 0 else 8
theorem RPairsT_any (F : Nat → Prop) (A : Option Addr) (c : Nat) (ns : List Nd) (root : Int) (w : World) (hr : Row F w A ns) (hc : ns.length ≤ 1000000) :
    Calls Tryd.prog 36 #[.agg #[.slice A ns.length c, .int .i64 root]] w fun e w' => ∃ A' c', e = .returned (.tuple #[.slice A' (pairsL ⟨ns, root⟩).length c', .int .i64 (codeT ⟨ns, root⟩)]) ∧ OwnR 26 w' w.heap.size A' c' (pairsL ⟨ns, root⟩) ∧ Below w.heap.size w w' := by
  have T0 := BoxT.new w A ns.length c root 44
  have W0 := ext_alloc w (.cells #[.slice A ns.length c, .int .i64 root] 44)
  have hr0 := hr.bel W0
  have hut := Tryd.underlying44
  have hiT := hid (show (Tryd.prog.info? 44).map (·.size) = some ([Value.slice A ns.length c, .int .i64 root]).length from sizeTr)
  obtain ⟨m, hm⟩ : ∃ m, mayT ⟨ns, root⟩ = m := ⟨_, rfl⟩
  have hC := fun W hW => RMayT_is F A c ns root m W hW (by omega) hm
  replace hC := hid hC
  unfold pairsL codeT
  rw [hm]
  cases m with
  | false =>
    go_enter Tryd.func36, Tryd.ntmps36
    go_wp2_with (first
      | ((with_reducible refine wpList_load_rng rfl 44 (.tmp 1) rfl w.heap.size 0 rfl [Value.slice A ns.length c, .int .i64 root] _ ?_ hut rfl hiT.out ?_); exact T0.all))
    refine (hC.out _ hr0).mono ?_
    rintro e w2 ⟨rfl, hb⟩
    go_wp2
    go_ret2
    exact ⟨none, 0, rfl, OwnR.nil _ _, W0.trans (hb.mono W0.size)⟩
  | true =>
    have hA := fun W hW => RAllT_any F A c ns root W hW hc hm
    simp only [if_pos]
    generalize allT ⟨ns, root⟩ = L at *
    replace hA := hid hA
    go_enter Tryd.func36, Tryd.ntmps36
    go_wp2_with (first
      | ((with_reducible refine wpList_load_rng rfl 44 (.tmp 1) rfl w.heap.size 0 rfl [Value.slice A ns.length c, .int .i64 root] _ ?_ hut rfl hiT.out ?_); exact T0.all))
    refine (hC.out _ hr0).mono ?_
    rintro e w2 ⟨rfl, hb⟩
    have T2 := T0.bel hb
    have r2 := hid (hr0.bel hb)
    have W2 := hid (W0.trans (hb.mono W0.size))
    clear T0 hr0 hb
    go_wp2_with (first
      | ((with_reducible refine wpList_load_rng rfl 44 (.tmp 1) rfl w.heap.size 0 rfl [Value.slice A ns.length c, .int .i64 root] _ ?_ hut rfl hiT.out ?_); exact T2.all))
    refine (hA.out _ r2.out).mono ?_
    rintro e w3 ⟨A2, c2, rfl, ho2, hb⟩
    go_wp2
    go_ret2
    exact ⟨A2, c2, rfl, OwnR.base ho2 W2.out.size, W2.out.trans (hb.mono W2.out.size)⟩
theorem RCheckT_any (F : Nat → Prop) (A : Option Addr) (c : Nat) (ns : List Nd) (root : Int) (w : World) (hr : Row F w A ns) (hc : ns.length ≤ 1000000) :
    Calls Tryd.prog 41 #[.agg #[.slice A ns.length c, .int .i64 root]] w fun e w' => e = .returned (.int .i64 (codeT ⟨ns, root⟩)) ∧ Below w.heap.size w w' := by
  have T0 := BoxT.new w A ns.length c root 44
  have W0 := ext_alloc w (.cells #[.slice A ns.length c, .int .i64 root] 44)
  have hr0 := hr.bel W0
  have hut := Tryd.underlying44
  have hiT := hid (show (Tryd.prog.info? 44).map (·.size) = some ([Value.slice A ns.length c, .int .i64 root]).length from sizeTr)
  obtain ⟨m, hm⟩ : ∃ m, mayT ⟨ns, root⟩ = m := ⟨_, rfl⟩
  have hC := hid (fun W hW => RMayT_is F A c ns root m W hW (by omega) hm)
  unfold codeT
  rw [hm]
  go_enter Tryd.func41, Tryd.ntmps41
  go_wp2_with (first
    | ((with_reducible refine wpList_load_rng rfl 44 (.tmp 1) rfl w.heap.size 0 rfl [Value.slice A ns.length c, .int .i64 root] _ ?_ hut rfl hiT.out ?_); exact T0.all))
  refine (hC.out _ hr0).mono ?_
  rintro e w2 ⟨rfl, hb⟩
  cases m
  · go_wp2
    go_ret
    exact ⟨rfl, W0.trans (hb.mono W0.size)⟩
  · go_wp2
    go_ret
    exact ⟨rfl, W0.trans (hb.mono W0.size)⟩
def sumT (t : Tr) : Dg := if mayT t = true then ⟨sumP t.ns 256 t.root, sumP_length⟩ else z0
theorem boxesTZ (w : World) (A : Option Addr) (n c : Nat) (root : Int) :
    BoxT ((w.alloc (.cells #[.slice A n c, .int .i64 root] 44)).alloc (.cells z32 23)) w.heap.size A n c root ∧
    ((w.alloc (.cells #[.slice A n c, .int .i64 root] 44)).alloc (.cells z32 23)).heap[w.heap.size + 1]? = some (.cells z32 23) ∧
    Below w.heap.size w ((w.alloc (.cells #[.slice A n c, .int .i64 root] 44)).alloc (.cells z32 23)) := by
  have h2 := heap_alloc_new (w.alloc (.cells #[.slice A n c, .int .i64 root] 44)) (.cells z32 23)
  rw [World.size_alloc] at h2
  exact ⟨(BoxT.new w A n c root _).bel (ext_alloc _ _), h2, ext_trans (ext_alloc _ _) (ext_alloc _ _)⟩
set_option maxHeartbeats 1000000 in
theorem RSumT_any (F : Nat → Prop) (A : Option Addr) (c : Nat) (ns : List Nd) (root : Int) (w : World) (hr : Row F w A ns) (hc : ns.length ≤ 1000) :
    Calls Tryd.prog 38 #[.agg #[.slice A ns.length c, .int .i64 root]] w fun e w' => e = .returned (.tuple #[.agg ((sumT ⟨ns, root⟩).1.map bv).toArray, .int .i64 (codeT ⟨ns, root⟩)]) ∧ Below w.heap.size w w' := by
  obtain ⟨T0, h1, W0⟩ := boxesTZ w A ns.length c root
  have hr0 := hr.bel W0
  have hut := Tryd.underlying44
  have hiT := hid (show (Tryd.prog.info? 44).map (·.size) = some ([Value.slice A ns.length c, .int .i64 root]).length from sizeTr)
  obtain ⟨m, hm⟩ : ∃ m, mayT ⟨ns, root⟩ = m := ⟨_, rfl⟩
  have hC := hid (fun W hW => RMayT_is F A c ns root m W hW (by omega) hm)
  have hz := hid built_dg0
  have zz := bvs_all z0.1
  have zs : ((z0.1.map bv).toArray).size = 32 := by simp [z0.2]
  have zd : ((sumT ⟨ns, root⟩).1.map bv).toArray.size = 32 := by simp [(sumT ⟨ns, root⟩).2]
  have zo := bvs_all (sumT ⟨ns, root⟩).1
  replace h1 := hid h1
  unfold codeT
  rw [hm]
  cases m with
  | false =>
    rw [show sumT ⟨ns, root⟩ = z0 by unfold sumT; rw [hm]; rfl]
    clear zd zo
    generalize z0.1.map bv = dz at *
    go_enter Tryd.func38, Tryd.ntmps38
    go_wp2_with (first
      | (with_reducible refine wpList_alloc_row rfl 23 rfl z32 info32 ?_)
      | ((with_reducible refine wpList_load_rng rfl 44 (.tmp 1) rfl w.heap.size 0 rfl [Value.slice A ns.length c, .int .i64 root] _ ?_ hut rfl hiT.out ?_); exact T0.all))
    generalize (w.alloc (.cells #[.slice A ns.length c, .int .i64 root] 44)).alloc (.cells z32 23) = w0 at *
    refine (hC.out _ hr0).mono ?_
    rintro e w2 ⟨rfl, hb⟩
    have h2 := hid ((hb.block _ (block_lt h1.out)).trans h1.out)
    have W2 := hid (W0.trans (hb.mono W0.size))
    go_wp2_with (first
      | ((with_reducible refine wpList_built rfl 23 _ rfl dz.toArray [] ?_ ?_ ?_); exact hz.out; rfl)
      | ((with_reducible refine wpList_store_row rfl 23 (.tmp 2) (.tmp 7) rfl (w.heap.size + 1) _ rfl rfl 23 z32 ?_ ?_ ?_ ?_ ?_); exact h2.out; (rw [zs]; exact size32); (rw [zs]; exact z32_size); exact zz; intro w3 hg3 hb3 hs3))
    exact bodyPost_ret (res_dig rfl _ _ (w.heap.size + 1) _ rfl hg3 zs) rfl ⟨rfl, W2.out.grown hb3 W2.out.size (fun g e => by injection e with e; omega)⟩
  | true =>
    have hA := hid (fun W hW => RAllT_any F A c ns root W hW (by omega) hm)
    obtain ⟨-, m1, m2, ho, m3⟩ := mayT_iff.1 hm
    dsimp only at m1 m2 ho m3
    have hO := fun G B d W hW => ROfFor ns ho hc 256 root (Nat.le_refl _) ⟨z0, m3, zr_z0⟩ G B d W hW 0 rfl
    rw [show sumP ns 256 root = (sumT ⟨ns, root⟩).1 by unfold sumT; rw [hm]; rfl] at hO
    rw [show forP ns 256 root = allT ⟨ns, root⟩ from rfl] at hO
    generalize allT ⟨ns, root⟩ = L at *
    generalize sumT ⟨ns, root⟩ = S at *
    replace hO := hid hO
    clear zz zs
    go_enter Tryd.func38, Tryd.ntmps38
    go_wp2_with (first
      | (with_reducible refine wpList_alloc_row rfl 23 rfl z32 info32 ?_)
      | ((with_reducible refine wpList_load_rng rfl 44 (.tmp 1) rfl w.heap.size 0 rfl [Value.slice A ns.length c, .int .i64 root] _ ?_ hut rfl hiT.out ?_); exact T0.all))
    generalize (w.alloc (.cells #[.slice A ns.length c, .int .i64 root] 44)).alloc (.cells z32 23) = w0 at *
    refine (hC.out _ hr0).mono ?_
    rintro e w2 ⟨rfl, hb⟩
    have T2 := T0.bel hb
    have r2 := hid (hr0.bel hb)
    have h2 := hid ((hb.block _ (block_lt h1.out)).trans h1.out)
    have W2 := hid (W0.trans (hb.mono W0.size))
    clear T0 hr0 h1 hb
    go_wp2_with (first
      | ((with_reducible refine wpList_load_rng rfl 44 (.tmp 1) rfl w.heap.size 0 rfl [Value.slice A ns.length c, .int .i64 root] _ ?_ hut rfl hiT.out ?_); exact T2.all))
    refine (hA.out _ r2.out).mono ?_
    rintro e w3 ⟨A3, c3, rfl, ho3, hb⟩
    have h3 := hid ((hb.block _ (block_lt h2.out)).trans h2.out)
    have W3 := hid (W2.out.trans (hb.mono W2.out.size))
    have f3 := hid ho3.row
    clear hb ho3
    go_wp2_with fail
    refine (hO.out _ A3 c3 _ f3.out).mono ?_
    rintro e w4 ⟨rfl, hb⟩
    have h4 := hid ((hb.block _ (block_lt h3.out)).trans h3.out)
    have W4 := hid (W3.out.trans (hb.mono W3.out.size))
    go_wp2_with (first
      | ((with_reducible refine wpList_store_row rfl 23 (.tmp 2) (.tmp 10) rfl (w.heap.size + 1) _ rfl rfl 23 z32 ?_ ?_ ?_ ?_ ?_); exact h4.out; (rw [zd]; exact size32); (rw [zd]; exact z32_size); exact zo; intro w5 hg3 hb3 hs3))
    exact bodyPost_ret (res_dig rfl _ _ (w.heap.size + 1) _ rfl hg3 zd) rfl ⟨rfl, W4.out.grown hb3 W4.out.size (fun g e => by injection e with e; omega)⟩
end Go.Proofs.YtnoglodggchgpaaDoor
