/-
  Contracts of the document's answer for layer 7: Make.
-/
import Derived.Test.YtnoglodggchgpaaDoorRef07e
namespace Go.Proofs.YtnoglodggchgpaaDoor
open Go.RowKit
set_option linter.unusedVariables false
set_option linter.unusedSimpArgs false
set_option maxRecDepth 100000

set_option maxHeartbeats 2000000 in
theorem RPfMake_any (F : Nat → Prop) (A : Option Addr) (c : Nat) (ns : List Nd) (root : Int) (k : Dg) (m : Bool) (w : World) (hr : Row F w A ns) (hc : ns.length ≤ 1000) (hv : ∀ x ∈ ns, x.v.length ≤ 1000000) (hm : mayT ⟨ns, root⟩ = m) :
    Calls Tryd.prog 52 #[.agg #[.slice A ns.length c, .int .i64 root], .agg (k.1.map bv).toArray] w fun e w' => ∃ A1 c1 A2 c2, e = .returned (.tuple #[.agg (pfC (makeF ⟨ns, root⟩ k) A1 c1 A2 c2).toArray, .int .i64 (if m = true then 0 else 8)]) ∧ OfOk w' w.heap.size (makeF ⟨ns, root⟩ k) A1 c1 A2 c2 ∧ Below w.heap.size w w' := by
  obtain ⟨T0, K0, Z0, W0⟩ := boxesMk w A ns.length c root k
  have hr0 := (hr.mono (G := fun b => b < w.heap.size) fun b _ h => h).bel W0
  have hu := Tryd.underlying23
  have hut := Tryd.underlying44
  have hi := hid (sizeDgT k)
  have hiT := hid (show (Tryd.prog.info? 44).map (·.size) = some ([Value.slice A ns.length c, .int .i64 root]).length from sizeTr)
  have hMy := hid (fun W hW => RMayT_is (fun b => b < w.heap.size) A c ns root m W hW (by omega) hm)
  have T0a := hid T0.all
  replace hr0 := hid hr0
  replace Z0 := hid Z0
  replace K0 := hid K0
  cases m with
  | false =>
    rw [makeF_no hm]
    have hb0 := hid (show Tryd.prog.built 72 [] = some zPfC by kernel_rfl)
    simp only [Bool.false_eq_true, ↓reduceIte]
    clear hm T0 hr
    generalize k.1.map bv = dk at *
    go_enter Tryd.func52, Tryd.ntmps52
    go_wp2_with (first
      | (with_reducible refine wpList_alloc_row rfl 72 rfl zPfC zInfoPf ?_)
      | ((with_reducible refine wpList_load_rng rfl 44 (.tmp 2) rfl w.heap.size 0 rfl [Value.slice A ns.length c, .int .i64 root] _ ?_ hut rfl hiT.out ?_); exact T0a.out))
    generalize ((w.alloc (.cells #[.slice A ns.length c, .int .i64 root] 44)).alloc (.cells dk.toArray 23)).alloc (.cells zPfC 72) = w0 at *
    refine (hMy.out _ hr0.out).mono ?_
    rintro e w1 ⟨rfl, hb⟩
    have z1 := hid ((hb.block _ (block_lt Z0.out)).trans Z0.out)
    have W1 := hid (W0.trans (hb.mono W0.size))
    clear hb
    go_wp2_with (first
      | ((with_reducible refine wpList_built rfl 72 _ rfl zPfC [] ?_ ?_ ?_); exact hb0.out; rfl)
      | ((with_reducible refine wpList_store_row rfl 72 (.tmp 4) (.tmp 9) rfl (w.heap.size + 1 + 1) _ rfl rfl 72 zPfC ?_ ?_ ?_ ?_ ?_); exact z1.out; exact sizePfS pf0 none 0 none 0; rfl; exact one_pf pf0 none 0 none 0; intro w3 hg3 hb3 hs3))
    exact bodyPost_ret (res_pf Tryd.results52 _ _ (w.heap.size + 1 + 1) (pfC pf0 none 0 none 0) rfl hg3 (len_pf _ _ _ _ _)) rfl ⟨none, 0, none, 0, rfl, ⟨Row.nil _ _ _, Nat.le_refl _, Nat.zero_le _, Row.nil _ _ _⟩, W1.out.grown hb3 W1.out.size (fun g e => by injection e with e; omega)⟩
  | true =>
    have hOf := fun W hW => RPfOf_any (fun b => b < w.heap.size) A c ns root k W hW hc hv hm
    have hpl := fun A1 c1 A2 c2 => hid (len_pf (makeF ⟨ns, root⟩ k) A1 c1 A2 c2)
    have hps := fun A1 c1 A2 c2 => hid (sizePfS (makeF ⟨ns, root⟩ k) A1 c1 A2 c2)
    have hpz := fun A1 c1 A2 c2 => hid (show zPfC.size = (pfC (makeF ⟨ns, root⟩ k) A1 c1 A2 c2).toArray.size by rw [zSizePf, List.size_toArray, len_pf])
    have hp1 := fun A1 c1 A2 c2 => hid (one_pf (makeF ⟨ns, root⟩ k) A1 c1 A2 c2)
    simp only [↓reduceIte]
    clear hm T0 hr
    replace hOf := hid hOf
    generalize makeF ⟨ns, root⟩ k = pf at *
    generalize k.1.map bv = dk at *
    go_enter Tryd.func52, Tryd.ntmps52
    go_wp2_with (first
      | (with_reducible refine wpList_alloc_row rfl 72 rfl zPfC zInfoPf ?_)
      | ((with_reducible refine wpList_load_rng rfl 44 (.tmp 2) rfl w.heap.size 0 rfl [Value.slice A ns.length c, .int .i64 root] _ ?_ hut rfl hiT.out ?_); exact T0a.out))
    generalize ((w.alloc (.cells #[.slice A ns.length c, .int .i64 root] 44)).alloc (.cells dk.toArray 23)).alloc (.cells zPfC 72) = w0 at *
    refine (hMy.out _ hr0.out).mono ?_
    rintro e w1 ⟨rfl, hb⟩
    have z1 := hid ((hb.block _ (block_lt Z0.out)).trans Z0.out)
    have k1 := hid (rangeBel2 hb K0.out)
    have t1 := hid (rangeBel2 hb T0a.out)
    have r1 := hid (hr0.out.bel hb)
    have W1 := hid (W0.trans (hb.mono W0.size))
    clear hb
    go_wp2_with (first
      | ((with_reducible refine wpList_load_rng rfl 44 (.tmp 2) rfl w.heap.size 0 rfl [Value.slice A ns.length c, .int .i64 root] _ ?_ hut rfl hiT.out ?_); exact t1.out)
      | ((with_reducible refine wpList_load_rng rfl 23 (.tmp 3) rfl (w.heap.size + 1) 0 rfl dk _ ?_ hu rfl hi.out ?_); exact k1.out))
    refine (hOf.out _ r1.out).mono ?_
    rintro e w2 ⟨A1, c1, A2, c2, rfl, ⟨o1, o2, o3, o4⟩, hb⟩
    have z2 := hid ((hb.block _ (block_lt z1.out)).trans z1.out)
    have W2 := hid (W1.out.trans (hb.mono W1.out.size))
    have hg := hid (block_lt z1.out)
    clear hb
    go_wp2_with (first
      | ((with_reducible refine wpList_store_row rfl 72 (.tmp 4) (.tmp 12) rfl (w.heap.size + 1 + 1) _ rfl rfl 72 zPfC ?_ ?_ ?_ ?_ ?_); exact z2.out; exact (hps A1 c1 A2 c2).out; exact (hpz A1 c1 A2 c2).out; exact (hp1 A1 c1 A2 c2).out; intro w3 hg3 hb3 hs3))
    refine bodyPost_ret (res_pf Tryd.results52 _ _ (w.heap.size + 1 + 1) (pfC pf A1 c1 A2 c2) rfl hg3 (hpl A1 c1 A2 c2).out) rfl ⟨A1, c1, A2, c2, rfl, ⟨?_, o2, o3, ?_⟩, W2.out.grown hb3 W2.out.size (fun g e => by injection e with e; omega)⟩
    · exact (o1.chg (Chg.of_grown hb3) (fun b hb _ e => by injection e with e; have hb : w1.heap.size ≤ b := hb; have := hg.out; omega)).mono fun b hb _ => Nat.le_trans W1.out.size hb
    · exact (o4.chg (Chg.of_grown hb3) (fun b hb _ e => by injection e with e; have hb : w1.heap.size ≤ b := hb; have := hg.out; omega)).mono fun b hb _ => Nat.le_trans W1.out.size hb
end Go.Proofs.YtnoglodggchgpaaDoor
