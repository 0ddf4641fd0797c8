/-
  Contracts of the document's answer for layer 8: Inputs, Root, Fits.
-/
import Derived.Test.YtapnhdpgogfceaaGreatDoorRef08a
import Derived.Test.YtapnhdpgogfceaaGreatDoorVfX
namespace Go.Proofs.YtapnhdpgogfceaaGreatDoor
open Go.RowKit
set_option linter.unusedVariables false
set_option linter.unusedSimpArgs false
set_option maxRecDepth 100000

set_option maxHeartbeats 1000000 in
theorem RVfRoot_any (x : Pf) (A : Option Addr) (c : Nat) (D : Option Addr) (d : Nat) (F : Nat → Prop) (m : Bool) (w : World) (hm : mayF x = m) (hr : Rd w A x.v) (h1 : x.v.length ≤ c) (h2 : c ≤ maxLen) (hs : Row F w D x.ss) :
    Calls Tryz.prog 49 #[.agg (pfC x A c D d).toArray] w fun e w' => e = .returned (.tuple #[.agg ((rootM x).1.map bv).toArray, .int .i64 (if m = true then 0 else 8)]) ∧ Below w.heap.size w w' := by
  obtain ⟨B0, z1, W0⟩ := boxesPZ w x A c D d
  have hal := hid B0.all
  have hup := Tryz.underlying30
  have hip := hid (sizePfC x A c D d)
  have hC := hid (fun W hW => RPfMay_is x A c D d m W hW h1 h2 hm)
  have hfl := hid (fun (W : World) (hb : Below w.heap.size w W) => (show Rd W A x.v ∧ Row F W D x.ss from ⟨hr.bel hb, hs.bel hb⟩))
  have hz := hid (show Tryz.prog.built 26 [] = some (z0.1.map bv).toArray by kernel_rfl)
  have zs : ((z0.1.map bv).toArray).size = 32 := by simp [z0.2]
  have zz := bvs_all z0.1
  replace z1 := hid z1
  cases m with
  | false =>
    have hR : rootM x = z0 := by unfold rootM; rw [hm]; rfl
    rw [hR]
    simp only [Bool.false_eq_true, ↓reduceIte]
    clear hm B0 hR
    generalize pfC x A c D d = cs at *
    generalize z0.1.map bv = dz at *
    go_enter Tryz.func49, Tryz.ntmps49
    go_wp2_with (first
      | (with_reducible refine wpList_alloc_row rfl 26 rfl z32 info32 ?_)
      | ((with_reducible refine wpList_load_rng rfl 30 (.tmp 1) rfl w.heap.size 0 rfl cs _ ?_ hup rfl hip.out ?_); exact hal.out))
    generalize (w.alloc (.cells cs.toArray 30)).alloc (.cells z32 26) = w0 at *
    refine (hC.out _ (hfl.out _ W0).1).mono ?_
    rintro e w1 ⟨rfl, hb⟩
    have z2 := hid ((hb.block _ (block_lt z1.out)).trans z1.out)
    have W1 := hid (W0.trans (hb.mono W0.size))
    clear hb
    go_wp2_with (first
      | ((with_reducible refine wpList_built rfl 26 _ rfl dz.toArray [] ?_ ?_ ?_); exact hz.out; rfl)
      | ((with_reducible refine wpList_store_row rfl 26 (.tmp 2) (.tmp 8) rfl (w.heap.size + 1) _ rfl rfl 26 z32 ?_ ?_ ?_ ?_ ?_); exact z2.out; (rw [zs]; exact size32); (rw [zs]; exact z32_size); exact zz; intro w3 hg3 hb3 hs3))
    exact bodyPost_ret (res_dig rfl _ _ (w.heap.size + 1) _ rfl hg3 zs) rfl ⟨rfl, W1.out.grown hb3 W1.out.size (fun g e => by injection e with e; omega)⟩
  | true =>
    obtain ⟨m1, m2⟩ := may_small hm
    have hR : rootM x = rootV x := by unfold rootM; rw [hm]; rfl
    rw [hR]
    simp only [↓reduceIte]
    obtain ⟨u, t, hut⟩ : ∃ u t, inP x = u :: t := by
      cases hq : inP x with
      | nil => exact absurd hq (inL_ne _ _ _)
      | cons u t => exact ⟨u, t, rfl⟩
    have hul : u.length ≤ 3000 := by have := inL_head_le x m1 0 x.ss; rw [show inL x 0 x.ss = u :: t from hut] at this; exact this
    have hrv : (rootV x).1 = sha256 u := by show sha256 ((inP x).headD []) = _; rw [hut]; rfl
    have hI := hid (fun W hW hS => (show Calls Tryz.prog 39 #[.agg (pfC x A c D d).toArray, .int .i64 0] W fun e w' => ∃ A' c', e = .returned (.slice A' (u :: t).length c') ∧ Row (fun b => b < w'.heap.size) w' A' (u :: t) ∧ (u :: t).length ≤ c' ∧ c' ≤ maxLen ∧ Below W.heap.size W w' from by
      have := RFrom_any x A c D d F (may_e hm) h1 h2 m1 m2 x.ss.length 0 W (Nat.zero_add _) hW hS
      rw [show inL x 0 (x.ss.drop 0) = u :: t from hut] at this
      exact this))
    have zd : ((rootV x).1.map bv).toArray.size = 32 := by simp [(rootV x).2]
    have zo := bvs_all (rootV x).1
    have hO := hid (fun W A c (hW : Rd W A u) => Sum_any A c u.length u W hW rfl (by omega))
    rw [← hrv] at hO
    clear hm B0 hR hut hrv hz zs zz
    generalize pfC x A c D d = cs at *
    generalize (rootV x).1.map bv = dR at *
    go_enter Tryz.func49, Tryz.ntmps49
    go_wp2_with (first
      | (with_reducible refine wpList_alloc_row rfl 26 rfl z32 info32 ?_)
      | ((with_reducible refine wpList_load_rng rfl 30 (.tmp 1) rfl w.heap.size 0 rfl cs _ ?_ hup rfl hip.out ?_); exact hal.out))
    generalize (w.alloc (.cells cs.toArray 30)).alloc (.cells z32 26) = w0 at *
    refine (hC.out _ (hfl.out _ W0).1).mono ?_
    rintro e w1 ⟨rfl, hb⟩
    have al1 := hid (rangeBel2 hb hal.out)
    have z2 := hid ((hb.block _ (block_lt z1.out)).trans z1.out)
    have W1 := hid (W0.trans (hb.mono W0.size))
    clear hb
    go_wp2_with (first
      | ((with_reducible refine wpList_load_rng rfl 30 (.tmp 1) rfl w.heap.size 0 rfl cs _ ?_ hup rfl hip.out ?_); exact al1.out))
    refine (hI.out _ (hfl.out _ W1.out).1 (hfl.out _ W1.out).2).mono ?_
    rintro e w2 ⟨A2, c2, rfl, ho, -, -, hb⟩
    have z3 := hid ((hb.block _ (block_lt z2.out)).trans z2.out)
    have W2 := hid (W1.out.trans (hb.mono W1.out.size))
    obtain ⟨b9, o9, hA9, hc9⟩ := ho.rds (by simp)
    subst hA9
    obtain ⟨A1, c1, hcell, hrd, k1⟩ := hc9 0 u rfl
    rw [Nat.add_zero] at hcell
    clear hb ho hc9
    go_wp2_with fail
    refine (hO.out _ _ _ hrd).mono ?_
    rintro e w4 ⟨rfl, hb4⟩
    have z5 := hid ((hb4.block _ (block_lt z3.out)).trans z3.out)
    have W4 := hid (W2.out.trans (hb4.mono W2.out.size))
    clear hb4
    go_wp2_with (first
      | ((with_reducible refine wpList_store_row rfl 26 (.tmp 2) (.tmp 14) rfl (w.heap.size + 1) _ rfl rfl 26 z32 ?_ ?_ ?_ ?_ ?_); exact z5.out; (rw [zd]; exact size32); (rw [zd]; exact z32_size); exact zo; intro w5 hg5 hb5 hs5))
    exact bodyPost_ret (res_dig rfl _ _ (w.heap.size + 1) _ rfl hg5 zd) rfl ⟨rfl, W4.out.grown hb5 W4.out.size (fun g e => by injection e with e; omega)⟩
set_option maxHeartbeats 1000000 in
theorem RVfFits_is (x : Pf) (A : Option Addr) (c : Nat) (D : Option Addr) (d : Nat) (r : Dg) (F : Nat → Prop) (b : Bool) (w : World) (hb : fitsF x r = b) (hr : Rd w A x.v) (h1 : x.v.length ≤ c) (h2 : c ≤ maxLen) (hs : Row F w D x.ss) :
    Calls Tryz.prog 27 #[.agg (pfC x A c D d).toArray, .agg (r.1.map bv).toArray] w fun e w' => e = .returned (.bool b) ∧ Below w.heap.size w w' := by
  obtain ⟨B0, r0, W0⟩ := boxesPD w x A c D d r 30 26
  have hal := hid B0.all
  have hup := Tryz.underlying30
  have hu := Tryz.underlying26
  have hip := hid (sizePfC x A c D d)
  have hiD := hid (sizeDg r)
  have hiD2 := hid (sizeDg (rootM x))
  obtain ⟨m, hm⟩ : ∃ m, mayF x = m := ⟨_, rfl⟩
  have hC := hid (fun W hW hS => RVfRoot_any x A c D d F m W hm hW h1 h2 hS)
  have hfl := hid (fun (W : World) (hb : Below w.heap.size w W) => (show Rd W A x.v ∧ Row F W D x.ss from ⟨hr.bel hb, hs.bel hb⟩))
  have zd : ((rootM x).1.map bv).toArray.size = 32 := by simp [(rootM x).2]
  have zo := bvs_all (rootM x).1
  have hE : ∀ W, (Op.equalIn 10000 26 (.agg ((rootM x).1.map bv).toArray) (.agg (r.1.map bv).toArray)).run Tryz.prog W = .ok (decide (rootM x = r)) W := fun W => eqd_is (rootM x) r _ rfl W
  have hbb : b = (m && decide (rootM x = r)) := by
    rw [← hb]
    unfold fitsF rootM
    rw [hm]
    cases m <;> rfl
  generalize decide (rootM x = r) = q at *
  replace r0 := hid r0
  clear hm B0 hb
  generalize pfC x A c D d = cs at *
  generalize (rootM x).1.map bv = dR at *
  generalize r.1.map bv = dr at *
  go_enter Tryz.func27, Tryz.ntmps27
  go_wp2_with (first
    | ((with_reducible refine wpList_load_rng rfl 30 (.tmp 2) rfl w.heap.size 0 rfl cs _ ?_ hup rfl hip.out ?_); exact hal.out))
  generalize (w.alloc (.cells cs.toArray 30)).alloc (.cells dr.toArray 26) = w0 at *
  refine (hC.out _ (hfl.out _ W0).1 (hfl.out _ W0).2).mono ?_
  rintro e w1 ⟨rfl, hb⟩
  have r1 := hid (rangeBel2 hb r0.out)
  have W1 := hid (W0.trans (hb.mono W0.size))
  have e1 := hid (heap_alloc_new w1 (.cells z32 26))
  clear hb
  subst hbb
  cases m with
  | false =>
    go_wp2_with (first
      | (with_reducible refine wpList_alloc_row rfl 26 rfl z32 info32 ?_)
      | ((with_reducible refine wpList_store_row rfl 26 (.tmp 5) (.tmp 10) rfl _ _ rfl rfl 26 z32 ?_ ?_ ?_ ?_ ?_); exact e1.out; (rw [zd]; exact size32); (rw [zd]; exact z32_size); exact zo; intro w5 hg5 hb5 hs5; have X5 := hid (xnewP rfl hb5); have W5 := hid (W1.out.trans (X5.out.mono W1.out.size)); clear hg5 hb5 hs5))
    go_ret
    exact ⟨rfl, W5.out⟩
  | true =>
    go_wp2_with (first
      | (with_reducible refine wpList_alloc_row rfl 26 rfl z32 info32 ?_)
      | ((with_reducible refine wpList_store_row rfl 26 (.tmp 5) (.tmp 10) rfl _ _ rfl rfl 26 z32 ?_ ?_ ?_ ?_ ?_); exact e1.out; (rw [zd]; exact size32); (rw [zd]; exact z32_size); exact zo; intro w5 hg5 hb5 hs5; have X5 := hid (xnewP rfl hb5); have W5 := hid (W1.out.trans (X5.out.mono W1.out.size)); have r5 := hid (rangeBel2 X5.out r1.out); have n5 := hid (rangeOf hg5); clear hg5 hb5 hs5)
      | ((with_reducible refine wpList_load_rng ?_ 26 (.tmp 5) rfl w1.heap.size 0 rfl dR _ ?_ hu rfl hiD2.out ?_); rfl; exact n5.out)
      | ((with_reducible refine wpList_load_rng ?_ 26 (.tmp 3) rfl (w.heap.size + 1) 0 rfl dr _ ?_ hu rfl hiD.out ?_); rfl; exact r5.out))
    go_ret
    exact ⟨by rw [Bool.true_and]; rfl, W5.out⟩
end Go.Proofs.YtapnhdpgogfceaaGreatDoor
