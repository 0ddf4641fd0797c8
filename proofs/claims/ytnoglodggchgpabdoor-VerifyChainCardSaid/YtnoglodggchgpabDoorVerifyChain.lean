/-
  The Go function VerifyChain returns true: each of a proof's inputs but the last one has in it the digest of the next one, and its side; the first one's digest is the root; they are one more than the sides: any proof; its arguments read afterwards as before.
  Conditions: none. The frame around the walk was written by program (proof-skeleton.mjs).
-/
import Derived.Test.YtnoglodggchgpabDoorRows
import Derived.Test.YtnoglodggchgpabDoorDoor
import Derived.WalkKit
import Derived.ProofKit
import Derived.OpenShut
import Derived.ShutString
import Derived.ChangeOld
import Derived.Below
import Derived.Test.YtnoglodggchgpabDoorAlive08
import Derived.Test.YtnoglodggchgpabDoorVfH
import Derived.Test.YtnoglodggchgpabDoorVfX
import Derived.Test.YtnoglodggchgpabDoorRef07a
import Derived.Test.YtnoglodggchgpabDoorRef07b
import Derived.Test.YtnoglodggchgpabDoorTagC
import Derived.Test.YtnoglodggchgpabDoorPfC
namespace Go.Proofs.YtnoglodggchgpabDoor.verifyChain
open Go.ChangeShapes Go.WideShapes Go.ChangeAt Go.RowKit
open Go.ChangeMaps (open_string shut_string)
set_option linter.unusedVariables false

theorem own : ownKnob Tryd.prog.godebug = none := by kernel_rfl
theorem laidOut : laidOutB Tryd.prog = true := by kernel_rfl

/-- WHAT THE WALK IS TOLD OF A SLICE OF INTEGERS THAT CAME IN: it is nil; or it leads to a row of 'cap' cells, the numbers 'zs' (the first 'len' are its elements, the rest its spare room), each fitting its kind. -/
def IsRow (k : IntKind) (w : World) (a : Option Addr) (len cap : Nat) (zs : List Int) : Prop :=
  (a = none ∧ len = 0 ∧ cap = 0 ∧ zs = []) ∨
  ∃ x, a = some x ∧ len ≤ cap ∧ cap ≤ maxLen ∧ zs.length = cap ∧ (∀ i, i < zs.length → w.cell? (x.add i) = some (.int k (zs.getD i 0))) ∧ ∀ n ∈ zs, (Lit.int k n).wf = true

/-! ### the walk -/
open Go.Proofs.YtnoglodggchgpabDoor
set_option linter.unusedSimpArgs false
set_option maxRecDepth 100000 in
set_option maxHeartbeats 8000000 in
theorem walk (x0 : Pf) (vs0 : List Value) (w : World) (w0 : Enc.rep (fun b => b < w.heap.size) w x0 vs0) (hT : Tab w) :
    Calls Tryd.prog 3 #[.agg vs0.toArray] w fun e w' => e = .returned (.bool true) ∧ Below w.heap.size w w' := by
  obtain ⟨A0, c0, D0, d0, rfl, ⟨hc0, hm0, hv0⟩, ⟨hd0, hn0, hs0⟩⟩ := rep_pf w0
  have W0 := ext_alloc w (.cells (pfC x0 A0 c0 D0 d0).toArray 27)
  have B0 := BoxP.new w x0 A0 c0 D0 d0 27
  have X0 := hid B0.all
  have V0 := hid (hv0.bel W0)
  have S0 := hid (hs0.bel W0)
  have T0 := hid (hT.bel W0 hT.low)
  have hlow := hid hT.low
  replace W0 := hid W0
  have hup := Tryd.underlying27
  have hu := Tryd.underlying23
  have hi0 := hid (sizePfC x0 A0 c0 D0 d0)
  have hiR := hid (sizeDg (rootM x0))
  obtain ⟨g1, hg1⟩ : ∃ g1, (decide (100 < x0.v.length) || decide (300 < x0.ss.length)) = g1 := ⟨_, rfl⟩
  obtain ⟨m, hm⟩ : ∃ m, mayF x0 = m := ⟨_, rfl⟩
  have hG1 := fun W => RPfGreat_is x0 A0 c0 D0 d0 g1 W hg1
  have hAl := hid (fun W hW => alive8_any W hW)
  have hI1 := fun W (h1 : Row (fun b => b < w.heap.size) W A0 x0.v) (h4 : Row (fun b => b < w.heap.size) W D0 x0.ss) (h5 : Tab W) => VfInputsE_any x0 A0 c0 D0 d0 _ m W hm h1.rd hc0 hm0 h4 h5
  have hR1 := fun W (h1 : Row (fun b => b < w.heap.size) W A0 x0.v) (h4 : Row (fun b => b < w.heap.size) W D0 x0.ss) (h5 : Tab W) => VfRoot_any x0 A0 c0 D0 d0 _ m W hm h1.rd hc0 hm0 h4 h5
  have hC1 := fun W (h1 : Row (fun b => b < w.heap.size) W A0 x0.v) => PfCheck_is x0 A0 c0 D0 d0 m W h1.rd hc0 hm0 hm
  have hF3 := fun W (hb : fitsF x0 (rootM x0) = true) (h1 : Row (fun b => b < w.heap.size) W A0 x0.v) (h4 : Row (fun b => b < w.heap.size) W D0 x0.ss) (h5 : Tab W) => VfFits_is x0 A0 c0 D0 d0 (rootM x0) _ true W hb h1.rd hc0 hm0 h4 h5
  have zd : ((rootM x0).1.map bv).toArray.size = 32 := by simp [(rootM x0).2]
  have zo := bvs_all (rootM x0).1
  have zs : (Tryd.prog.info? 23).map (·.size) = some ((rootM x0).1.map bv).toArray.size := by rw [zd]; exact size32
  have zz : z32.size = ((rootM x0).1.map bv).toArray.size := by rw [zd]; exact z32_size
  replace zs := hid zs
  replace zz := hid zz
  replace hG1 := hid hG1
  replace hAl := hAl
  have hE : ∀ W, (Op.equalIn 10000 23 (.agg ((rootM x0).1.map bv).toArray) (.agg ((rootM x0).1.map bv).toArray)).run Tryd.prog W = .ok true W := fun W => eqd_is (rootM x0) (rootM x0) true (by simp) W
  clear hg1 w0 hv0 hs0 hc0 hm0 hd0 hn0 hT B0
  cases m with
  | false =>
    simp only [Bool.false_eq_true, ↓reduceIte, List.length_nil] at hI1 hR1 hC1
    replace hI1 := hid hI1
    replace hR1 := hid hR1
    replace hC1 := hid hC1
    clear hF3 hm hE
    generalize pfC x0 A0 c0 D0 d0 = cs0 at *
    generalize (rootM x0).1.map bv = dR at *
    go_enter Tryd.func3, Tryd.ntmps3
    go_wp2_with fail
    generalize w.alloc (.cells cs0.toArray 27) = w0 at *
    refine (hAl.out _ T0.out).mono ?_
    rintro e w1 ⟨rfl, hb⟩
    have X1 := hid (rangeBel2 hb X0.out)
    have V1 := hid (V0.out.bel hb)
    have S1 := hid (S0.out.bel hb)
    have T1 := hid (T0.out.bel hb (Nat.lt_of_lt_of_le hlow.out W0.out.size))
    have W1 := hid (W0.out.trans (hb.mono W0.out.size))
    clear X0 V0 S0 T0 W0
    clear hb hAl
    go_wp2_with (first
      | ((with_reducible refine wpList_load_rng ?_ 27 (.tmp 1) rfl w.heap.size 0 rfl cs0 _ ?_ hup rfl hi0.out ?_); rfl; exact X1.out))
    refine (hG1.out _).mono ?_
    rintro e w2 ⟨rfl, hb⟩
    have X2 := hid (rangeBel2 hb X1.out)
    have V2 := hid (V1.out.bel hb)
    have S2 := hid (S1.out.bel hb)
    have T2 := hid (T1.out.bel hb (Nat.lt_of_lt_of_le hlow.out W1.out.size))
    have W2 := hid (W1.out.trans (hb.mono W1.out.size))
    clear X1 V1 S1 T1 W1
    clear hb hG1
    cases g1 with
    | true =>
      go_wp2
      go_ret
      exact ⟨rfl, W2.out⟩
    | false =>
    go_wp2_with (first
      | ((with_reducible refine wpList_load_rng ?_ 27 (.tmp 1) rfl w.heap.size 0 rfl cs0 _ ?_ hup rfl hi0.out ?_); rfl; exact X2.out))
    refine (hI1.out _ V2.out S2.out T2.out).mono ?_
    rintro e w3 ⟨A3, c3, rfl, ho, hb⟩
    have X3 := hid (rangeBel2 hb X2.out)
    have V3 := hid (V2.out.bel hb)
    have S3 := hid (S2.out.bel hb)
    have T3 := hid (T2.out.bel hb (Nat.lt_of_lt_of_le hlow.out W2.out.size))
    have W3 := hid (W2.out.trans (hb.mono W2.out.size))
    clear X2 V2 S2 T2 W2
    clear hb ho hI1
    go_wp2_with (first
      | ((with_reducible refine wpList_load_rng ?_ 27 (.tmp 1) rfl w.heap.size 0 rfl cs0 _ ?_ hup rfl hi0.out ?_); rfl; exact X3.out))
    refine (hR1.out _ V3.out S3.out T3.out).mono ?_
    rintro e w4 ⟨rfl, hb⟩
    have X4 := hid (rangeBel2 hb X3.out)
    have V4 := hid (V3.out.bel hb)
    have S4 := hid (S3.out.bel hb)
    have T4 := hid (T3.out.bel hb (Nat.lt_of_lt_of_le hlow.out W3.out.size))
    have W4 := hid (W3.out.trans (hb.mono W3.out.size))
    clear X3 V3 S3 T3 W3
    clear hb hR1
    have e4 := hid (heap_alloc_new w4 (.cells z32 23))
    go_wp2_with (first
      | (with_reducible refine wpList_alloc_row rfl 23 rfl z32 info32 ?_)
      | ((with_reducible refine wpList_store_row rfl 23 (.tmp 6) (.tmp 33) rfl _ _ rfl rfl 23 z32 ?_ ?_ ?_ ?_ ?_); exact e4.out; exact zs.out; exact zz.out; exact zo; intro w5 hgS hbS hsS; have Z_ := hid (xnewP rfl hbS); have E5 := hid (rangeOf hgS); clear hgS hbS hsS; have X5 := hid (rangeBel2 Z_.out X4.out); have V5 := hid (V4.out.bel Z_.out); have S5 := hid (S4.out.bel Z_.out); have T5 := hid (T4.out.bel Z_.out (Nat.lt_of_lt_of_le hlow.out W4.out.size)); have W5 := hid (W4.out.trans (Z_.out.mono W4.out.size)); clear X4 V4 S4 T4 W4)
      | ((with_reducible refine wpList_load_rng ?_ 27 (.tmp 1) rfl w.heap.size 0 rfl cs0 _ ?_ hup rfl hi0.out ?_); rfl; exact X5.out))
    refine (hC1.out _ V5.out).mono ?_
    rintro e w6 ⟨rfl, hb⟩
    go_wp2
    go_ret
    exact ⟨rfl, W5.out.trans (hb.mono W5.out.size)⟩
  | true =>
    have hft : fitsF x0 (rootM x0) = true := by
      unfold fitsF rootM
      rw [hm]
      simp
    replace hF3 := hid (fun W => hF3 W hft)
    have hsm := may_small hm
    obtain ⟨u0, t0, hut⟩ : ∃ u t, inP x0 = u :: t := by
      cases hq : inP x0 with
      | nil => exact absurd hq (inL_ne _ _ _)
      | cons u t => exact ⟨u, t, rfl⟩
    have hul : ∀ l ∈ inP x0, l.length ≤ 3000 := inL_le x0 hsm.1 0 x0.ss
    have hrv : (rootM x0).1 = sha256 u0 := by
      have : rootM x0 = rootV x0 := by unfold rootM; rw [hm]; rfl
      rw [this]
      show sha256 ((inP x0).headD []) = _
      rw [hut]
      rfl
    have hlen : (inP x0).length = x0.ss.length + 1 := inL_length x0 0 x0.ss
    have hget := fun j h => inP_get x0 j h
    have hO0 := fun W A (hW : Rds W A [u0]) hTW => Of_any A 1 1 [u0] W hW rfl (by simp) (by have := hul u0 (by rw [hut]; simp); simp; omega) hTW
    rw [show sha256 [u0].flatten = (rootM x0).1 by rw [hrv]; simp] at hO0
    have hu00 : (inP x0)[0]? = some u0 := by rw [hut]; rfl
    simp only [↓reduceIte] at hI1 hR1 hC1
    replace hI1 := hid hI1
    replace hR1 := hid hR1
    replace hO0 := hid hO0
    replace hul := hid hul
    replace hget := hid hget
    replace hu00 := hid hu00
    have h256 := hid hsm.2
    replace hlen := hid hlen
    clear hC1 hm hft hrv hut hsm
    generalize inP x0 = l at *
    have hsd0 := (BoxP.of X0.out).sd
    generalize hcs : pfC x0 A0 c0 D0 d0 = cs0 at *
    replace hcs := hid hcs
    generalize (rootM x0).1.map bv = dR at *
    go_enter Tryd.func3, Tryd.ntmps3
    go_wp2_with fail
    generalize w.alloc (.cells cs0.toArray 27) = w0 at *
    refine (hAl.out _ T0.out).mono ?_
    rintro e w1 ⟨rfl, hb⟩
    have sd1 := (hb.cell (World.block_lt_of_cell? _ _ hsd0)).trans hsd0
    have X1 := hid (rangeBel2 hb X0.out)
    have V1 := hid (V0.out.bel hb)
    have S1 := hid (S0.out.bel hb)
    have T1 := hid (T0.out.bel hb (Nat.lt_of_lt_of_le hlow.out W0.out.size))
    have W1 := hid (W0.out.trans (hb.mono W0.out.size))
    clear X0 V0 S0 T0 W0
    clear hb hAl
    go_wp2_with (first
      | ((with_reducible refine wpList_load_rng ?_ 27 (.tmp 1) rfl w.heap.size 0 rfl cs0 _ ?_ hup rfl hi0.out ?_); rfl; exact X1.out))
    refine (hG1.out _).mono ?_
    rintro e w2 ⟨rfl, hb⟩
    have sd2 := (hb.cell (World.block_lt_of_cell? _ _ sd1)).trans sd1
    clear sd1 hsd0
    have X2 := hid (rangeBel2 hb X1.out)
    have V2 := hid (V1.out.bel hb)
    have S2 := hid (S1.out.bel hb)
    have T2 := hid (T1.out.bel hb (Nat.lt_of_lt_of_le hlow.out W1.out.size))
    have W2 := hid (W1.out.trans (hb.mono W1.out.size))
    clear X1 V1 S1 T1 W1
    clear hb hG1
    cases g1 with
    | true =>
      go_wp2
      go_ret
      exact ⟨rfl, W2.out⟩
    | false =>
    go_wp2_with (first
      | ((with_reducible refine wpList_load_rng ?_ 27 (.tmp 1) rfl w.heap.size 0 rfl cs0 _ ?_ hup rfl hi0.out ?_); rfl; exact X2.out))
    refine (hI1.out _ V2.out S2.out T2.out).mono ?_
    rintro e w3 ⟨A3, c3, rfl, ho, hb⟩
    have sd3 := (hb.cell (World.block_lt_of_cell? _ _ sd2)).trans sd2
    have L3 := hid (RowO.row ho).rds
    clear sd2
    have X3 := hid (rangeBel2 hb X2.out)
    have V3 := hid (V2.out.bel hb)
    have S3 := hid (S2.out.bel hb)
    have T3 := hid (T2.out.bel hb (Nat.lt_of_lt_of_le hlow.out W2.out.size))
    have W3 := hid (W2.out.trans (hb.mono W2.out.size))
    clear X2 V2 S2 T2 W2
    clear hb ho hI1
    go_wp2_with (first
      | ((with_reducible refine wpList_load_rng ?_ 27 (.tmp 1) rfl w.heap.size 0 rfl cs0 _ ?_ hup rfl hi0.out ?_); rfl; exact X3.out))
    refine (hR1.out _ V3.out S3.out T3.out).mono ?_
    rintro e w4 ⟨rfl, hb⟩
    have sd4 := (hb.cell (World.block_lt_of_cell? _ _ sd3)).trans sd3
    clear sd3
    have X4 := hid (rangeBel2 hb X3.out)
    have V4 := hid (V3.out.bel hb)
    have S4 := hid (S3.out.bel hb)
    have T4 := hid (T3.out.bel hb (Nat.lt_of_lt_of_le hlow.out W3.out.size))
    have L4 := hid (L3.out.bel hb)
    have W4 := hid (W3.out.trans (hb.mono W3.out.size))
    clear X3 V3 S3 T3 L3 W3
    clear hb hR1
    have e4 := hid (heap_alloc_new w4 (.cells z32 23))
    go_wp2_with (first
      | (with_reducible refine wpList_alloc_row rfl 23 rfl z32 info32 ?_)
      | ((with_reducible refine wpList_store_row rfl 23 (.tmp 6) (.tmp 33) rfl _ _ rfl rfl 23 z32 ?_ ?_ ?_ ?_ ?_); exact e4.out; exact zs.out; exact zz.out; exact zo; intro w5 hgS hbS hsS; have Z_ := hid (xnewP rfl hbS); have E5 := hid (rangeOf hgS); have sd5 := (Z_.out.cell (World.block_lt_of_cell? _ _ sd4)).trans sd4; clear sd4; clear hgS hbS hsS; have X5 := hid (rangeBel2 Z_.out X4.out); have V5 := hid (V4.out.bel Z_.out); have S5 := hid (S4.out.bel Z_.out); have T5 := hid (T4.out.bel Z_.out (Nat.lt_of_lt_of_le hlow.out W4.out.size)); have L5 := hid (L4.out.bel Z_.out); have W5 := hid (W4.out.trans (Z_.out.mono W4.out.size)); clear X4 V4 S4 T4 L4 W4))
    obtain ⟨b9, o9, hA9, hc9⟩ := L5.out (by have := hlen.out; omega)
    subst hA9
    obtain ⟨A8, c8, hcell, hrd, k1⟩ := hc9 0 u0 hu00.out
    rw [Nat.add_zero] at hcell
    have l5 := hid (Nat.lt_of_lt_of_le hlow.out W5.out.size)
    have hR8 := hid (fun (W : World) (h : Rd W A8 u0) => rds_one W A8 c8 u0 24 h k1)
    have hrd8 := hid hrd
    have yn : IntKind.i64.wrap ((x0.ss.length : Int) + 1) = (x0.ss.length : Int) + 1 := by have := h256.out; rw [IntKind.wrap_i64]; omega
    have yl : l.length = x0.ss.length + 1 := hlen.out
    have ym : ((((x0.ss.length + 1 : Nat)) : Int) != (x0.ss.length : Int) + 1) = false := by simp
    rw [yl]
    clear hc9 hrd k1
    refine wp_region_noPanic ?_
    refine wp_region_held_drew (S := fun w' => Below w5.heap.size w5 w') (by kernel_rfl) ?_ (fun hHeld => ?_)
    · exact bel_drew w5
    refine' wpAnyH_take (i := 0) (oi := _) (v := ?_) rfl (by kernel_rfl) (by kernel_rfl) (by kernel_rfl) (fun _ _ _ h => h) (Or.inl ⟨by rfl, ?_⟩) (by assumption) ?_
    rotate_left
    · intro W hSw
      go_simp
      first | done | (with_reducible rfl)
    try simp only [Act.put, List.setIfInBounds_toArray, List.set_cons_zero, List.set_cons_succ, List.getElem_toArray, List.getElem_cons_succ, List.getElem_cons_zero]
    refine' wpAnyH_take (i := 1) (oi := _) (v := ?_) rfl (by kernel_rfl) (by kernel_rfl) (by kernel_rfl) (fun _ _ _ h => h) (Or.inl ⟨by rfl, ?_⟩) (by assumption) ?_
    rotate_left
    · intro W hSw
      go_simp
      first | done | (with_reducible rfl)
    try simp only [Act.put, List.setIfInBounds_toArray, List.set_cons_zero, List.set_cons_succ, List.getElem_toArray, List.getElem_cons_succ, List.getElem_cons_zero]
    refine' wpAnyH_take (i := 2) (oi := _) (v := ?_) rfl (by kernel_rfl) (by kernel_rfl) (by kernel_rfl) (fun _ _ _ h => h) (Or.inl ⟨by rfl, ?_⟩) (by assumption) ?_
    rotate_left
    · intro W hSw
      go_simp
      first | done | (with_reducible rfl)
    try simp only [Act.put, List.setIfInBounds_toArray, List.set_cons_zero, List.set_cons_succ, List.getElem_toArray, List.getElem_cons_succ, List.getElem_cons_zero]
    refine' wpAnyH_take (i := 3) (oi := _) (v := ?_) rfl (by kernel_rfl) (by kernel_rfl) (by kernel_rfl) (fun _ _ _ h => h) (Or.inl ⟨by rfl, ?_⟩) (by assumption) ?_
    rotate_left
    · intro W hSw
      have hCell := (hSw.cell (World.block_lt_of_cell? _ _ sd5)).trans sd5
      go_simp
      first | done | (with_reducible rfl)
    try simp only [Act.put, List.setIfInBounds_toArray, List.set_cons_zero, List.set_cons_succ, List.getElem_toArray, List.getElem_cons_succ, List.getElem_cons_zero]
    refine' wpAnyH_take (i := 4) (oi := _) (v := ?_) rfl (by kernel_rfl) (by kernel_rfl) (by kernel_rfl) (fun _ _ _ h => h) (Or.inl ⟨by rfl, ?_⟩) (by assumption) ?_
    rotate_left
    · intro W hSw
      go_simp
      first | done | (with_reducible rfl)
    try simp only [Act.put, List.setIfInBounds_toArray, List.set_cons_zero, List.set_cons_succ, List.getElem_toArray, List.getElem_cons_succ, List.getElem_cons_zero]
    refine' wpAnyH_take (i := 5) (oi := _) (v := ?_) rfl (by kernel_rfl) (by kernel_rfl) (by kernel_rfl) (fun _ _ _ h => h) (Or.inl ⟨by rfl, ?_⟩) (by assumption) ?_
    rotate_left
    · intro W hSw
      go_simp
      first | done | (with_reducible rfl)
    try simp only [Act.put, List.setIfInBounds_toArray, List.set_cons_zero, List.set_cons_succ, List.getElem_toArray, List.getElem_cons_succ, List.getElem_cons_zero]
    refine' wpAnyH_take (i := 6) (oi := _) (v := (.bool false)) rfl (by kernel_rfl) (by kernel_rfl) (by kernel_rfl) (fun _ _ _ h => h) (Or.inl ⟨by rfl, ?_⟩) (by assumption) ?_
    · intro W hSw
      go_simp
      first | done | (simp [ym]; done)
    try simp only [Act.put, List.setIfInBounds_toArray, List.set_cons_zero, List.set_cons_succ, List.getElem_toArray, List.getElem_cons_succ, List.getElem_cons_zero]
    refine' wpAnyH_take (i := 7) (oi := _) (v := ?_) rfl (by kernel_rfl) (by kernel_rfl) (by kernel_rfl) (fun _ _ _ h => h) (Or.inl ⟨by rfl, ?_⟩) (by assumption) ?_
    rotate_left
    · intro W hSw
      go_simp
      first | done | (with_reducible rfl)
    try simp only [Act.put, List.setIfInBounds_toArray, List.set_cons_zero, List.set_cons_succ, List.getElem_toArray, List.getElem_cons_succ, List.getElem_cons_zero]
    refine' wpAnyH_take (i := 8) (oi := _) (v := ?_) rfl (by kernel_rfl) (by kernel_rfl) (by kernel_rfl) (fun _ _ _ h => h) (Or.inl ⟨by rfl, ?_⟩) (by assumption) ?_
    rotate_left
    · intro W hSw
      go_simp
      first | done | (with_reducible rfl)
    try simp only [Act.put, List.setIfInBounds_toArray, List.set_cons_zero, List.set_cons_succ, List.getElem_toArray, List.getElem_cons_succ, List.getElem_cons_zero]
    refine' wpAnyH_take (i := 9) (oi := _) (v := ?_) rfl (by kernel_rfl) (by kernel_rfl) (by kernel_rfl) (fun _ _ _ h => h) (Or.inl ⟨by rfl, ?_⟩) (by assumption) ?_
    rotate_left
    · intro W hSw
      go_simp
      first | done | (with_reducible rfl)
    try simp only [Act.put, List.setIfInBounds_toArray, List.set_cons_zero, List.set_cons_succ, List.getElem_toArray, List.getElem_cons_succ, List.getElem_cons_zero]
    refine' wpAnyH_take (i := 10) (oi := _) (v := ?_) rfl (by kernel_rfl) (by kernel_rfl) (by kernel_rfl) (fun _ _ _ h => h) (Or.inl ⟨by rfl, ?_⟩) (by assumption) ?_
    rotate_left
    · intro W hSw
      have hCell := (hSw.cell (World.block_lt_of_cell? _ _ hcell)).trans hcell
      go_simp
      first | done | (with_reducible rfl)
    try simp only [Act.put, List.setIfInBounds_toArray, List.set_cons_zero, List.set_cons_succ, List.getElem_toArray, List.getElem_cons_succ, List.getElem_cons_zero]
    refine' wpAnyH_take (i := 13) (oi := _) (v := _) rfl (by kernel_rfl) (by kernel_rfl) (by kernel_rfl) (fun _ _ _ h => h) (yieldsIf_load_mid (by rfl) _ _ rfl _ _ rfl _ _ (fun _ h => rangeBel2 h E5.out) hu rfl hiR.out) (by assumption) ?_
    try simp only [Act.put, List.setIfInBounds_toArray, List.set_cons_zero, List.set_cons_succ, List.getElem_toArray, List.getElem_cons_succ, List.getElem_cons_zero]
    refine wpAnyH_ready (rs := [11]) (by kernel_rfl) (by simp) ?_
    refine AllReadyH.cons (o := _) rfl (fun K hK => ?_) AllReadyH.nil
    refine step_buildOneG slotBs (by decide) (by rfl) (.tmp 68) rfl [.slice A8 u0.length c8] rfl rfl ?_
    have hB9 := ext_alloc w5.drew (.cells [Value.slice A8 u0.length c8].toArray 24)
    refine hK.out _ _ ?_ (fun hHeld => ?_)
    · exact hHeld.trans (hB9.mono hHeld.size)
    clear hK K
    try simp only [Act.put, List.setIfInBounds_toArray, List.set_cons_zero, List.set_cons_succ, List.getElem_toArray, List.getElem_cons_succ, List.getElem_cons_zero]
    refine wpAnyH_ready (rs := [12]) (by kernel_rfl) (by simp) ?_
    refine AllReadyH.cons (o := _) rfl (fun K hK => ?_) AllReadyH.nil
    go_simp
    refine (hO0.out _ _ (hR8.out w5.drew hrd8.out) (T5.out.bel hHeld l5.out)).mono ?_
    rintro e8 w8 ⟨rfl, hB⟩
    go_wp2_with fail
    refine hK.out _ _ ?_ (fun hHeld => ?_)
    · exact hHeld.trans (hB.mono hHeld.size)
    clear hK K
    try simp only [Act.put, List.setIfInBounds_toArray, List.set_cons_zero, List.set_cons_succ, List.getElem_toArray, List.getElem_cons_succ, List.getElem_cons_zero]
    refine' wpAnyH_take (i := 14) (oi := _) (v := ?_) rfl (by kernel_rfl) (by kernel_rfl) (by kernel_rfl) (fun _ _ _ h => h) (Or.inl ⟨by rfl, ?_⟩) (by assumption) ?_
    rotate_left
    · intro W hSw
      go_simp
      first | done | (with_reducible rfl)
    try simp only [Act.put, List.setIfInBounds_toArray, List.set_cons_zero, List.set_cons_succ, List.getElem_toArray, List.getElem_cons_succ, List.getElem_cons_zero]
    refine' wpAnyH_take (i := 15) (oi := _) (v := ?_) rfl (by kernel_rfl) (by kernel_rfl) (by kernel_rfl) (fun _ _ _ h => h) (Or.inl ⟨by rfl, ?_⟩) (by assumption) ?_
    rotate_left
    · intro W hSw
      go_simp
      first | done | (with_reducible rfl)
    try simp only [Act.put, List.setIfInBounds_toArray, List.set_cons_zero, List.set_cons_succ, List.getElem_toArray, List.getElem_cons_succ, List.getElem_cons_zero]
    refine' wpAnyH_take (i := 16) (oi := _) (v := ?_) rfl (by kernel_rfl) (by kernel_rfl) (by kernel_rfl) (fun _ _ _ h => h) (Or.inl ⟨by rfl, ?_⟩) (by assumption) ?_
    rotate_left
    · intro W hSw
      go_simp
      first | done | (with_reducible rfl)
    try simp only [Act.put, List.setIfInBounds_toArray, List.set_cons_zero, List.set_cons_succ, List.getElem_toArray, List.getElem_cons_succ, List.getElem_cons_zero]
    refine' wpAnyH_take (i := 17) (oi := _) (v := _) rfl (by kernel_rfl) (by kernel_rfl) (by kernel_rfl) (fun _ _ _ h => h) (yieldsIf_load_mid (by rfl) _ _ rfl _ _ rfl _ _ (fun _ h => rangeBel2 h X5.out) hup rfl hi0.out) (by assumption) ?_
    try simp only [Act.put, List.setIfInBounds_toArray, List.set_cons_zero, List.set_cons_succ, List.getElem_toArray, List.getElem_cons_succ, List.getElem_cons_zero]
    refine' wpAnyH_take (i := 18) (oi := _) (v := _) rfl (by kernel_rfl) (by kernel_rfl) (by kernel_rfl) (fun _ _ _ h => h) (yieldsIf_load_mid (by rfl) _ _ rfl _ _ rfl _ _ (fun _ h => rangeBel2 h E5.out) hu rfl hiR.out) (by assumption) ?_
    try simp only [Act.put, List.setIfInBounds_toArray, List.set_cons_zero, List.set_cons_succ, List.getElem_toArray, List.getElem_cons_succ, List.getElem_cons_zero]
    refine wpAnyH_ready (rs := [19]) (by kernel_rfl) (by simp) ?_
    refine AllReadyH.cons (o := _) rfl (fun K hK => ?_) AllReadyH.nil
    go_simp
    refine (hF3.out _ (V5.out.bel hHeld) (S5.out.bel hHeld) (T5.out.bel hHeld l5.out)).mono ?_
    rintro e8 w8 ⟨rfl, hB⟩
    go_wp2_with fail
    refine hK.out _ _ ?_ (fun hHeld => ?_)
    · exact hHeld.trans (hB.mono hHeld.size)
    clear hK K
    try simp only [Act.put, List.setIfInBounds_toArray, List.set_cons_zero, List.set_cons_succ, List.getElem_toArray, List.getElem_cons_succ, List.getElem_cons_zero]
    refine' wpAnyH_take (i := 20) (oi := _) (v := ?_) rfl (by kernel_rfl) (by kernel_rfl) (by kernel_rfl) (fun _ _ _ h => h) (Or.inl ⟨by rfl, ?_⟩) (by assumption) ?_
    rotate_left
    · intro W hSw
      go_simp
      first | done | (with_reducible rfl)
    try simp only [Act.put, List.setIfInBounds_toArray, List.set_cons_zero, List.set_cons_succ, List.getElem_toArray, List.getElem_cons_succ, List.getElem_cons_zero]
    refine' wpAnyH_take (i := 21) (oi := _) (v := ?_) rfl (by kernel_rfl) (by kernel_rfl) (by kernel_rfl) (fun _ _ _ h => h) (Or.inl ⟨by rfl, ?_⟩) (by assumption) ?_
    rotate_left
    · intro W hSw
      go_simp
      first | done | (with_reducible rfl)
    try simp only [Act.put, List.setIfInBounds_toArray, List.set_cons_zero, List.set_cons_succ, List.getElem_toArray, List.getElem_cons_succ, List.getElem_cons_zero]
    refine wpAnyH_done (by kernel_rfl) ?_ _
    refine NoPanic.normal ?_
    have sd9 := (hHeld.cell (World.block_lt_of_cell? _ _ sd5)).trans sd5
    have X9 := hid (rangeBel2 hHeld X5.out)
    have V9 := hid (V5.out.bel hHeld)
    have S9 := hid (S5.out.bel hHeld)
    have T9 := hid (T5.out.bel hHeld (Nat.lt_of_lt_of_le hlow.out W5.out.size))
    have L9 := hid (L5.out.bel hHeld)
    have W9 := hid (W5.out.trans (hHeld.mono W5.out.size))
    clear X5 V5 S5 T5 L5 W5
    clear hHeld sd5 hcell hR8 hrd8 hO0 hF3 E5 l5
    have l9 := hid (Nat.lt_of_lt_of_le hlow.out W9.out.size)
    go_wp2
    go_loopw [8] (fun v wr => ∃ j : Nat, j ≤ x0.ss.length ∧ v = .int .i64 j ∧ Below w8.heap.size w8 wr) (fun v _ => x0.ss.length - (intOf v).toNat)
    case atStart => exact ⟨0, Nat.zero_le _, rfl, Below.refl _ _⟩
    case round =>
      obtain ⟨j, hj, rfl, hbr⟩ := hrel
      have sdr := (hbr.cell (World.block_lt_of_cell? _ _ sd9)).trans sd9
      by_cases hlt : j < x0.ss.length
      · obtain ⟨u, hu1, hu2⟩ := hget.out j hlt
        obtain ⟨b', o', hA', hc'⟩ := (L9.out.bel hbr) (by have := hlen.out; omega)
        injection hA' with hA'
        injection hA' with hA1' hA2'
        subst hA1' hA2'
        obtain ⟨A2, c2, cell2, rd2, k2⟩ := hc' j _ hu2
        obtain ⟨A5, c5, cell5, rd5, k5⟩ := hc' (j + 1) u hu1
        have hsr := (S9.out.bel hbr)
        obtain ⟨q, o, hD, hside⟩ := row_dgV hsr hlt
        subst hD
        obtain ⟨p0, p1, hpp, e1, e2, e3⟩ := forkI_parts x0.k j x0.ss[j] (sha256 u) (shaLen u)
        have hfl := hul.out _ (List.mem_of_getElem? hu2)
        have hul2 := hul.out _ (List.mem_of_getElem? hu1)
        generalize x0.ss[j] = s at *
        generalize forkI x0.k j s (sha256 u) = fk at *
        obtain ⟨dg, hdg⟩ : ∃ dg : Dg, dg.1 = sha256 u := ⟨⟨sha256 u, shaLen u⟩, rfl⟩
        rw [← hdg] at hpp
        have hTP := fun W (hW : Rd W A2 fk) => TParts_any A2 c2 fk.length fk W hW rfl (by omega) k2.1 (by have := k2.2; unfold maxLen at this; omega)
        rw [e1, e2, e3] at hTP
        have hO1 := fun W A (hW : Rds W A [u]) hTW => Of_any A 1 1 [u] W hW rfl (by simp) (by simp; omega) hTW
        rw [show sha256 [u].flatten = dg.1 by rw [hdg]; simp] at hO1
        obtain ⟨qa, hqa⟩ : ∃ qa, decide (p0 = dg.1) = qa := ⟨_, rfl⟩
        obtain ⟨qb, hqb⟩ : ∃ qb, decide (p1 = dg.1) = qb := ⟨_, rfl⟩
        obtain ⟨qx, hqx⟩ : ∃ qx, decide (p0 = s.1) = qx := ⟨_, rfl⟩
        obtain ⟨qy, hqy⟩ : ∃ qy, decide (p1 = s.1) = qy := ⟨_, rfl⟩
        have hq : (qa && qy) = true ∨ (qb && qx) = true := by
          rw [← hqa, ← hqb, ← hqx, ← hqy]
          rcases hpp with ⟨h1, h2⟩ | ⟨h1, h2⟩
          · left; rw [h1, h2]; simp
          · right; rw [h1, h2]; simp
        have hs0 := fun W A c A' c' (h1 : Rd W A p0) (h2 : Rd W A' dg.1) => RSame01_is A A' c c' p0 dg.1 qa W h1 h2 hqa
        have hs1 := fun W A c A' c' (h1 : Rd W A p1) (h2 : Rd W A' dg.1) => RSame01_is A A' c c' p1 dg.1 qb W h1 h2 hqb
        have hs2 := fun W A c A' c' (h1 : Rd W A p0) (h2 : Rd W A' s.1) => RSame01_is A A' c c' p0 s.1 qx W h1 h2 hqx
        have hs3 := fun W A c A' c' (h1 : Rd W A p1) (h2 : Rd W A' s.1) => RSame01_is A A' c c' p1 s.1 qy W h1 h2 hqy
        rw [dg.2] at hs0 hs1
        rw [s.2] at hs2 hs3
        have dd : (dg.1.map bv).toArray.size = 32 := by simp [dg.2]
        have do_ := bvs_all dg.1
        have hdr := hid (fun (W : World) (g : Nat) (h : W.heap[g]? = some (.cells (dg.1.map bv).toArray 23 (0, 0))) => rd_blockP h)
        have hsr2 := hid (rd_keyP hside)
        have hsl := run_all32P
        have hRo := hid (fun (W : World) (h : Rd W A5 u) => rds_one W A5 c5 u 24 h k5)
        have y1 : IntKind.i64.wrap ((j : Int) + 1) = (j : Int) + 1 := by have := h256.out; rw [IntKind.wrap_i64]; omega
        have y2 : (0 : Int) ≤ (j : Int) + 1 := by omega
        have y3 : ((j : Int) + 1).toNat = j + 1 := by omega
        have y4 : ((j : Int) + 1) < ((x0.ss.length : Int) + 1) := by omega
        have y5 : j + 1 < x0.ss.length + 1 := by omega
        have y6 : j < x0.ss.length + 1 := by omega
        have yh := hid h256.out
        replace hTP := hid hTP
        replace hO1 := hid hO1
        replace hs0 := hid hs0
        replace hs1 := hid hs1
        replace hs2 := hid hs2
        replace hs3 := hid hs3
        replace hq := hid hq
        replace rd2 := hid rd2
        replace rd5 := hid rd5
        clear hc' hu1 hu2 hpp e1 e2 e3 hfl hul2 hdg hqa hqb hqx hqy hsr hside k2 k5
        generalize hddg : dg.1.map bv = ddg at *
        replace hddg := hid hddg
        go_wp2_with fail
        refine (hTP.out _ rd2.out).mono ?_
        rintro e w10 ⟨A4, c4, rfl, hO4, hb4⟩
        have P10 := hid hO4.rds
        have B10 := hid (hbr.trans (hb4.mono hbr.size))
        have cell10 := (hb4.cell (World.block_lt_of_cell? _ _ cell5)).trans cell5
        have rd10 := hid (rd5.out.bel hb4)
        have sd10 := (hb4.cell (World.block_lt_of_cell? _ _ sdr)).trans sdr
        have sr10 := hid (hsr2.out.bel hb4)
        have T10 := hid (T9.out.bel B10.out l9.out)
        have R10 := hid (hRo.out w10 rd10.out)
        have X10 := ext_alloc w10 (.cells [Value.slice A5 u.length c5].toArray 24)
        have T11 := hid (T10.out.bel X10 T10.out.low)
        have B11 := hid (B10.out.trans (X10.mono B10.out.size))
        have sd11 := (X10.cell (World.block_lt_of_cell? _ _ sd10)).trans sd10
        have sr11 := hid (sr10.out.bel X10)
        have P11 := hid (P10.out.bel X10)
        clear hO4 hb4 cell2 cell5 rd2 rd5 hsr2 hTP hRo sdr rd10 sd10 sr10 T10 B10 P10 X10 hbr
        go_wp2_with fail
        refine (hO1.out _ _ R10.out T11.out).mono ?_
        rintro e w11 ⟨rfl, hb⟩
        have B12 := hid (B11.out.trans (hb.mono B11.out.size))
        have sd12 := (hb.cell (World.block_lt_of_cell? _ _ sd11)).trans sd11
        have sr12 := hid (sr11.out.bel hb)
        have P12 := hid (P11.out.bel hb)
        have e12 := hid (heap_alloc_new w11 (.cells z32 23))
        clear hb R10 T11 B11 sd11 sr11 P11 hO1 cell10
        go_wp2_with (first
          | (with_reducible refine wpList_alloc_row rfl 23 rfl z32 info32 ?_)
          | ((with_reducible refine wpList_store_row rfl 23 (.tmp 12) (.tmp 102) rfl _ _ rfl rfl 23 z32 ?_ ?_ ?_ ?_ ?_); exact e12.out; (rw [dd]; exact size32); (rw [dd]; exact z32_size); exact do_; intro w12 hgS hbS hsS; have Z_ := hid (xnewP rfl hbS); have D13 := hid (hdr.out w12 _ hgS); have B13 := hid (B12.out.trans (Z_.out.mono B12.out.size)); have sd13 := (Z_.out.cell (World.block_lt_of_cell? _ _ sd12)).trans sd12; have sr13 := hid (sr12.out.bel Z_.out); have P13 := hid (P12.out.bel Z_.out); clear hgS hbS hsS Z_ B12 sd12 sr12 P12 e12))
        obtain ⟨bp, op, hAp, hcp⟩ := P13.out (by simp)
        subst hAp
        obtain ⟨a0, m0, pc0, pr0, -⟩ := hcp 0 p0 rfl
        obtain ⟨a1, m1, pc1, pr1, -⟩ := hcp 1 p1 rfl
        rw [Nat.add_zero] at pc0
        replace pr0 := hid pr0
        replace pr1 := hid pr1
        clear hcp P13
        refine wp_region_noPanic ?_
        refine wp_region_held_drew (S := fun w' => Below w12.heap.size w12 w') (by kernel_rfl) ?_ (fun hHeld => ?_)
        · exact bel_drew w12
        refine' wpAnyH_take (i := 0) (oi := _) (v := ?_) rfl (by kernel_rfl) (by kernel_rfl) (by kernel_rfl) (fun _ _ _ h => h) (Or.inl ⟨by rfl, ?_⟩) (by assumption) ?_
        rotate_left
        · intro W hSw
          go_simp
          first | done | (with_reducible rfl)
        try simp only [Act.put, List.setIfInBounds_toArray, List.set_cons_zero, List.set_cons_succ, List.getElem_toArray, List.getElem_cons_succ, List.getElem_cons_zero]
        refine' wpAnyH_take (i := 1) (oi := _) (v := ?_) rfl (by kernel_rfl) (by kernel_rfl) (by kernel_rfl) (fun _ _ _ h => h) (Or.inl ⟨by rfl, ?_⟩) (by assumption) ?_
        rotate_left
        · intro W hSw
          go_simp
          first | done | (with_reducible rfl)
        try simp only [Act.put, List.setIfInBounds_toArray, List.set_cons_zero, List.set_cons_succ, List.getElem_toArray, List.getElem_cons_succ, List.getElem_cons_zero]
        refine' wpAnyH_take (i := 2) (oi := _) (v := ?_) rfl (by kernel_rfl) (by kernel_rfl) (by kernel_rfl) (fun _ _ _ h => h) (Or.inl ⟨by rfl, ?_⟩) (by assumption) ?_
        rotate_left
        · intro W hSw
          have hCell := (hSw.cell (World.block_lt_of_cell? _ _ pc0)).trans pc0
          go_simp
          first | done | (with_reducible rfl)
        try simp only [Act.put, List.setIfInBounds_toArray, List.set_cons_zero, List.set_cons_succ, List.getElem_toArray, List.getElem_cons_succ, List.getElem_cons_zero]
        refine' wpAnyH_take (i := 3) (oi := _) (v := _) rfl (by kernel_rfl) (by kernel_rfl) (by kernel_rfl) (fun _ _ _ h => h) (yieldsIf_slice (by rfl) _ _ _ _ _ rfl _ _ _ _ _ (fun W => run_all32P _ W) rfl rfl rfl rfl) (by assumption) ?_
        try simp only [Act.put, List.setIfInBounds_toArray, List.set_cons_zero, List.set_cons_succ, List.getElem_toArray, List.getElem_cons_succ, List.getElem_cons_zero]
        refine' wpAnyH_take (i := 5) (oi := _) (v := ?_) rfl (by kernel_rfl) (by kernel_rfl) (by kernel_rfl) (fun _ _ _ h => h) (Or.inl ⟨by rfl, ?_⟩) (by assumption) ?_
        rotate_left
        · intro W hSw
          go_simp
          first | done | (with_reducible rfl)
        try simp only [Act.put, List.setIfInBounds_toArray, List.set_cons_zero, List.set_cons_succ, List.getElem_toArray, List.getElem_cons_succ, List.getElem_cons_zero]
        refine' wpAnyH_take (i := 6) (oi := _) (v := ?_) rfl (by kernel_rfl) (by kernel_rfl) (by kernel_rfl) (fun _ _ _ h => h) (Or.inl ⟨by rfl, ?_⟩) (by assumption) ?_
        rotate_left
        · intro W hSw
          go_simp
          first | done | (with_reducible rfl)
        try simp only [Act.put, List.setIfInBounds_toArray, List.set_cons_zero, List.set_cons_succ, List.getElem_toArray, List.getElem_cons_succ, List.getElem_cons_zero]
        refine' wpAnyH_take (i := 7) (oi := _) (v := ?_) rfl (by kernel_rfl) (by kernel_rfl) (by kernel_rfl) (fun _ _ _ h => h) (Or.inl ⟨by rfl, ?_⟩) (by assumption) ?_
        rotate_left
        · intro W hSw
          have hCell := (hSw.cell (World.block_lt_of_cell? _ _ pc1)).trans pc1
          go_simp
          first | done | (with_reducible rfl)
        try simp only [Act.put, List.setIfInBounds_toArray, List.set_cons_zero, List.set_cons_succ, List.getElem_toArray, List.getElem_cons_succ, List.getElem_cons_zero]
        refine' wpAnyH_take (i := 8) (oi := _) (v := _) rfl (by kernel_rfl) (by kernel_rfl) (by kernel_rfl) (fun _ _ _ h => h) (yieldsIf_slice (by rfl) _ _ _ _ _ rfl _ _ _ _ _ (fun W => run_all32P _ W) rfl rfl rfl rfl) (by assumption) ?_
        try simp only [Act.put, List.setIfInBounds_toArray, List.set_cons_zero, List.set_cons_succ, List.getElem_toArray, List.getElem_cons_succ, List.getElem_cons_zero]
        refine wpAnyH_ready (rs := [4]) (by kernel_rfl) (by simp) ?_
        refine AllReadyH.cons (o := _) rfl (fun K hK => ?_) AllReadyH.nil
        go_simp
        refine (hs0.out _ _ _ _ _ (pr0.out.bel hHeld) (D13.out.bel hHeld)).mono ?_
        rintro e8 w9 ⟨rfl, rfl⟩
        go_wp2_with fail
        refine hK.out _ _ ?_ (fun hHeld => ?_)
        · exact hHeld
        clear hK K
        try simp only [Act.put, List.setIfInBounds_toArray, List.set_cons_zero, List.set_cons_succ, List.getElem_toArray, List.getElem_cons_succ, List.getElem_cons_zero]
        refine wpAnyH_ready (rs := [9]) (by kernel_rfl) (by simp) ?_
        refine AllReadyH.cons (o := _) rfl (fun K hK => ?_) AllReadyH.nil
        go_simp
        refine (hs1.out _ _ _ _ _ (pr1.out.bel hHeld) (D13.out.bel hHeld)).mono ?_
        rintro e8 w9 ⟨rfl, rfl⟩
        go_wp2_with fail
        refine hK.out _ _ ?_ (fun hHeld => ?_)
        · exact hHeld
        clear hK K
        try simp only [Act.put, List.setIfInBounds_toArray, List.set_cons_zero, List.set_cons_succ, List.getElem_toArray, List.getElem_cons_succ, List.getElem_cons_zero]
        refine' wpAnyH_take (i := 10) (oi := _) (v := ?_) rfl (by kernel_rfl) (by kernel_rfl) (by kernel_rfl) (fun _ _ _ h => h) (Or.inl ⟨by rfl, ?_⟩) (by assumption) ?_
        rotate_left
        · intro W hSw
          go_simp
          first | done | (with_reducible rfl)
        try simp only [Act.put, List.setIfInBounds_toArray, List.set_cons_zero, List.set_cons_succ, List.getElem_toArray, List.getElem_cons_succ, List.getElem_cons_zero]
        refine' wpAnyH_take (i := 11) (oi := _) (v := ?_) rfl (by kernel_rfl) (by kernel_rfl) (by kernel_rfl) (fun _ _ _ h => h) (Or.inl ⟨by rfl, ?_⟩) (by assumption) ?_
        rotate_left
        · intro W hSw
          go_simp
          first | done | (with_reducible rfl)
        try simp only [Act.put, List.setIfInBounds_toArray, List.set_cons_zero, List.set_cons_succ, List.getElem_toArray, List.getElem_cons_succ, List.getElem_cons_zero]
        refine wpAnyH_done (by kernel_rfl) ?_ _
        refine NoPanic.normal ?_
        clear hHeld
        go_wp2
        refine wp_region_noPanic ?_
        refine wp_region_held_drew (S := fun w' => Below w12.heap.size w12 w') (by kernel_rfl) ?_ (fun hHeld => ?_)
        · exact ((bel_drew w12).trans (bel_drew w12.drew))
        refine' wpAnyH_take (i := 0) (oi := _) (v := ?_) rfl (by kernel_rfl) (by kernel_rfl) (by kernel_rfl) (fun _ _ _ h => h) (Or.inl ⟨by rfl, ?_⟩) (by assumption) ?_
        rotate_left
        · intro W hSw
          go_simp
          first | done | (with_reducible rfl)
        try simp only [Act.put, List.setIfInBounds_toArray, List.set_cons_zero, List.set_cons_succ, List.getElem_toArray, List.getElem_cons_succ, List.getElem_cons_zero]
        refine' wpAnyH_take (i := 1) (oi := _) (v := ?_) rfl (by kernel_rfl) (by kernel_rfl) (by kernel_rfl) (fun _ _ _ h => h) (Or.inl ⟨by rfl, ?_⟩) (by assumption) ?_
        rotate_left
        · intro W hSw
          go_simp
          first | done | (with_reducible rfl)
        try simp only [Act.put, List.setIfInBounds_toArray, List.set_cons_zero, List.set_cons_succ, List.getElem_toArray, List.getElem_cons_succ, List.getElem_cons_zero]
        refine' wpAnyH_take (i := 2) (oi := _) (v := ?_) rfl (by kernel_rfl) (by kernel_rfl) (by kernel_rfl) (fun _ _ _ h => h) (Or.inl ⟨by rfl, ?_⟩) (by assumption) ?_
        rotate_left
        · intro W hSw
          have hCell := (hSw.cell (World.block_lt_of_cell? _ _ pc0)).trans pc0
          go_simp
          first | done | (with_reducible rfl)
        try simp only [Act.put, List.setIfInBounds_toArray, List.set_cons_zero, List.set_cons_succ, List.getElem_toArray, List.getElem_cons_succ, List.getElem_cons_zero]
        refine' wpAnyH_take (i := 3) (oi := _) (v := ?_) rfl (by kernel_rfl) (by kernel_rfl) (by kernel_rfl) (fun _ _ _ h => h) (Or.inl ⟨by rfl, ?_⟩) (by assumption) ?_
        rotate_left
        · intro W hSw
          go_simp
          first | done | (with_reducible rfl)
        try simp only [Act.put, List.setIfInBounds_toArray, List.set_cons_zero, List.set_cons_succ, List.getElem_toArray, List.getElem_cons_succ, List.getElem_cons_zero]
        refine' wpAnyH_take (i := 4) (oi := _) (v := ?_) rfl (by kernel_rfl) (by kernel_rfl) (by kernel_rfl) (fun _ _ _ h => h) (Or.inl ⟨by rfl, ?_⟩) (by assumption) ?_
        rotate_left
        · intro W hSw
          have hCell := (hSw.cell (World.block_lt_of_cell? _ _ sd13)).trans sd13
          go_simp
          first | done | (with_reducible rfl)
        try simp only [Act.put, List.setIfInBounds_toArray, List.set_cons_zero, List.set_cons_succ, List.getElem_toArray, List.getElem_cons_succ, List.getElem_cons_zero]
        refine' wpAnyH_take (i := 5) (oi := _) (v := ?_) rfl (by kernel_rfl) (by kernel_rfl) (by kernel_rfl) (fun _ _ _ h => h) (Or.inl ⟨by rfl, ?_⟩) (by assumption) ?_
        rotate_left
        · intro W hSw
          go_simp
          first | done | (with_reducible rfl)
        try simp only [Act.put, List.setIfInBounds_toArray, List.set_cons_zero, List.set_cons_succ, List.getElem_toArray, List.getElem_cons_succ, List.getElem_cons_zero]
        refine' wpAnyH_take (i := 6) (oi := _) (v := ?_) rfl (by kernel_rfl) (by kernel_rfl) (by kernel_rfl) (fun _ _ _ h => h) (Or.inl ⟨by rfl, ?_⟩) (by assumption) ?_
        rotate_left
        · intro W hSw
          go_simp
          first | done | (with_reducible rfl)
        try simp only [Act.put, List.setIfInBounds_toArray, List.set_cons_zero, List.set_cons_succ, List.getElem_toArray, List.getElem_cons_succ, List.getElem_cons_zero]
        refine' wpAnyH_take (i := 7) (oi := _) (v := _) rfl (by kernel_rfl) (by kernel_rfl) (by kernel_rfl) (fun _ _ _ h => h) (yieldsIf_slice (by rfl) _ _ _ _ _ rfl _ _ _ _ _ (fun W => run_all32P _ W) rfl rfl rfl rfl) (by assumption) ?_
        try simp only [Act.put, List.setIfInBounds_toArray, List.set_cons_zero, List.set_cons_succ, List.getElem_toArray, List.getElem_cons_succ, List.getElem_cons_zero]
        refine' wpAnyH_take (i := 9) (oi := _) (v := ?_) rfl (by kernel_rfl) (by kernel_rfl) (by kernel_rfl) (fun _ _ _ h => h) (Or.inl ⟨by rfl, ?_⟩) (by assumption) ?_
        rotate_left
        · intro W hSw
          go_simp
          first | done | (with_reducible rfl)
        try simp only [Act.put, List.setIfInBounds_toArray, List.set_cons_zero, List.set_cons_succ, List.getElem_toArray, List.getElem_cons_succ, List.getElem_cons_zero]
        refine' wpAnyH_take (i := 10) (oi := _) (v := ?_) rfl (by kernel_rfl) (by kernel_rfl) (by kernel_rfl) (fun _ _ _ h => h) (Or.inl ⟨by rfl, ?_⟩) (by assumption) ?_
        rotate_left
        · intro W hSw
          go_simp
          first | done | (with_reducible rfl)
        try simp only [Act.put, List.setIfInBounds_toArray, List.set_cons_zero, List.set_cons_succ, List.getElem_toArray, List.getElem_cons_succ, List.getElem_cons_zero]
        refine' wpAnyH_take (i := 11) (oi := _) (v := ?_) rfl (by kernel_rfl) (by kernel_rfl) (by kernel_rfl) (fun _ _ _ h => h) (Or.inl ⟨by rfl, ?_⟩) (by assumption) ?_
        rotate_left
        · intro W hSw
          have hCell := (hSw.cell (World.block_lt_of_cell? _ _ pc1)).trans pc1
          go_simp
          first | done | (with_reducible rfl)
        try simp only [Act.put, List.setIfInBounds_toArray, List.set_cons_zero, List.set_cons_succ, List.getElem_toArray, List.getElem_cons_succ, List.getElem_cons_zero]
        refine' wpAnyH_take (i := 12) (oi := _) (v := ?_) rfl (by kernel_rfl) (by kernel_rfl) (by kernel_rfl) (fun _ _ _ h => h) (Or.inl ⟨by rfl, ?_⟩) (by assumption) ?_
        rotate_left
        · intro W hSw
          go_simp
          first | done | (with_reducible rfl)
        try simp only [Act.put, List.setIfInBounds_toArray, List.set_cons_zero, List.set_cons_succ, List.getElem_toArray, List.getElem_cons_succ, List.getElem_cons_zero]
        refine' wpAnyH_take (i := 13) (oi := _) (v := ?_) rfl (by kernel_rfl) (by kernel_rfl) (by kernel_rfl) (fun _ _ _ h => h) (Or.inl ⟨by rfl, ?_⟩) (by assumption) ?_
        rotate_left
        · intro W hSw
          have hCell := (hSw.cell (World.block_lt_of_cell? _ _ sd13)).trans sd13
          go_simp
          first | done | (with_reducible rfl)
        try simp only [Act.put, List.setIfInBounds_toArray, List.set_cons_zero, List.set_cons_succ, List.getElem_toArray, List.getElem_cons_succ, List.getElem_cons_zero]
        refine' wpAnyH_take (i := 14) (oi := _) (v := ?_) rfl (by kernel_rfl) (by kernel_rfl) (by kernel_rfl) (fun _ _ _ h => h) (Or.inl ⟨by rfl, ?_⟩) (by assumption) ?_
        rotate_left
        · intro W hSw
          go_simp
          first | done | (with_reducible rfl)
        try simp only [Act.put, List.setIfInBounds_toArray, List.set_cons_zero, List.set_cons_succ, List.getElem_toArray, List.getElem_cons_succ, List.getElem_cons_zero]
        refine' wpAnyH_take (i := 15) (oi := _) (v := ?_) rfl (by kernel_rfl) (by kernel_rfl) (by kernel_rfl) (fun _ _ _ h => h) (Or.inl ⟨by rfl, ?_⟩) (by assumption) ?_
        rotate_left
        · intro W hSw
          go_simp
          first | done | (with_reducible rfl)
        try simp only [Act.put, List.setIfInBounds_toArray, List.set_cons_zero, List.set_cons_succ, List.getElem_toArray, List.getElem_cons_succ, List.getElem_cons_zero]
        refine' wpAnyH_take (i := 16) (oi := _) (v := _) rfl (by kernel_rfl) (by kernel_rfl) (by kernel_rfl) (fun _ _ _ h => h) (yieldsIf_slice (by rfl) _ _ _ _ _ rfl _ _ _ _ _ (fun W => run_all32P _ W) rfl rfl rfl rfl) (by assumption) ?_
        try simp only [Act.put, List.setIfInBounds_toArray, List.set_cons_zero, List.set_cons_succ, List.getElem_toArray, List.getElem_cons_succ, List.getElem_cons_zero]
        refine wpAnyH_ready (rs := [8]) (by kernel_rfl) (by simp) ?_
        refine AllReadyH.cons (o := _) rfl (fun K hK => ?_) AllReadyH.nil
        go_simp
        refine (hs2.out _ _ _ _ _ (pr0.out.bel hHeld) (sr13.out.bel hHeld)).mono ?_
        rintro e8 w9 ⟨rfl, rfl⟩
        go_wp2_with fail
        refine hK.out _ _ ?_ (fun hHeld => ?_)
        · exact hHeld
        clear hK K
        try simp only [Act.put, List.setIfInBounds_toArray, List.set_cons_zero, List.set_cons_succ, List.getElem_toArray, List.getElem_cons_succ, List.getElem_cons_zero]
        refine wpAnyH_ready (rs := [17]) (by kernel_rfl) (by simp) ?_
        refine AllReadyH.cons (o := _) rfl (fun K hK => ?_) AllReadyH.nil
        go_simp
        refine (hs3.out _ _ _ _ _ (pr1.out.bel hHeld) (sr13.out.bel hHeld)).mono ?_
        rintro e8 w9 ⟨rfl, rfl⟩
        go_wp2_with fail
        refine hK.out _ _ ?_ (fun hHeld => ?_)
        · exact hHeld
        clear hK K
        try simp only [Act.put, List.setIfInBounds_toArray, List.set_cons_zero, List.set_cons_succ, List.getElem_toArray, List.getElem_cons_succ, List.getElem_cons_zero]
        refine' wpAnyH_take (i := 18) (oi := _) (v := ?_) rfl (by kernel_rfl) (by kernel_rfl) (by kernel_rfl) (fun _ _ _ h => h) (Or.inl ⟨by rfl, ?_⟩) (by assumption) ?_
        rotate_left
        · intro W hSw
          go_simp
          first | done | (with_reducible rfl)
        try simp only [Act.put, List.setIfInBounds_toArray, List.set_cons_zero, List.set_cons_succ, List.getElem_toArray, List.getElem_cons_succ, List.getElem_cons_zero]
        refine' wpAnyH_take (i := 19) (oi := _) (v := ?_) rfl (by kernel_rfl) (by kernel_rfl) (by kernel_rfl) (fun _ _ _ h => h) (Or.inl ⟨by rfl, ?_⟩) (by assumption) ?_
        rotate_left
        · intro W hSw
          go_simp
          first | done | (with_reducible rfl)
        try simp only [Act.put, List.setIfInBounds_toArray, List.set_cons_zero, List.set_cons_succ, List.getElem_toArray, List.getElem_cons_succ, List.getElem_cons_zero]
        refine wpAnyH_done (by kernel_rfl) ?_ _
        refine NoPanic.normal ?_
        have hq2 := hq.out
        have hbe := hid (B13.out.trans (hHeld.mono B13.out.size))
        have y9 := yh.out
        clear hHeld hs0 hs1 hs2 hs3 pc0 pc1 sd13
        cases qa <;> cases qy <;> cases qb <;> cases qx <;> first
          | (exact absurd hq2 (by decide))
          | (go_wp2; go_roundw; (case rel => exact ⟨j + 1, by omega, by go_num, hbe.out⟩); (case measure => (simp [intOf]; omega)))
      · obtain rfl : j = x0.ss.length := by omega
        go_wp2
        go_ret
        exact ⟨rfl, W9.out.trans (hbr.mono W9.out.size)⟩

/-! ### WHAT THE WALK GIVES, FOR EVERY ARGUMENT AND EVERY WORLD THAT HOLDS THE TABLE -/
set_option maxRecDepth 100000 in
theorem contract (H : Type) (enc : TypeId × Value → H) (W : World) (base : Nat) (args : Array Value) (ds gs : List (DataW H)) (before : List MemPlace)
    (hval0 : ∀ (j : Nat) t v, Tryd.f3.params[j]? = some t → args[j]? = some v → Value.okWide Tryd.prog W .any base t v)
    (hW : DataW.Whole enc Tryd.prog Tryd.f3.params.toList Rows.verifyChainSpec.vars false W args.toList ds gs before) (hL : laidMetH Tryd.prog Rows.verifyChainRow.laid W) :
    Calls Tryd.prog 3 args W fun e W' => ∃ v, e = .returned v ∧ Rows.verifyChainSpec.post enc Tryd.prog Tryd.f3 false true false false W args v W' := by
  have hval : ∀ (j : Nat) t v, Tryd.f3.params[j]? = some t → args[j]? = some v → Value.okWide Tryd.prog W .any base t v := hval0
  have hW' := hW
  obtain ⟨p, q, hA0, hV, rfl, hfz, hnd⟩ := hW
  have hA : DataW.TrodAll enc Tryd.prog W 0 (fun _ => true) true Tryd.f3.params.toList args.toList ds p := hA0
  rw [Tryd.params3] at hA hval
  obtain ⟨v0, vs0, d0, ds0, p0, q0, hargs, rfl, rfl, h0, r0⟩ := trodAll_cons hA
  obtain ⟨rfl, rfl, rfl⟩ := trodAll_nil r0
  obtain rfl : args = #[v0] := by cases args; simp_all
  obtain ⟨rfl, rfl⟩ := trodVars_none hV
  have k0 := h0
  have lt0 : ∀ x ∈ p0, x.block < W.heap.size := by obtain ⟨m, hm⟩ := k0; exact DataW.trod_lt m _ _ _ hm
  obtain ⟨x0, vs0, rfl, w0⟩ := open_struct opensPf Tryd.underlying27 (hval 0 27 v0 rfl rfl) h0
  clear hA0 hval0
  refine (walk x0 vs0 W w0 (tab_of hL)).mono fun e W' ⟨he, bel⟩ => ?_
  subst he
  exact ⟨_, rfl, _, _, _, [], _, [], hW', trodAll_mk1 (shut_bool Tryd.underlying4 _), (trodAll_cons_mk (Below.trod laidOut (by kernel_rfl) (of_decide_eq_true (by kernel_rfl)) k0 bel lt0) trodAll_mk0), rfl, bel.frame _, fun h => by cases h⟩

theorem laid_met (os : Os) : laidMet Tryd.prog Rows.verifyChainRow.laid ((laidWorld os).forCall (fun _ _ => 0) ⟨#[], #[.agg zPfC], []⟩).memory :=
  laidMet_of_run' 8 (by kernel_rfl) (by kernel_rfl)
theorem reads (os : Os) {H : Type} (enc : TypeId × Value → H) : ∃ places, DataW.whole enc Tryd.prog ((laidWorld os).forCall (fun _ _ => 0) ⟨#[], #[.agg zPfC], []⟩).memory Tryd.f3.params.toList Rows.verifyChainSpec.vars false (#[.agg zPfC] : Array Value).toList 8 = some ([.agg [.agg (List.replicate 32 (.lit (.int .u8 0))), .lit (.int .u8 0), .agg (List.replicate 32 (.lit (.int .u8 0))), .nil, .nil]], [], places) :=
  ⟨[], by kernel_rfl⟩
set_option maxRecDepth 100000 in
theorem lifted (os : Os) (started : os.Started) (H : Type) (enc : TypeId × Value → H) (F : Stop.Interp) :
    ReturnsInHanded {} Tryd.checked os 3 .any ((OpenSpec.ofChange Rows.verifyChainSpec).preRow enc Tryd.prog Tryd.f3 Rows.verifyChainRow.domain false Rows.verifyChainRow.laid) (((OpenSpec.ofChange Rows.verifyChainSpec).at F).post enc Tryd.prog Tryd.f3 false true false false) := by
  obtain ⟨places, hx⟩ := reads os enc
  refine returnsInHanded_of_row (C := Tryd.checked) (s := OpenSpec.ofChange Rows.verifyChainSpec) own started (by kernel_rfl) Tryd.func3
    (witness_row_at (enc := enc) (C := Tryd.checked) false (laidWorld os) #[.agg zPfC] rfl (by kernel_rfl) (by kernel_rfl) (by kernel_rfl)
      (OpenSpec.preRow_of_cond 8 hx (by kernel_rfl) (fun k hk => by cases hk) (by kernel_rfl) (laid_met os))) ?_
  intro W base args ds gs before hval hW _ _ _ hL _ _
  exact contract H enc W base args ds gs before hval hW hL
theorem said : Rows.VerifyChainSaid :=
  OpenClaim.holds_of_cond 3 Tryd.f3 rfl rfl rfl rfl rfl rfl rfl ⟨rfl, rfl, rfl, rfl, rfl⟩ rfl rfl rfl rfl rfl (by kernel_rfl) Tryd.func3 (by kernel_rfl)
    (of_decide_eq_true (by kernel_rfl)) (by unfold Func.isWrapper; first | (rw [if_pos (by decide +kernel)]; kernel_rfl) | (rw [if_neg (by decide +kernel)]; exact ⟨rfl, rfl⟩))
    (fun os started H enc _ F => by rw [OpenClaim.pre_eq_preRow]; exact lifted os started H enc F)
set_option maxRecDepth 100000 in
/-- No parameter wants a stand-in; the program's own looks are off: what the card asks. -/
theorem plain (f : FuncId) (fn : Func) (hf : Tryd.pinned.checked.prog.funcNamed "beadroll/beadrolllaw08.VerifyChain" = some f) (hfn : Tryd.pinned.checked.prog.funcs[f]? = some fn) :
    false = Tryd.pinned.checked.prog.looks [] ∧ ∀ (j : Nat) t, fn.params[j]? = some t → Tryd.pinned.checked.prog.wantsStandIn t = false := by
  obtain rfl : f = 3 := Option.some.inj ((show Tryd.prog.funcNamed "beadroll/beadrolllaw08.VerifyChain" = some 3 by kernel_rfl).symm.trans hf) |>.symm
  obtain rfl : fn = Tryd.f3 := (Option.some.inj (Tryd.func3.symm.trans hfn)).symm
  refine ⟨by kernel_rfl, fun j t ht => ?_⟩
  rw [Tryd.params3] at ht
  have hm := Array.mem_of_getElem? ht
  simp only [List.mem_toArray, List.mem_cons, List.not_mem_nil, or_false] at hm
  rcases hm with rfl
  exact (show Tryd.prog.wantsStandIn 27 = false by kernel_rfl)
set_option maxRecDepth 100000 in
/-- ████ THE CARD ████ -/
theorem proved : Rows.VerifyChainCardSaid :=
  Claim7.holds_tied_plain_at .later [] _ _ _ _ said (fun _ h => by cases h) (by kernel_rfl) (fun _ h => by cases h) verifyChain_row_tie rfl ⟨rfl, rfl⟩ (by kernel_rfl) rfl plain (by kernel_rfl)
#print axioms proved
end Go.Proofs.YtnoglodggchgpabDoor.verifyChain
