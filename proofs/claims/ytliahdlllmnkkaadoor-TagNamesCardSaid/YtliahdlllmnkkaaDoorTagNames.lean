/-
  The Go function TagNames returns true: the chapter's examples.
  Conditions: none. The frame around the walk was written by program (proof-skeleton.mjs).
-/
import Derived.Test.YtliahdlllmnkkaaDoorRows
import Derived.Test.YtliahdlllmnkkaaDoorDoor
import Derived.WalkKit
import Derived.ProofKit
import Derived.OpenShut
import Derived.ShutString
import Derived.ChangeOld
import Derived.Below
import Derived.Test.YtliahdlllmnkkaaDoorAlive03
import Derived.Test.YtliahdlllmnkkaaDoorShaE
import Derived.Test.YtliahdlllmnkkaaDoorTagD
import Derived.Test.YtliahdlllmnkkaaDoorOwnL
import Derived.Test.YtliahdlllmnkkaaDoorTagP
import Derived.Test.YtliahdlllmnkkaaDoorEqD
import Derived.Test.YtliahdlllmnkkaaDoorLit
namespace Go.Proofs.YtliahdlllmnkkaaDoor.tagNames
open Go.ChangeShapes Go.WideShapes Go.ChangeAt Go.RowKit
open Go.ChangeMaps (open_string shut_string)
set_option linter.unusedVariables false      -- a walk need not use every 'w<i>' (that an integer argument fits its kind)

theorem own : ownKnob Tryd.prog.godebug = none := by kernel_rfl

/-! ### the walk -/
open Go.Proofs.YtliahdlllmnkkaaDoor
set_option maxRecDepth 100000 in
set_option maxHeartbeats 1000000 in
theorem walk  (w : World) (hT : Tab w) :
    Calls Tryd.prog 3 #[] w fun e w' => e = .returned (.bool true) ∧ Below w.heap.size w w' := by
  have hw0 := hT.low
  replace hT := hid hT
  go_enter Tryd.func3, Tryd.ntmps3
  go_wp2_with fail
  refine (TParts_any _ _ _ [7] _ (Rd.lit_ _ _ _ _ _ rfl rfl) rfl (by decide) (by decide) (by decide)).mono ?_
  rintro e w1 ⟨A1, c1, rfl, O1, B1⟩
  rw [show tagE [7] = 0 by decide, show tagK [7] = 7 by decide, show tagL [7] = [] by decide]
  have W1 : Below w.heap.size w w1 := by (repeat (first | exact Below.refl _ _ | assumption | refine ext_trans ?_ (by assumption) | refine ext_trans ?_ (ext_alloc _ _)))
  have q1 := O1.cap
  clear O1 B1
  go_wp2_with fail
  refine (TParts_any none 0 0 [] _ (fun hn => absurd hn (by simp)) rfl (by decide) (by decide) (by decide)).mono ?_
  rintro e w2 ⟨A2, c2, rfl, O2, B2⟩
  rw [show tagE [] = 10 by decide, show tagK [] = 0 by decide, show tagL [] = [] by decide]
  have W2 := ext_trans W1 B2
  replace W1 := trivial
  clear O2 B2
  go_wp2_with fail
  refine (TParts_any _ _ _ [7, 0] _ (Rd.lit_ _ _ _ _ _ rfl rfl) rfl (by decide) (by decide) (by decide)).mono ?_
  rintro e w3 ⟨A3, c3, rfl, O3, B3⟩
  rw [show tagE [7, 0] = 10 by decide, show tagK [7, 0] = 0 by decide, show tagL [7, 0] = [] by decide]
  have W3 : Below w.heap.size w w3 := by (repeat (first | exact Below.refl _ _ | assumption | refine ext_trans ?_ (by assumption) | refine ext_trans ?_ (ext_alloc _ _)))
  replace W2 := trivial
  clear O3 B3
  go_wp2_with fail
  refine (TParts_any _ _ _ [7, 0, 0, 0, 1] _ (Rd.lit_ _ _ _ _ _ rfl rfl) rfl (by decide) (by decide) (by decide)).mono ?_
  rintro e w4 ⟨A4, c4, rfl, O4, B4⟩
  rw [show tagE [7, 0, 0, 0, 1] = 10 by decide, show tagK [7, 0, 0, 0, 1] = 0 by decide, show tagL [7, 0, 0, 0, 1] = [] by decide]
  have W4 : Below w.heap.size w w4 := by (repeat (first | exact Below.refl _ _ | assumption | refine ext_trans ?_ (by assumption) | refine ext_trans ?_ (ext_alloc _ _)))
  replace W3 := trivial
  clear O4 B4
  go_wp2_with fail
  refine (TParts_any _ _ _ [7, 0, 0, 16, 1] _ (Rd.lit_ _ _ _ _ _ rfl rfl) rfl (by decide) (by decide) (by decide)).mono ?_
  rintro e w5 ⟨A5, c5, rfl, O5, B5⟩
  rw [show tagE [7, 0, 0, 16, 1] = 4 by decide, show tagK [7, 0, 0, 16, 1] = 0 by decide, show tagL [7, 0, 0, 16, 1] = [] by decide]
  have W5 : Below w.heap.size w w5 := by (repeat (first | exact Below.refl _ _ | assumption | refine ext_trans ?_ (by assumption) | refine ext_trans ?_ (ext_alloc _ _)))
  replace W4 := trivial
  clear O5 B5
  go_wp2_with fail
  refine (alive3_any _).mono ?_
  rintro e w6 ⟨rfl, B6⟩
  have W6 : Below w.heap.size w w6 := by (repeat (first | exact Below.refl _ _ | assumption | refine ext_trans ?_ (by assumption) | refine ext_trans ?_ (ext_alloc _ _)))
  replace W5 := trivial
  clear B6
  go_wp2_with fail
  refine (TNone_any _ (hT.out.bel (g := w.heap.size) W6 hw0)).mono ?_
  rintro e w7 ⟨rfl, B7⟩
  have W7 := ext_trans W6 B7
  replace W6 := trivial
  clear B7
  go_wp2_with fail
  refine (Of_any _ _ _ [[0]] _ ?_ rfl (by simp) (by simp) ?_).mono ?_
  · exact Rds.lit _ _ [(some ⟨w7.heap.size, 0, none⟩, 1, [0])] _ _ (by simp) rfl (by intro x hx; simp at hx; subst hx; exact ⟨Rd.litf _ _ _ _ _ _ rfl rfl, by simp, (by decide : 1 ≤ maxLen)⟩)
  · exact hT.out.bel (g := w.heap.size) (by (repeat (first | exact Below.refl _ _ | assumption | refine ext_trans ?_ (by assumption) | refine ext_trans ?_ (ext_alloc _ _)))) hw0
  rintro e w8 ⟨rfl, B8⟩
  have W8 : Below w.heap.size w w8 := by (repeat (first | exact Below.refl _ _ | assumption | refine ext_trans ?_ (by assumption) | refine ext_trans ?_ (ext_alloc _ _)))
  clear B8 W7
  rw [show [[0]].flatten = ([0] : List UInt8) from rfl]
  have l9 : (sha256 [0]).length = 32 := S8.bytes_len _
  generalize sha256 [0] = d9 at *
  have q9 := fun w => eq_dig d9 l9 w
  go_wp2_with fail
  go_ret
  exact ⟨rfl, W8⟩

/-! ### WHAT THE WALK GIVES, FOR EVERY ARGUMENT AND EVERY WORLD THAT HOLDS THE TABLE -/
set_option maxRecDepth 100000 in
theorem contract (H : Type) (enc : TypeId × Value → H) (W : World) (base : Nat) (args : Array Value) (ds gs : List (DataW H)) (before : List MemPlace)
    (hval0 : ∀ (j : Nat) t v, Tryd.f3.params[j]? = some t → args[j]? = some v → Value.okWide Tryd.prog W .any base t v)
    (hW : DataW.Whole enc Tryd.prog Tryd.f3.params.toList Rows.tagNamesSpec.vars false W args.toList ds gs before) (hL : laidMetH Tryd.prog Rows.tagNamesRow.laid W) :
    Calls Tryd.prog 3 args W fun e W' => ∃ v, e = .returned v ∧ Rows.tagNamesSpec.post enc Tryd.prog Tryd.f3 false true false false W args v W' := by
  have hval : ∀ (j : Nat) t v, Tryd.f3.params[j]? = some t → args[j]? = some v → Value.okWide Tryd.prog W .any base t v := hval0
  have hW' := hW
  obtain ⟨p, q, hA0, hV, rfl, hfz, hnd⟩ := hW
  have hA : DataW.TrodAll enc Tryd.prog W 0 (fun _ => true) true Tryd.f3.params.toList args.toList ds p := hA0
  rw [Tryd.params3] at hA hval
  obtain ⟨rfl, rfl, rfl⟩ := trodAll_none hA
  obtain ⟨rfl, rfl⟩ := trodVars_none hV
  clear hA0 hval0
  refine (walk  W (tab_of hL)).mono fun e W' ⟨he, bel⟩ => ?_
  subst he
  exact ⟨_, rfl, _, _, _, [], _, [], hW', trodAll_mk1 (shut_bool Tryd.underlying4 _), trodAll_mk0, rfl, bel.frame _, fun h => by cases h⟩

theorem laid_met (os : Os) : laidMet Tryd.prog Rows.tagNamesRow.laid ((laidWorld os).forCall (fun _ _ => 0) ⟨#[], #[], []⟩).memory :=
  laidMet_of_run' 8 (by kernel_rfl) (by kernel_rfl)
theorem reads (os : Os) {H : Type} (enc : TypeId × Value → H) : ∃ places, DataW.whole enc Tryd.prog ((laidWorld os).forCall (fun _ _ => 0) ⟨#[], #[], []⟩).memory Tryd.f3.params.toList Rows.tagNamesSpec.vars false (#[] : Array Value).toList 8 = some ([], [], places) :=
  ⟨[], by kernel_rfl⟩
set_option maxRecDepth 100000 in
theorem lifted (os : Os) (started : os.Started) (H : Type) (enc : TypeId × Value → H) (F : Stop.Interp) :
    ReturnsInHanded {} Tryd.checked os 3 .any ((OpenSpec.ofChange Rows.tagNamesSpec).preRow enc Tryd.prog Tryd.f3 Rows.tagNamesRow.domain false Rows.tagNamesRow.laid) (((OpenSpec.ofChange Rows.tagNamesSpec).at F).post enc Tryd.prog Tryd.f3 false true false false) := by
  obtain ⟨places, hx⟩ := reads os enc
  refine returnsInHanded_of_row (C := Tryd.checked) (s := OpenSpec.ofChange Rows.tagNamesSpec) own started (by kernel_rfl) Tryd.func3
    (witness_row_at (enc := enc) (C := Tryd.checked) false (laidWorld os) #[] rfl (by kernel_rfl) (by kernel_rfl) (by kernel_rfl)
      (OpenSpec.preRow_of_cond 8 hx (by kernel_rfl) (fun k hk => by cases hk) (by kernel_rfl) (laid_met os))) ?_
  intro W base args ds gs before hval hW _ _ _ hL _ _
  exact contract H enc W base args ds gs before hval hW hL
theorem said : Rows.TagNamesSaid :=
  OpenClaim.holds_of_cond 3 Tryd.f3 rfl rfl rfl rfl rfl rfl rfl ⟨rfl, rfl, rfl, rfl, rfl⟩ rfl rfl rfl rfl rfl (by kernel_rfl) Tryd.func3 (by kernel_rfl)
    (of_decide_eq_true (by kernel_rfl)) (by unfold Func.isWrapper; first | (rw [if_pos (by decide +kernel)]; kernel_rfl) | (rw [if_neg (by decide +kernel)]; exact ⟨rfl, rfl⟩))
    (fun os started H enc _ F => by rw [OpenClaim.pre_eq_preRow]; exact lifted os started H enc F)
/-- No parameter wants a stand-in; the program's own looks are off: what the card asks. -/
theorem plain (f : FuncId) (fn : Func) (hf : Tryd.pinned.checked.prog.funcNamed "beadroll/beadrolllaw03.TagNames" = some f) (hfn : Tryd.pinned.checked.prog.funcs[f]? = some fn) :
    false = Tryd.pinned.checked.prog.looks [] ∧ ∀ (j : Nat) t, fn.params[j]? = some t → Tryd.pinned.checked.prog.wantsStandIn t = false := by
  obtain rfl : f = 3 := Option.some.inj ((show Tryd.prog.funcNamed "beadroll/beadrolllaw03.TagNames" = some 3 by kernel_rfl).symm.trans hf) |>.symm
  obtain rfl : fn = Tryd.f3 := (Option.some.inj (Tryd.func3.symm.trans hfn)).symm
  refine ⟨by kernel_rfl, fun j t ht => ?_⟩
  rw [Tryd.params3] at ht
  simp at ht
/-- ████ THE CARD ████ -/
theorem proved : Rows.TagNamesCardSaid :=
  Claim7.holds_tied_plain_at .later [] _ _ _ _ said (fun _ h => by cases h) (by kernel_rfl) (fun _ h => by cases h) tagNames_row_tie rfl ⟨rfl, rfl⟩ (by kernel_rfl) rfl plain (by kernel_rfl)
#print axioms proved
end Go.Proofs.YtliahdlllmnkkaaDoor.tagNames
