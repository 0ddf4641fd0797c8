/-
  The Go function NumNames, which holds the limit, the errors' numbers and the chapter's examples of layer 1 against package num, returns true.
  Conditions: none. The frame around the walk was written by program (proof-skeleton.mjs).
-/
import Derived.Test.YtjpneokbcnkpkaaRows
import Derived.WalkKit
import Derived.ProofKit
import Derived.OpenShut
import Derived.ShutString
import Derived.ChangeOld
import Derived.Below
import Derived.Test.YtjpneokbcnkpkaaAlive01
namespace Go.Proofs.Ytjpneokbcnkpkaa.numNames
open Go.ChangeShapes Go.WideShapes Go.ChangeAt Go.RowKit
open Go.ChangeMaps (open_string shut_string)
set_option linter.unusedVariables false      -- a walk need not use every 'w<i>' (that an integer argument fits its kind)

theorem own : ownKnob Try.prog.godebug = none := by kernel_rfl

/-! ### the walk -/
open Go.Proofs.Ytjpneokbcnkpkaa
set_option maxHeartbeats 1600000 in
theorem walk  (w : World) :
    Calls Try.prog 3 #[] w fun e w' => e = .returned (.bool true) ∧ Below w.heap.size w w' := by
  go_enter Try.func3, Try.ntmps3
  go_wp2_with fail
  refine (Put_is 258 258 1 [] 4 _ rfl (by omega) (by decide +kernel) (by decide +kernel)).mono ?_
  rintro e w1 ⟨A1, c1, rfl, ho1, hb1⟩
  go_wp2_with fail
  refine (Put_is 258 258 9 [] 2 _ rfl (by omega) (by decide +kernel) (by decide +kernel)).mono ?_
  rintro e w2 ⟨A2, c2, rfl, ho2, hb2⟩
  go_wp2_with fail
  refine (Take_is _ 1 1 [1] 2 0 [] 10 _ (by (repeat (first | assumption | exact Own.rd (by assumption) | exact Rd.lit_ _ _ _ _ _ (by first | rfl | (simp; done)) rfl | apply Rd.alloc | refine Rd.bel ?_ (by assumption)))) rfl (by decide) (by decide) (by decide) (by decide +kernel) (by decide +kernel) (by decide +kernel)).mono ?_
  rintro e w3 ⟨A3, c3, rfl, ho3, hb3⟩
  go_wp2_with fail
  refine (PutPart_is _ 2 2 [7, 8] [0, 2, 7, 8] 0 _ (by (repeat (first | assumption | exact Own.rd (by assumption) | exact Rd.lit_ _ _ _ _ _ (by first | rfl | (simp; done)) rfl | apply Rd.alloc | refine Rd.bel ?_ (by assumption)))) rfl (by decide) (by decide +kernel) (by decide +kernel)).mono ?_
  rintro e w4 ⟨A4, c4, rfl, ho4, hb4⟩
  go_wp2_with fail
  refine (TakePart_is _ 4 4 [0, 1, 9, 5] [9] [5] 0 _ (by (repeat (first | assumption | exact Own.rd (by assumption) | exact Rd.lit_ _ _ _ _ _ (by first | rfl | (simp; done)) rfl | apply Rd.alloc | refine Rd.bel ?_ (by assumption)))) rfl (by decide) (by decide) (by decide) (by decide +kernel) (by decide +kernel) (by decide +kernel)).mono ?_
  rintro e w5 ⟨A5, c5, A6, c6, rfl, ho5, ho6, -, hb5⟩
  go_wp2_with fail
  refine (TakePart_is _ 1 1 [0] [] [] 10 _ (by (repeat (first | assumption | exact Own.rd (by assumption) | exact Rd.lit_ _ _ _ _ _ (by first | rfl | (simp; done)) rfl | apply Rd.alloc | refine Rd.bel ?_ (by assumption)))) rfl (by decide) (by decide) (by decide) (by decide +kernel) (by decide +kernel) (by decide +kernel)).mono ?_
  rintro e w6 ⟨A7, c7, A8, c8, rfl, -, -, -, hb6⟩
  go_wp2_with fail
  refine (TakePart_is _ 3 3 [0, 2, 9] [] [] 10 _ (by (repeat (first | assumption | exact Own.rd (by assumption) | exact Rd.lit_ _ _ _ _ _ (by first | rfl | (simp; done)) rfl | apply Rd.alloc | refine Rd.bel ?_ (by assumption)))) rfl (by decide) (by decide) (by decide) (by decide +kernel) (by decide +kernel) (by decide +kernel)).mono ?_
  rintro e w7 ⟨A9, c9, A10, c10, rfl, -, -, -, hb7⟩
  go_wp2_with fail
  refine (TakePart_is _ 2 2 [16, 1] [] [] 4 _ (by (repeat (first | assumption | exact Own.rd (by assumption) | exact Rd.lit_ _ _ _ _ _ (by first | rfl | (simp; done)) rfl | apply Rd.alloc | refine Rd.bel ?_ (by assumption)))) rfl (by decide) (by decide) (by decide) (by decide +kernel) (by decide +kernel) (by decide +kernel)).mono ?_
  rintro e w8 ⟨A11, c11, A12, c12, rfl, -, -, -, hb8⟩
  go_wp2_with fail
  refine (Same_yes _ _ _ _ _ _ [0, 2, 7, 8] [0, 2, 7, 8] _ (by (repeat (first | assumption | exact Own.rd (by assumption) | exact Rd.lit_ _ _ _ _ _ (by first | rfl | (simp; done)) rfl | apply Rd.alloc | refine Rd.bel ?_ (by assumption)))) (by (repeat (first | assumption | exact Own.rd (by assumption) | exact Rd.lit_ _ _ _ _ _ (by first | rfl | (simp; done)) rfl | apply Rd.alloc | refine Rd.bel ?_ (by assumption)))) rfl rfl rfl).mono ?_
  rintro e w9 ⟨rfl, rfl⟩
  go_wp2_with fail
  refine (Same_yes _ _ _ _ _ _ [9] [9] _ (by (repeat (first | assumption | exact Own.rd (by assumption) | exact Rd.lit_ _ _ _ _ _ (by first | rfl | (simp; done)) rfl | apply Rd.alloc | refine Rd.bel ?_ (by assumption)))) (by (repeat (first | assumption | exact Own.rd (by assumption) | exact Rd.lit_ _ _ _ _ _ (by first | rfl | (simp; done)) rfl | apply Rd.alloc | refine Rd.bel ?_ (by assumption)))) rfl rfl rfl).mono ?_
  rintro e w9 ⟨rfl, rfl⟩
  go_wp2_with fail
  refine (Same_yes _ _ _ _ _ _ [5] [5] _ (by (repeat (first | assumption | exact Own.rd (by assumption) | exact Rd.lit_ _ _ _ _ _ (by first | rfl | (simp; done)) rfl | apply Rd.alloc | refine Rd.bel ?_ (by assumption)))) (by (repeat (first | assumption | exact Own.rd (by assumption) | exact Rd.lit_ _ _ _ _ _ (by first | rfl | (simp; done)) rfl | apply Rd.alloc | refine Rd.bel ?_ (by assumption)))) rfl rfl rfl).mono ?_
  rintro e w9 ⟨rfl, rfl⟩
  go_wp2_with fail
  refine (alive_any _).mono ?_
  rintro e w9 ⟨rfl, hb9⟩
  go_wp2_with fail
  refine (End_is _ 1 1 [1] 11 _ rfl (by decide +kernel)).mono ?_
  rintro e w10 ⟨rfl, rfl⟩
  go_wp2_with fail
  refine (End_is _ 0 0 [] 0 _ rfl (by decide +kernel)).mono ?_
  rintro e w10 ⟨rfl, rfl⟩
  go_wp2_with fail
  go_ret
  exact ⟨rfl, by (repeat (first | exact Below.refl _ _ | assumption | refine ext_trans ?_ (by assumption) | refine ext_trans ?_ (ext_alloc _ _)))⟩

/-! ### THE ROW's STEP: WRITTEN OUT: LEAVE IT -/
set_option maxRecDepth 100000 in
theorem lifted (os : Os) (started : os.Started) (H : Type) (enc : TypeId × Value → H) :
    ReturnsInHanded {} Try.checked os 3 .any (Rows.numNamesSpec.pre6 enc Try.prog Try.f3 Rows.numNamesRow.domain false) (Rows.numNamesSpec.post enc Try.prog Try.f3 false true false false) := by
  refine returnsInHanded_of_change (C := Try.checked) own started (by kernel_rfl) Try.func3
    (ChangeSpec.witness6 (enc := enc) (C := Try.checked) false ⟨#[], #[], []⟩ 8 (by kernel_rfl) (by kernel_rfl) (by kernel_rfl) (by kernel_rfl)) ?_
  intro W base args ds gs before hval0 hW hcnd _
  have hval : ∀ (j : Nat) t v, Try.f3.params[j]? = some t → args[j]? = some v → Value.okWide Try.prog W .any base t v := hval0
  have hW' := hW
  obtain ⟨p, q, hA0, hV, rfl, hfz, hnd⟩ := hW
  have hA : DataW.TrodAll enc Try.prog W 0 (fun _ => true) true Try.f3.params.toList args.toList ds p := hA0
  rw [Try.params3] at hA hval
  obtain ⟨rfl, rfl, rfl⟩ := trodAll_none hA
  obtain ⟨rfl, rfl⟩ := trodVars_none hV
  clear hA0 hval0
  refine (walk  W).mono fun e W' ⟨he, bel⟩ => ?_
  subst he
  exact ⟨_, rfl, _, _, _, [], _, [], hW', trodAll_mk1 (shut_bool Try.underlying4 _), trodAll_mk0, rfl, bel.frame _, fun h => by cases h⟩

theorem over : Rows.numNamesRow.holds Try.pinned (OpenSpec.ofChange Rows.numNamesSpec) :=
  OpenClaim.holds_of_wide 3 Try.f3 rfl rfl rfl rfl rfl rfl rfl ⟨rfl, rfl, rfl, rfl, rfl⟩ rfl rfl rfl rfl rfl (by kernel_rfl) Try.func3 (by kernel_rfl)
    (of_decide_eq_true (by kernel_rfl)) (by unfold Func.isWrapper; first | (rw [if_pos (by decide +kernel)]; kernel_rfl) | (rw [if_neg (by decide +kernel)]; exact ⟨rfl, rfl⟩))
    (fun os started H enc _ => lifted os started H enc)

/-- ████ THE STATEMENT ████ -/
theorem proved : Rows.NumNamesSaid :=
  over
#print axioms proved
end Go.Proofs.Ytjpneokbcnkpkaa.numNames
