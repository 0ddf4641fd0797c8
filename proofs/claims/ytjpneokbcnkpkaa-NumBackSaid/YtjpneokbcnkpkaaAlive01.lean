/-
  'alive' of layer 1's law file: the chapter's first examples hold.
-/
import Derived.Test.YtjpneokbcnkpkaaRef01
namespace Go.Proofs.Ytjpneokbcnkpkaa
open Go.RowKit
set_option linter.unusedVariables false

set_option maxHeartbeats 800000 in
theorem alive_any (w : World) : Calls Try.prog 13 #[] w fun e w' => e = .returned (.bool true) ∧ Below w.heap.size w w' := by
  go_enter Try.func13, Try.ntmps13
  go_wp2_with fail
  refine (Put_is 258 258 2 [1, 2] 0 _ rfl (by omega) (by decide +kernel) (by decide +kernel)).mono ?_
  rintro e w1 ⟨A1, c1, rfl, ho1, hb1⟩
  go_wp2_with fail
  refine (Take_is _ 3 3 [1, 2, 3] 2 258 [3] 0 _ (by (repeat (first | assumption | exact Own.rd (by assumption) | exact Rd.lit_ _ _ _ _ _ (by first | rfl | (simp; done)) rfl | apply Rd.alloc | refine Rd.bel ?_ (by assumption)))) rfl (by decide) (by decide) (by decide) (by decide +kernel) (by decide +kernel) (by decide +kernel)).mono ?_
  rintro e w2 ⟨A2, c2, rfl, ho2, hb2⟩
  go_wp2_with fail
  refine (Same_yes _ _ _ _ _ _ [1, 2] [1, 2] _ (by (repeat (first | assumption | exact Own.rd (by assumption) | exact Rd.lit_ _ _ _ _ _ (by first | rfl | (simp; done)) rfl | apply Rd.alloc | refine Rd.bel ?_ (by assumption)))) (by (repeat (first | assumption | exact Own.rd (by assumption) | exact Rd.lit_ _ _ _ _ _ (by first | rfl | (simp; done)) rfl | apply Rd.alloc | refine Rd.bel ?_ (by assumption)))) rfl rfl rfl).mono ?_
  rintro e w3 ⟨rfl, rfl⟩
  go_wp2_with fail
  refine (Same_yes _ _ _ _ _ _ [3] [3] _ (by (repeat (first | assumption | exact Own.rd (by assumption) | exact Rd.lit_ _ _ _ _ _ (by first | rfl | (simp; done)) rfl | apply Rd.alloc | refine Rd.bel ?_ (by assumption)))) (by (repeat (first | assumption | exact Own.rd (by assumption) | exact Rd.lit_ _ _ _ _ _ (by first | rfl | (simp; done)) rfl | apply Rd.alloc | refine Rd.bel ?_ (by assumption)))) rfl rfl rfl).mono ?_
  rintro e w4 ⟨rfl, rfl⟩
  go_wp2_with fail
  go_ret
  exact ⟨rfl, by (repeat (first | exact Below.refl _ _ | assumption | refine ext_trans ?_ (by assumption) | refine ext_trans ?_ (ext_alloc _ _)))⟩

end Go.Proofs.Ytjpneokbcnkpkaa
