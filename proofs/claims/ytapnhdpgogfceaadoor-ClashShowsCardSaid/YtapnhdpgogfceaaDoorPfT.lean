/-
  What a made proof tells is what the tree has. No program is named here.
-/
import Derived.Test.YtapnhdpgogfceaaDoorVfS
import Derived.Test.YtapnhdpgogfceaaDoorTreeLj
namespace Go.Proofs.YtapnhdpgogfceaaDoor
open Go.RowKit
set_option linter.unusedVariables false

theorem told_get {t : Tr} (k : Dg) (h : mayT t = true) : toldF (makeF t k) = getTB t k ∧ (if toldF (makeF t k) = true then (makeF t k).v else []) = getTL t k := by
  obtain ⟨f1, f2⟩ := find_spec k h
  have hb : toldF (makeF t k) = getTB t k := by
    unfold toldF getTB
    rw [makeF_may k h, Bool.true_and, h, Bool.true_and, ← f1]
    unfold hasE
    cases hl : (endN t k).leaf with
    | false => rw [makeF_none h hl]; simp
    | true =>
      by_cases hk : (endN t k).k = k
      · rw [makeF_own h hl hk]; simp [hk]
      · rw [makeF_other h hl hk]; simp [hk]
  refine ⟨hb, ?_⟩
  rw [hb]
  unfold getTL
  by_cases hg : getTB t k = true
  · rw [if_pos hg, if_pos hg]
    have hp : hasP (allT t) k = true := by unfold getTB at hg; rw [h, Bool.true_and] at hg; exact hg
    rw [← f2 hp]
    rw [← f1] at hp
    unfold hasE at hp
    simp only [Bool.and_eq_true, decide_eq_true_eq] at hp
    rw [makeF_own h hp.1 hp.2]
  · rw [if_neg hg, if_neg hg]
end Go.Proofs.YtapnhdpgogfceaaDoor
