/-
  Contracts of the landed package acct: Get.
-/
import Derived.Test.YtcifncmfjlbhjaaDoorAcC
import Derived.Test.YtcifncmfjlbhjaaDoorTreeLj
namespace Go.Proofs.YtcifncmfjlbhjaaDoor
open Go.RowKit
set_option linter.unusedVariables false
set_option linter.unusedSimpArgs false
set_option maxRecDepth 100000

theorem getA_yes {t : Tr} {k : Dg} (hm : mayA t = true) (hh : getTB t k = true) : acE (getTL t k) = 0 ∧ acOf (getTL t k) = getA t k ∧ (getTL t k).length ≤ 100000 := by
  have hm' := hm
  unfold mayA at hm
  simp only [Bool.and_eq_true] at hm
  have hl : getTL t k = getV (allT t) k := by unfold getTL; rw [if_pos hh]
  unfold getTB at hh
  simp only [Bool.and_eq_true] at hh
  obtain ⟨p, hp, rfl⟩ := hasP_mem.1 hh.2
  have hv := getV_mem (all_spec hm.1).1 hp
  rw [hl, hv]
  have hz := held_iff.1 hm.2 p hp
  refine ⟨hz, ?_, by have := acE_len hz; omega⟩
  unfold getA inA
  rw [if_pos hm', hv]
theorem getA_no {t : Tr} {k : Dg} (hm : mayA t = true) (hh : getTB t k = false) : getA t k = ac0 := by
  have hm' := hm
  unfold mayA at hm
  simp only [Bool.and_eq_true] at hm
  unfold getTB at hh
  rw [hm.1, Bool.true_and] at hh
  unfold getA
  rw [if_pos hm']
  exact inA_none hh
end Go.Proofs.YtcifncmfjlbhjaaDoor
