/-
  What a tree stands for is a map, by which it answers. No program is named here.
-/
import Derived.Test.YtfjkcdccnbggnaaDoorTreeStay
import Derived.Test.YtfjkcdccnbggnaaDoorTreeCnt
import Derived.Test.YtfjkcdccnbggnaaDoorPlain
import Derived.Test.YtfjkcdccnbggnaaDoorRefG
namespace Go.Proofs.YtfjkcdccnbggnaaDoor
open Go.RowKit
set_option linter.unusedVariables false
set_option maxRecDepth 100000

theorem tree_map {t : Tr} (hl : t.ns.length ≤ 600) (hm : mayT t = true) : mayP (allT t) = true ∧ (allT t).length ≤ 300 := by
  obtain ⟨h1, h2, _, _⟩ := all_spec hm
  have := all_count hm
  exact ⟨may_iff.2 ⟨by omega, h1, h2⟩, by omega⟩
theorem maps {t : Tr} {k : Dg} {v : List UInt8} (hl : t.ns.length ≤ 600) (hm : mayT t = true) :
    mayP (pairsM t) = true ∧ (pairsM t).length ≤ 300 ∧ rootE (pairsM t) = 0 ∧ rootL (pairsM t) = (sumM t).1 ∧ mGetB (pairsM t) k = getTB t k ∧ mGetL (pairsM t) k = getTL t k ∧ mPutE (pairsM t) k v = tputE t v ∧ mDropE (pairsM t) k = tdropE t k ∧
    (tputT t k v).ns.length ≤ 1000000 ∧ (tdropT t k).ns.length ≤ 1000000 ∧
    (tputE t v = 0 → mayT (tputT t k v) = true ∧ pairsM (tputT t k v) = mPutL (pairsM t) k v ∧ (mPutL (pairsM t) k v).length ≤ 600) ∧
    (tdropE t k = 0 → mayT (tdropT t k) = true ∧ pairsM (tdropT t k) = mDropL (pairsM t) k ∧ (mDropL (pairsM t) k).length ≤ 600) := by
  obtain ⟨hp, h3⟩ := tree_map hl hm
  have ep : pairsM t = allT t := by unfold pairsM; rw [if_pos hm]
  have hb : mGetB (allT t) k = getTB t k := by unfold mGetB getTB; rw [hp, hm]
  have wl : (withP (allT t) k v).length ≤ 301 := by
    have := with_length (allT t) k v
    have := without_length_le (allT t) k
    omega
  have dl : (withoutP (allT t) k).length ≤ 300 := by have := without_length_le (allT t) k; omega
  have hd : mDropE (allT t) k = tdropE t k := by
    unfold mDropE tdropE
    rw [if_pos hp, if_pos hm, if_neg (show ¬ 261844 < t.ns.length by omega)]
  have hq : mPutE (allT t) k v = tputE t v := by
    unfold mPutE tputE
    rw [hp, if_pos hm, if_neg (show ¬ 261844 < t.ns.length by omega), if_neg (show ¬ 512 < (withP (allT t) k v).length by omega)]
    rfl
  rw [ep]
  refine ⟨hp, h3, by unfold rootE; rw [if_pos hp], ?_, hb, ?_, hq, hd, ?_, ?_, fun h => ?_, fun h => ?_⟩
  · unfold rootL sumM
    rw [if_pos hp, if_pos hm]
    exact (all_spec hm).2.2.2.symm
  · unfold mGetL getTL
    rw [hb]
  · by_cases h : tputE t v = 0
    · obtain ⟨⟨ms, s1, s2⟩, _⟩ := tputT_spec (k := k) h
      rw [s1, List.length_append]; omega
    · rw [tput_no h]; simp
  · by_cases h : tdropE t k = 0
    · obtain ⟨⟨ms, s1, s2⟩, _⟩ := tdropT_spec h
      rw [s1, List.length_append]; omega
    · rw [tdrop_no h]; simp
  · obtain ⟨_, s1, s2⟩ := tputT_spec (k := k) h
    have e1 : mPutL (allT t) k v = withP (allT t) k v := by unfold mPutL; rw [hq, if_pos h]
    refine ⟨s1, ?_, by rw [e1]; omega⟩
    unfold pairsM
    rw [if_pos s1, s2, e1]
  · obtain ⟨_, s1, s2⟩ := tdropT_spec h
    have e1 : mDropL (allT t) k = withoutP (allT t) k := by unfold mDropL; rw [hd, if_pos h]
    refine ⟨s1, ?_, by rw [e1]; omega⟩
    unfold pairsM
    rw [if_pos s1, s2, e1]
end Go.Proofs.YtfjkcdccnbggnaaDoor
