/-
  What becomes of maps: got, dropped again, in whatever order. No program is named here.
-/
import Derived.Test.YtiogdenlaelkbaaPairsP
namespace Go.Proofs.Ytiogdenlaelkbaa
set_option linter.unusedVariables false

theorem may_iff {ps : List Pr} : mayP ps = true ↔ ps.length ≤ 512 ∧ Srt ps ∧ ∀ p ∈ ps, valB p.v = true := by
  unfold mayP
  rw [Bool.and_eq_true, decide_eq_true_eq, chain_of]
theorem put_no {ps : List Pr} {k : Dg} {v : List UInt8} (h : ¬ mPutE ps k v = 0) : mPutL ps k v = [] := by unfold mPutL; rw [if_neg h]
theorem put_ok {ps : List Pr} {k : Dg} {v : List UInt8} (h : mPutE ps k v = 0) : mayP ps = true ∧ valB v = true ∧ mPutL ps k v = withP ps k v ∧ mayP (withP ps k v) = true := by
  have h2 : mPutL ps k v = withP ps k v := by unfold mPutL; rw [if_pos h]
  unfold mPutE at h
  split at h
  · rename_i h1
    rw [Bool.and_eq_true] at h1
    split at h
    · cases h
    · rename_i h3
      refine ⟨h1.1, h1.2, h2, ?_⟩
      have hm := may_iff.1 h1.1
      have hc := with_chain (chain_of.2 hm.2) k v h1.2
      rw [may_iff]
      exact ⟨by omega, chain_of.1 hc⟩
  · cases h
theorem put_zero {ps : List Pr} {k : Dg} {v : List UInt8} (h : mayP ps = true) (h2 : valB v = true) (h3 : ps.length < 512) : mPutE ps k v = 0 := by
  unfold mPutE
  rw [h, h2, if_pos (show (true && true) = true from rfl), if_neg]
  have h4 := with_length ps k v
  have h5 := without_length_le ps k
  omega
theorem get_with_self {ps : List Pr} (k : Dg) (v : List UInt8) (h : mayP ps = true) (h2 : mayP (withP ps k v) = true) : mGetB (withP ps k v) k = true ∧ mGetL (withP ps k v) k = v := by
  have hb : mGetB (withP ps k v) k = true := by unfold mGetB; rw [h2, hasP_with, decide_eq_true rfl]; rfl
  exact ⟨hb, by unfold mGetL; rw [if_pos hb, getV_with_self (may_iff.1 h).2.1]⟩
theorem get_with_other {ps : List Pr} {k o : Dg} (v : List UInt8) (h : mayP ps = true) (h2 : mayP (withP ps k v) = true) (hne : k ≠ o) : mGetB (withP ps k v) o = mGetB ps o ∧ mGetL (withP ps k v) o = mGetL ps o := by
  have hb : mGetB (withP ps k v) o = mGetB ps o := by unfold mGetB; rw [h2, h, hasP_with, decide_eq_false hne]; rfl
  refine ⟨hb, ?_⟩
  unfold mGetL
  rw [hb, getV_with_other (may_iff.1 h).2.1 v hne]
theorem drop_with {ps : List Pr} (k : Dg) (v : List UInt8) (h : mayP ps = true) (h2 : mayP (withP ps k v) = true) : mDropE (withP ps k v) k = 0 ∧ mDropL (withP ps k v) k = withoutP ps k := by
  have h3 := mDrop_yes h2 (show hasP (withP ps k v) k = true by rw [hasP_with, decide_eq_true rfl]; rfl)
  rw [without_with (may_iff.1 h).2.1] at h3
  exact h3
theorem had_no {ps : List Pr} {k : Dg} (h : mayP ps = true) (h2 : mGetB ps k = false) : withoutP ps k = ps := by
  unfold mGetB at h2
  rw [h, Bool.true_and] at h2
  exact without_no h2
theorem great_no30 {ps : List Pr} {n : Nat} (h : greatP ps n = false) : ps.length ≤ n ∧ ∀ p ∈ ps, p.v.length ≤ 100 := by
  unfold greatP at h
  rw [Bool.or_eq_false_iff, decide_eq_false_iff_not, List.any_eq_false] at h
  exact ⟨by omega, fun p hp => by have := h.2 p hp; simpa using this⟩
end Go.Proofs.Ytiogdenlaelkbaa
