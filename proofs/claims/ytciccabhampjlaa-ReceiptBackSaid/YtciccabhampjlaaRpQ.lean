/-
  Layer 12, plain: what is read of bytes. No program is named here.
-/
import Derived.Test.YtciccabhampjlaaRc
namespace Go.Proofs.Ytciccabhampjlaa
open Go.RowKit
set_option linter.unusedVariables false

theorem zR_okq : zR.ok := ⟨by decide, by decide⟩
theorem takenR_ok {l : List UInt8} (h : l.length = 35) : (takenR l).ok := by
  have := num_lt (l.drop 33)
  rw [show (l.drop 33).length = 2 by rw [List.length_drop]; omega] at this
  have h2 : (takenR l).c = ((num (l.drop 33) : Nat) : Int) := rfl
  unfold Rc.ok
  rw [h2]
  omega
theorem readR_len {l : List UInt8} (h : readRE l = 0) : l.length = 35 := by
  unfold readRE at h
  split at h
  · cases h
  · split at h
    · cases h
    · omega
theorem readR_ok (l : List UInt8) : (readR l).ok := by
  unfold readR
  split
  · rename_i h; exact takenR_ok (readR_len h)
  · exact zR_okq
theorem readR_zero {l : List UInt8} (h : readRE l = 0) : l.length = 35 ∧ mayR (readR l) = true ∧ rcB (readR l) = l := by
  have hl := readR_len h
  have e : readR l = takenR l := by unfold readR; rw [if_pos h]
  have hm : mayR (takenR l) = true := by
    unfold readRE at h
    rw [if_neg (by omega), if_neg (by omega)] at h
    unfold rcE at h
    split at h
    · assumption
    · cases h
  exact ⟨hl, e ▸ hm, by rw [e, rc_taken hl]⟩
theorem readR_err {l : List UInt8} (h : readRE l ≠ 0) : readR l = zR := by unfold readR; rw [if_neg h]
theorem readR_any {x : Rc} (h : mayR x = true) : readRE (rcB x) = 0 ∧ readR (rcB x) = x := by
  have e : readRE (rcB x) = 0 := by
    unfold readRE
    rw [rcB_len, if_neg (by decide), if_neg (by decide), taken_rc h]
    unfold rcE
    rw [if_pos h]
  exact ⟨e, by unfold readR; rw [if_pos e, taken_rc h]⟩
end Go.Proofs.Ytciccabhampjlaa
