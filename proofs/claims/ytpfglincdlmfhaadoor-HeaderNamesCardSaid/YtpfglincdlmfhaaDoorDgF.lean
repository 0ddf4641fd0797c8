/-
  An array of 32 bytes that is filled byte by byte. No program is named here.
-/
import Derived.Test.YtpfglincdlmfhaaDoorTxP
import Derived.Test.YtpfglincdlmfhaaDoorBits
import Derived.Test.YtpfglincdlmfhaaDoorTrN
namespace Go.Proofs.YtpfglincdlmfhaaDoor
open Go.RowKit
set_option linter.unusedVariables false

/-- A digest's bytes, so far as they are taken. -/
def dgF (s : List UInt8) (j : Nat) : List UInt8 := s.take j ++ List.replicate (32 - j) 0
theorem dgF_zero (s : List UInt8) : dgF s 0 = z0.1 := by simp [dgF]; rfl
theorem dgF_all {s : List UInt8} (h : s.length = 32) : dgF s 32 = s := by simp [dgF, List.take_of_length_le (Nat.le_of_eq h)]
theorem dgF_len {s : List UInt8} (h : s.length = 32) {j : Nat} (hj : j ≤ 32) : (dgF s j).length = 32 := by simp [dgF, h]; omega
theorem dgF_step {s : List UInt8} (h : s.length = 32) {j : Nat} (hj : j < s.length) : (dgF s j).set j s[j] = dgF s (j + 1) := by
  unfold dgF
  have l1 : (s.take j).length = j := by rw [List.length_take]; omega
  rw [List.set_append_right _ _ (by omega), l1, Nat.sub_self, List.take_succ_eq_append_getElem hj, List.append_assoc]
  congr 1
  rw [show 32 - j = (32 - (j + 1)) + 1 by omega, List.replicate_succ]
  rfl
end Go.Proofs.YtpfglincdlmfhaaDoor
