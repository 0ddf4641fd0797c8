/-
  Layer 11, plain: what is read of bytes. No program is named here.
-/
import Derived.Test.YtaegdiggmgifiaaDoorTxP
namespace Go.Proofs.YtaegdiggmgifiaaDoor
open Go.RowKit
set_option linter.unusedVariables false

theorem zX_okq : zX.ok := ⟨by decide, by decide, by decide⟩
theorem sign_iffq (x : Tx) : x = signX x ↔ x.s = signD x := ⟨fun q => congrArg (·.s) q, fun q => by cases x; simp only [signX] at q ⊢; rw [← q]⟩
theorem checkX_b {x : Tx} {b : Bool} (h : decide (x = signX x) = b) : checkX x = if b = true then 0 else 110 := by
  unfold checkX
  by_cases hq : x.s = signD x
  · rw [if_pos hq, ← h, decide_eq_true ((sign_iffq x).2 hq), if_pos rfl]
  · rw [if_neg hq, ← h, decide_eq_false (fun k => hq ((sign_iffq x).1 k)), if_neg (by decide)]
theorem read_len {l : List UInt8} (h : readXE l = 0) : l.length = 120 := by
  unfold readXE at h
  split at h
  · cases h
  · split at h
    · cases h
    · omega
theorem readX_ok (l : List UInt8) : (readX l).ok := by
  unfold readX
  split
  · rename_i h; exact taken_ok (read_len h)
  · exact zX_okq
theorem read_zero {l : List UInt8} (h : readXE l = 0) : l.length = 120 ∧ bytesX (readX l) = l ∧ decide (readX l = signX (readX l)) = true := by
  have hl := read_len h
  have e : readX l = takenX l := by unfold readX; rw [if_pos h]
  refine ⟨hl, by rw [e, bytes_taken hl], ?_⟩
  rw [e]
  unfold readXE at h
  rw [if_neg (by omega), if_neg (by omega)] at h
  cases hb : decide (takenX l = signX (takenX l))
  · rw [checkX_b hb] at h; cases h
  · rfl
theorem read_err {l : List UInt8} (h : readXE l ≠ 0) : readX l = zX := by unfold readX; rw [if_neg h]
theorem read_any {x : Tx} (hx : x.ok) {b : Bool} (h : decide (x = signX x) = b) : readXE (bytesX x) = (if b = true then 0 else 110) ∧ readX (bytesX x) = if b = true then x else zX := by
  have e : readXE (bytesX x) = if b = true then 0 else 110 := by
    unfold readXE
    rw [bytesX_len, if_neg (by decide), if_neg (by decide), taken_bytes hx, checkX_b h]
  refine ⟨e, ?_⟩
  unfold readX
  rw [e, taken_bytes hx]
  cases b <;> rfl
end Go.Proofs.YtaegdiggmgifiaaDoor
