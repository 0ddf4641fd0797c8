/-
  Layer 14, plain: what is read of bytes; what follows. No program is named here.
-/
import Derived.Test.YtpfglincdlmfhaaDoorHd
namespace Go.Proofs.YtpfglincdlmfhaaDoor
open Go.RowKit
set_option linter.unusedVariables false

theorem zH_okq : zH.ok := ⟨by decide, by decide⟩
theorem mayH_ok {x : Hd} (h : mayH x = true) : x.ok := by
  have := mayH_iff.1 h
  unfold Hd.ok
  omega
theorem readH_len {l : List UInt8} (h : readHE l = 0) : l.length = 108 := by
  unfold readHE at h
  split at h
  · cases h
  · split at h
    · cases h
    · omega
theorem readH_may {l : List UInt8} (h : readHE l = 0) : mayH (takenH l) = true := by
  have hl := readH_len h
  unfold readHE at h
  rw [if_neg (by omega), if_neg (by omega)] at h
  unfold hdE at h
  split at h
  · assumption
  · cases h
theorem readH_ok (l : List UInt8) : (readH l).ok := by
  unfold readH
  split
  · rename_i h; exact mayH_ok (readH_may h)
  · exact zH_okq
theorem readH_zero {l : List UInt8} (h : readHE l = 0) : l.length = 108 ∧ mayH (readH l) = true ∧ hdB (readH l) = l := by
  have hl := readH_len h
  have e : readH l = takenH l := by unfold readH; rw [if_pos h]
  exact ⟨hl, e ▸ readH_may h, by rw [e, hd_taken hl]⟩
theorem readH_err {l : List UInt8} (h : readHE l ≠ 0) : readH l = zH := by unfold readH; rw [if_neg h]
theorem readH_any {x : Hd} (h : mayH x = true) : readHE (hdB x) = 0 ∧ readH (hdB x) = x := by
  have e : readHE (hdB x) = 0 := by
    unfold readHE
    rw [hdB_len, if_neg (by decide), if_neg (by decide), taken_hd h]
    unfold hdE
    rw [if_pos h]
  exact ⟨e, by unfold readH; rw [if_pos e, taken_hd h]⟩
theorem follows_iff {x y : Hd} (h : follows x y = true) : mayH x = true ∧ mayH y = true ∧ x.h = y.h + 1 ∧ x.p = nameD y := by
  unfold follows at h
  simp only [Bool.and_eq_true, decide_eq_true_eq] at h
  exact ⟨h.1, h.2.1, h.2.2.1, h.2.2.2⟩
/-- Who follows two shows one digest of two texts. -/
theorem follows_two {x y z : Hd} (h1 : follows x y = true) (h2 : follows x z = true) (hne : y ≠ z) : mayH y = true ∧ mayH z = true ∧ sha256 (tagB 6 [hdB y]) = sha256 (tagB 6 [hdB z]) ∧ hdB y ≠ hdB z := by
  obtain ⟨-, a1, -, a2⟩ := follows_iff h1
  obtain ⟨-, b1, -, b2⟩ := follows_iff h2
  refine ⟨a1, b1, ?_, fun e => hne (hdB_inj a1 b1 e)⟩
  have := congrArg (·.1) (a2.symm.trans b2)
  exact this
theorem tag6_inj {a b : List UInt8} (ha : a.length = 108) (hb : b.length = 108) (h : tagB 6 [a] = tagB 6 [b]) : a = b := by
  unfold tagB partB at h
  simp only [List.map_cons, List.map_nil, List.flatten_cons, List.flatten_nil, List.append_nil, List.cons.injEq, true_and] at h
  rw [ha, hb] at h
  exact List.append_cancel_left h
end Go.Proofs.YtpfglincdlmfhaaDoor
