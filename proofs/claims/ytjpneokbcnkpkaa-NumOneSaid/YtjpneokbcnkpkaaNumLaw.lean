/-
  Layer 1's laws on the plain answers: what is put is taken, what is taken is put.
-/
import Derived.Test.YtjpneokbcnkpkaaBy
namespace Go.Proofs.Ytjpneokbcnkpkaa

theorem take_put (l : List UInt8) (s : Int) (h : takeE l s = 0) : takeN l s < 18446744073709551616 ∧ putE (takeN l s) s = 0 ∧ putB (takeN l s) s ++ takeR l s = l := by
  have h0 := h
  unfold takeE at h
  split at h
  · rename_i hs
    split at h
    · cases h
    · rename_i hk
      obtain ⟨k, rfl⟩ := Int.eq_ofNat_of_zero_le (show 0 ≤ s by omega)
      have hkl : k ≤ l.length := by omega
      have e1 : takeN l k = num (l.take k) := by simp [takeN, h0]
      have e2 : takeR l k = l.drop k := by simp [takeR, h0]
      have hl : (l.take k).length = k := by simp; omega
      have h1 := num_lt (l.take k)
      rw [hl] at h1
      have h2 : 256 ^ k ≤ 256 ^ 8 := Nat.pow_le_pow_right (by omega) (by omega)
      have e3 : putE (takeN l k) k = 0 := by simp only [putE]; rw [if_pos hs, e1, if_pos (by simpa using h1)]
      refine ⟨by rw [e1]; omega, e3, ?_⟩
      have e4 : putB (takeN l k) k = l.take k := by
        have h3 := be_num (l.take k)
        rw [hl] at h3
        simp only [putB]
        rw [if_pos e3, e1, Int.toNat_natCast, h3]
      rw [e4, e2, List.take_append_drop]
  · cases h
theorem put_take (n : Nat) (s : Int) (rest : List UInt8) (h : putE n s = 0) : takeE (putB n s ++ rest) s = 0 ∧ takeN (putB n s ++ rest) s = n ∧ takeR (putB n s ++ rest) s = rest := by
  have h0 := h
  unfold putE at h
  split at h
  · rename_i hs
    split at h
    · rename_i hk
      obtain ⟨k, rfl⟩ := Int.eq_ofNat_of_zero_le (show 0 ≤ s by omega)
      rw [Int.toNat_natCast] at hk
      have e1 : putB n k = be k n := by simp [putB, h0]
      rw [e1]
      have e2 : takeE (be k n ++ rest) k = 0 := by
        simp only [takeE]
        rw [if_pos hs, if_neg (by simp [be_length]; omega)]
      refine ⟨e2, ?_, ?_⟩
      · simp only [takeN]
        rw [if_pos e2, Int.toNat_natCast, List.take_append_of_le_length (by simp [be_length]), List.take_of_length_le (by simp [be_length]), num_be, Nat.mod_eq_of_lt hk]
      · simp only [takeR]
        rw [if_pos e2, Int.toNat_natCast, List.drop_append_of_le_length (by simp [be_length]), List.drop_of_length_le (by simp [be_length])]
        rfl
    · cases h
  · cases h
theorem pp_big (p : List UInt8) (h : ¬ ppE p = 0) : ppB p = [] ∧ 4096 < p.length := by
  by_cases h4 : 4096 < p.length
  · exact ⟨by simp [ppB, h4], h4⟩
  · exact absurd (by simp [ppE, h4]) h
theorem pp_tp (p rest : List UInt8) (h : ppE p = 0) : tpE (ppB p ++ rest) = 0 ∧ tpP (ppB p ++ rest) = p ∧ tpR (ppB p ++ rest) = rest := by
  have h4 : ¬ 4096 < p.length := by
    intro h4
    simp [ppE, h4] at h
  have e1 : ppB p = be 2 p.length ++ p := by simp [ppB, h4]
  have hb := be_length 2 p.length
  rw [e1, List.append_assoc]
  have e2 : (be 2 p.length ++ (p ++ rest)).take 2 = be 2 p.length := by
    rw [List.take_append_of_le_length (by omega), List.take_of_length_le (by omega)]
  have e3 : num ((be 2 p.length ++ (p ++ rest)).take 2) = p.length := by
    rw [e2, num_be, Nat.mod_eq_of_lt (by omega)]
  have e5 : tpE (be 2 p.length ++ (p ++ rest)) = 0 := by
    simp only [tpE]
    rw [e3, if_neg (by simp [hb]), if_neg h4, if_neg (by simp [hb])]
  refine ⟨e5, ?_, ?_⟩
  · simp only [tpP]
    rw [if_pos e5, e3, List.drop_append_of_le_length (by omega), List.drop_of_length_le (by omega), List.nil_append, List.take_append_of_le_length (Nat.le_refl _), List.take_length]
  · simp only [tpR]
    rw [if_pos e5, e3, ← List.append_assoc, List.drop_append_of_le_length (by simp [hb]), List.drop_of_length_le (by simp [hb]), List.nil_append]
theorem tp_pp (l : List UInt8) (h : tpE l = 0) : ppE (tpP l) = 0 ∧ ppB (tpP l) ++ tpR l = l := by
  have h0 := h
  unfold tpE at h
  split at h
  · cases h
  · rename_i h2
    split at h
    · cases h
    · rename_i h4
      split at h
      · cases h
      · rename_i h5
        have e1 : tpP l = (l.drop 2).take (num (l.take 2)) := by simp [tpP, h0]
        have e2 : tpR l = l.drop (2 + num (l.take 2)) := by simp [tpR, h0]
        have e3 : (tpP l).length = num (l.take 2) := by rw [e1]; simp; omega
        have e4 : ¬ 4096 < (tpP l).length := by rw [e3]; exact h4
        refine ⟨by simp only [ppE]; rw [if_neg e4], ?_⟩
        have e5 : ppB (tpP l) = be 2 (tpP l).length ++ tpP l := by simp only [ppB]; rw [if_neg e4]
        have hl : (l.take 2).length = 2 := by simp; omega
        have e6 := be_num (l.take 2)
        rw [hl] at e6
        rw [e5, e3, e6, e1, e2, List.append_assoc, ← List.drop_drop, List.take_append_drop, List.take_append_drop]

theorem tpP_le (l : List UInt8) : (tpP l).length ≤ l.length := by
  unfold tpP
  split <;> simp
  omega

theorem putB_le (n : Nat) (s : Int) : (putB n s).length ≤ 8 := by
  unfold putB putE
  by_cases h : 1 ≤ s ∧ s ≤ 8
  · rw [if_pos h]
    split
    · rw [if_pos rfl, be_length]; omega
    · simp
  · rw [if_neg h]
    simp
theorem ppB_le (p : List UInt8) : (ppB p).length ≤ p.length + 2 := by
  unfold ppB
  split <;> simp [be_length]
  omega

end Go.Proofs.Ytjpneokbcnkpkaa
