/-
  Contracts of package num: Put.
-/
import Derived.Test.YtliahdlllmnkkaaNumDig
import Derived.Test.YtliahdlllmnkkaaNumSize
namespace Go.Proofs.Ytliahdlllmnkkaa
open Go.RowKit
set_option linter.unusedVariables false

theorem shr_zero (n k : Nat) (h8 : k ≤ 8) (h : n < 256 ^ k) : ((n : Int) / 2 ^ (8 * k) != 0) = false := by
  have e : (2 : Int) ^ (8 * k) = ((256 ^ k : Nat) : Int) := by rw [Int.pow_mul]; simp
  rw [e, bne_eq_false_iff_eq]
  have h2 : n / 256 ^ k = 0 := Nat.div_eq_of_lt h
  rw [← Int.natCast_ediv, h2]
  rfl

theorem shr_pos (n k : Nat) (h : ¬ n < 256 ^ k) : ((n : Int) / 2 ^ (8 * k) != 0) = true := by
  have e : (2 : Int) ^ (8 * k) = ((256 ^ k : Nat) : Int) := by rw [Int.pow_mul]; simp
  rw [e]
  have h2 : 0 < n / 256 ^ k := Nat.div_pos (by omega) (Nat.pow_pos (by omega))
  rw [bne_iff_ne, ← Int.natCast_ediv]
  omega

theorem Put_any (n : Nat) (s : Int) (w : World) (hn : n < 18446744073709551616) :
    Calls Try.prog 27 #[.int .u64 (n : Int), .int .i64 s] w fun e w' => ∃ A c, e = .returned (.tuple #[.slice A (putB n s).length c, .int .i64 (putE n s)]) ∧ Own 5 w' w.heap.size A c (putB n s) ∧ Below w.heap.size w w' := by
  by_cases hs : 1 ≤ s ∧ s ≤ 8
  · obtain ⟨k, rfl⟩ := Int.eq_ofNat_of_zero_le (show 0 ≤ s by omega)
    by_cases hk : n < 256 ^ k
    · have e1 : putE n k = 0 := by simp only [putE]; rw [if_pos hs, if_pos (by simpa using hk)]
      have e2 : putB n k = be k n := by simp [putB, e1]
      rw [e1, e2, be_length]
      obtain ⟨h1, h8⟩ := hs
      have ht := shr_zero n k (by omega) hk
      clear e1 e2 hk
      go_enter Try.func27, Try.ntmps27
      go_wp2_with (first | (go_at_call 24; refine (isSize_yes _ _ (by omega) (by omega)).mono ?_; rintro e w' ⟨rfl, rfl⟩) | (go_at_call 28; refine (digits_any _ _ _ (by omega) (by omega) hn).mono ?_; rintro e w1 ⟨A, c, rfl, ho, hb⟩))
      go_ret2
      exact ⟨_, _, rfl, ho, hb⟩
    · have e1 : putE n k = 4 := by simp only [putE]; rw [if_pos hs, if_neg (by simpa using hk)]
      have e2 : putB n k = [] := by simp [putB, e1]
      rw [e1, e2]
      obtain ⟨h1, h8⟩ := hs
      have ht := shr_pos n k hk
      clear e1 e2 hk
      go_enter Try.func27, Try.ntmps27
      go_wp2_with (first | (go_at_call 24; refine (isSize_yes _ _ (by omega) (by omega)).mono ?_; rintro e w' ⟨rfl, rfl⟩))
      go_ret2
      exact ⟨_, _, rfl, Own.nil _ _, Below.refl _ _⟩
  · have e1 : putE n s = 2 := by simp only [putE]; rw [if_neg hs]
    have e2 : putB n s = [] := by simp [putB, e1]
    rw [e1, e2]
    have hs' : s < 1 ∨ 8 < s := by omega
    clear e1 e2 hs
    go_enter Try.func27, Try.ntmps27
    go_wp2_with (first | (go_at_call 24; refine (isSize_no _ _ hs').mono ?_; rintro e w' ⟨rfl, rfl⟩))
    go_ret2
    exact ⟨_, _, rfl, Own.nil _ _, Below.refl _ _⟩

/-! ### the same contracts with what they answer given by equations -/
theorem Put_is (n : Nat) (ni s : Int) (b : List UInt8) (e : Int) (w : World) (hni : ni = n) (hn : n < 18446744073709551616) (hb : putB n s = b) (he : putE n s = e) :
    Calls Try.prog 27 #[.int .u64 ni, .int .i64 s] w fun r w' => ∃ A c, r = .returned (.tuple #[.slice A b.length c, .int .i64 e]) ∧ Own 5 w' w.heap.size A c b ∧ Below w.heap.size w w' := by
  subst hni hb he
  exact Put_any n s w hn
end Go.Proofs.Ytliahdlllmnkkaa
