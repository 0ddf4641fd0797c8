/-
 Texts laid together: RDigits.
-/
import Derived.Test.YtmjocmogfckmmaaBits
import Derived.Deep.RegionWith
import Derived.IntWalk
set_option maxRecDepth 100000
set_option linter.unusedVariables false
set_option linter.unusedSimpArgs false
namespace Go.Proofs.Ytmjocmogfckmmaa
/- (RDigits)
 Contracts of the document's own answers for layer 1: Digits.
-/
section
open Go.RowKit

set_option maxHeartbeats 400000 in
theorem Digits_any (n : Nat) (size : Nat) (w : World) (h1 : 1 ≤ size) (h8 : size ≤ 8) (hn : n < 18446744073709551616) :
  Calls Try.prog 85 #[.int .u64 (n : Int), .int .i64 (size : Int)] w fun e w' => ∃ A c, e = .returned (.tuple #[.slice A size c, .bool (decide (n < 256 ^ size))]) ∧ Own 5 w' w.heap.size A c (be size n) ∧ Below w.heap.size w w' := by
 obtain ⟨i0, hi0, hz0, hz1, hz2⟩ := info_parts infoU8
 go_enter Try.func85, Try.ntmps85
 go_wp2_with (at_make; refine wpList_make_full _ rfl _ _ 41 rfl w.heap.size 5 i0 (.int .u8 0) 1 Try.underlying41 hi0 hz0 hz1 _ _ _ _ size rfl rfl rfl rfl (by rw [hz2]; omega) (by unfold maxLen; omega) (Nat.le_refl _) ?_; intro w1 hown1 hgrow1)
 go_loopw [0, 7] (fun v i wr => ∃ k : Nat, k ≤ size ∧ i = .int .i64 ((size : Int) - k - 1) ∧ v = .int .u64 ((n / 256 ^ k : Nat) : Int) ∧ Below w.heap.size w wr ∧ wr.heap[w.heap.size]? = some (.cells ((dcells n size k).map bv).toArray 5 (0, 0))) (fun _ i _ => (intOf i + 1).toNat)
 case atStart =>
  refine ⟨0, Nat.zero_le _, by go_num, by simp, (Below.refl _ _).grown hgrow1 (Nat.le_refl _) (by simp), ?_⟩
  rw [dcells_zero]
  exact made_block hown1
 case round =>
  obtain ⟨k, hk, rfl, rfl, hb, hg⟩ := hrel
  by_cases hlt : k < size
  ·have hc := block_bcell hg (size - k - 1) (by rw [dcells_len _ _ _ hk]; omega)
   have hf := block_frozen hg (size - k - 1)
   have hqn : n / 256 ^ k < 18446744073709551616 := Nat.lt_of_le_of_lt (Nat.div_le_self _ _) hn
   have e3 := hid (show n / 256 ^ (k + 1) = n / 256 ^ k / 256 by rw [Nat.pow_succ, Nat.div_div_eq_div_mul])
   have e4 := hid (dcells_step n size k hlt)
   have e5 := hid (show size - k - 1 = size - 1 - k by omega)
   generalize n / 256 ^ k = q at *
   go_wp2
   go_roundw
   case rel =>
    refine ⟨k + 1, by omega, by go_num, ?_, hb.setCell (Nat.le_refl _) _, ?_⟩
    ·rw [e3.out]
     go_num
    ·rw [← e4.out, e5.out, show Value.int .u8 ((q : Int) % 256) = bv (UInt8.ofNat (q % 256)) from by unfold bv; congr 1; simp]
     exact block_bset hg _ _
   case measure => simp [intOf]; omega
  ·obtain rfl : k = size := by omega
   rw [dcells_all] at hg
   have ht : (((n / 256 ^ k : Nat) : Int) == 0) = decide (n < 256 ^ k) := by
    rw [Bool.eq_iff_iff, beq_iff_eq, decide_eq_true_iff]
    constructor
    ·intro h
     have h2 : n / 256 ^ k = 0 := by omega
     rcases Nat.div_eq_zero_iff.1 h2 with h3 | h3
     ·have := Nat.pow_pos (n := k) (show 0 < 256 by omega); omega
     ·exact h3
    ·intro h
     rw [Nat.div_eq_of_lt h]; rfl
   generalize n / 256 ^ k = q at *
   go_wp2
   go_ret2
   have ho := Own.of_block (B := w.heap.size) hg (Nat.le_refl _) (by rw [be_length]; unfold maxLen; omega)
   rw [be_length] at ho
   exact ⟨_, _, rfl, ho, hb⟩
end
end Go.Proofs.Ytmjocmogfckmmaa
