/-
  Contracts of package num: digits.
-/
import Derived.Test.YtliahdlllmnkkaaDoorU8
namespace Go.Proofs.YtliahdlllmnkkaaDoor
open Go.RowKit
set_option linter.unusedVariables false

theorem shr_byte (n k : Nat) : Value.int .u8 ((n : Int) / 2 ^ (8 * k) % 256) = bv (UInt8.ofNat (n / 256 ^ k % 256)) := by
  have e : (2 : Int) ^ (8 * k) = ((256 ^ k : Nat) : Int) := by
    rw [Int.pow_mul]; simp
  have e2 : ((n : Int) / 2 ^ (8 * k) % 256) = ((n / 256 ^ k % 256 : Nat) : Int) := by rw [e]; simp
  rw [e2]
  unfold bv
  congr 1
  simp

set_option maxHeartbeats 400000 in
theorem digits_any (n : Nat) (size : Nat) (w : World) (h1 : 1 ≤ size) (h8 : size ≤ 8) (hn : n < 18446744073709551616) :
    Calls Tryd.prog 49 #[.int .u64 (n : Int), .int .i64 (size : Int)] w fun e w' => ∃ A c, e = .returned (.slice A size c) ∧ Own 5 w' w.heap.size A c (be size n) ∧ Below w.heap.size w w' := by
  obtain ⟨i0, hi0, hz0, hz1, hz2⟩ := info_parts infoU8
  go_enter Tryd.func49, Tryd.ntmps49
  go_wp2_with (at_make; refine wpList_make_full _ rfl _ _ 26 rfl w.heap.size 5 i0 (.int .u8 0) 1 Tryd.underlying26 hi0 hz0 hz1 _ _ _ _ size rfl rfl rfl rfl (by rw [hz2]; omega) (by unfold maxLen; omega) (Nat.le_refl _) ?_; intro w1 hown1 hgrow1)
  go_loopw [10] (fun i wr => ∃ k : Nat, k ≤ size ∧ i = .int .i64 k ∧ Below w.heap.size w wr ∧ wr.heap[w.heap.size]? = some (.cells ((dcells n size k).map bv).toArray 5 (0, 0))) (fun i _ => size - (intOf i).toNat)
  case atStart =>
    refine ⟨0, Nat.zero_le _, rfl, (Below.refl _ _).grown hgrow1 (Nat.le_refl _) (by simp), ?_⟩
    rw [dcells_zero]
    exact made_block hown1
  case round =>
    obtain ⟨k, hk, rfl, hb, hg⟩ := hrel
    by_cases hlt : k < size
    · have hc := block_bcell hg (size - 1 - k) (by rw [dcells_len _ _ _ hk]; omega)
      have hf := block_frozen hg (size - 1 - k)
      go_wp2
      go_roundw
      case rel =>
        refine ⟨k + 1, by omega, by go_num, hb.setCell (Nat.le_refl _) _, ?_⟩
        rw [shr_byte, ← dcells_step _ _ _ hlt]
        exact block_bset hg _ _
      case measure => simp [intOf]; omega
    · obtain rfl : k = size := by omega
      rw [dcells_all] at hg
      go_wp2
      go_ret
      have ho := Own.of_block (B := w.heap.size) hg (Nat.le_refl _) (by rw [be_length]; unfold maxLen; omega)
      rw [be_length] at ho
      exact ⟨_, _, rfl, ho, hb⟩
end Go.Proofs.YtliahdlllmnkkaaDoor
