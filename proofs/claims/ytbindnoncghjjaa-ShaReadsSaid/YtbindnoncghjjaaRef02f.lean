/-
  The document's texts of digests: digit.
-/
import Derived.Test.YtbindnoncghjjaaTxt
import Derived.StillTailTactics
namespace Go.Proofs.Ytbindnoncghjjaa
open Go.RowKit
set_option linter.unusedVariables false

set_option maxHeartbeats 800000 in
theorem digit_any (c : UInt8) (w : World) :
    Calls Try.prog 34 #[.int .u8 (c.toNat : Int)] w fun r w' => r = .returned (.int .i64 (digitI c)) ∧ w = w' := by
  go_enter Try.func34, Try.ntmps34
  go_wp2
  go_loop [3] (fun v => ∃ i : Nat, i ≤ 16 ∧ v = .int .i64 i ∧ Hid (∀ k, k < i → hexd.getD k 0 ≠ c)) (fun v => 16 - (intOf v).toNat)
  case atStart => exact ⟨0, Nat.zero_le _, rfl, fun k hk => absurd hk (by omega)⟩
  case round =>
    obtain ⟨i, hi, rfl, hne⟩ := hrel
    by_cases hlt : i < 16
    · go_wp2
      · go_ret
        have h1 := digit_hit c i hlt (by show i < 16; exact hlt) (by assumption)
        rw [digitI_hit c i hlt h1]
        exact ⟨rfl, rfl⟩
      · go_round
        case rel =>
          have h1 := digit_miss c i hlt (by show i < 16; exact hlt) (by assumption)
          refine ⟨i + 1, by omega, by go_num, fun k hk => ?_⟩
          rcases Nat.lt_or_ge k i with h | h
          · exact hne k h
          · obtain rfl : k = i := by omega
            exact h1
        case measure => simp [intOf]; omega
    · have Hm := hid (digitI_miss c fun k hk => hne k (by omega))
      have h16 : 16 ≤ i := by omega
      go_wp2
      go_ret
      rw [Hm.out]
      exact ⟨rfl, rfl⟩

end Go.Proofs.Ytbindnoncghjjaa
