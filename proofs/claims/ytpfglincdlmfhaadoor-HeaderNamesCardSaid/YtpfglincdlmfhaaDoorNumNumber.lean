/-
  Contracts of package num: number.
-/
import Derived.Test.YtpfglincdlmfhaaDoorBits
namespace Go.Proofs.YtpfglincdlmfhaaDoor
open Go.RowKit
set_option linter.unusedVariables false

set_option maxHeartbeats 400000 in
theorem number_any (A : Option Addr) (n c k : Nat) (l : List UInt8) (w : World) (hr : Rd w A l) (hn : n = l.length) (h8 : k ≤ 8) (hk : k ≤ l.length) (hb : l.length ≤ 9223372036854775807) :
    Calls Tryd.prog 36 #[.slice A n c, .int .i64 (k : Int)] w fun e w' => e = .returned (.int .u64 (num (l.take k) : Int)) ∧ w = w' := by
  subst hn
  go_enter Tryd.func36, Tryd.ntmps36
  go_wp2
  go_loop [5, 8] (fun v i => ∃ j : Nat, j ≤ k ∧ i = .int .i64 j ∧ v = .int .u64 (num (l.take j) : Int)) (fun _ i => k - (intOf i).toNat)
  case atStart => exact ⟨0, Nat.zero_le _, rfl, rfl⟩
  case round =>
    obtain ⟨j, hj, rfl, rfl⟩ := hrel
    by_cases hlt : j < k
    · obtain ⟨b, o, rfl, hc⟩ := rd_cell hr (by omega)
      have hcell := hc j (by omega)
      clear hc hr
      have Hs := hid (num_take_succ l j (by omega))
      have Ho := hid (or_byte _ l[j] (num_take_lt l j k hlt h8))
      go_wp2
      go_round
      case rel => exact ⟨j + 1, by omega, by go_num, by rw [Ho.out, Hs.out]⟩
      case measure => simp [intOf]; omega
    · obtain rfl : j = k := by omega
      go_wp2
      go_ret
      exact ⟨rfl, rfl⟩
end Go.Proofs.YtpfglincdlmfhaaDoor
