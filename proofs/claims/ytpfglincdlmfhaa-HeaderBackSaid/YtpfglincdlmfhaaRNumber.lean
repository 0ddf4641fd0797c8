/-
  Contracts of the document's own answers for layer 1: Number.
-/
import Derived.Test.YtpfglincdlmfhaaBits
import Derived.Deep.RegionWith
import Derived.IntWalk
namespace Go.Proofs.Ytpfglincdlmfhaa
open Go.RowKit
set_option linter.unusedVariables false

set_option maxHeartbeats 400000 in
theorem Number_any (A : Option Addr) (n c : Nat) (l : List UInt8) (w : World) (hr : Rd w A l) (hn : n = l.length) (h8 : l.length ≤ 8) :
    Calls Try.prog 16 #[.slice A n c] w fun e w' => e = .returned (.int .u64 (num l : Int)) ∧ w = w' := by
  subst hn
  go_enter Try.func16, Try.ntmps16
  go_wp2
  go_loop [3, 4] (fun v i => ∃ j : Nat, j ≤ l.length ∧ i = .int .i64 j ∧ v = .int .u64 (num (l.take j) : Int)) (fun _ i => l.length - (intOf i).toNat)
  case atStart => exact ⟨0, Nat.zero_le _, rfl, rfl⟩
  case round =>
    obtain ⟨j, hj, rfl, rfl⟩ := hrel
    by_cases hlt : j < l.length
    · obtain ⟨b, o, rfl, hc⟩ := rd_cell hr (by omega)
      have hcell := hc j (by omega)
      clear hc hr
      have Hs := hid (num_take_succ l j (by omega))
      have Ho := hid (add_byte _ l[j] (num_take_lt l j l.length hlt h8))
      go_wp2
      go_round
      case rel => exact ⟨j + 1, by omega, by go_num, by rw [Ho.out, Hs.out]⟩
      case measure => simp [intOf]; omega
    · obtain rfl : j = l.length := by omega
      rw [List.take_length]
      go_wp2
      go_ret
      exact ⟨rfl, rfl⟩

theorem Number_is (A : Option Addr) (n c : Nat) (l : List UInt8) (w : World) (hr : Rd w A l) (hn : n = l.length) (h8 : l.length ≤ 8) (v : Int) (hv : v = (num l : Int)) :
    Calls Try.prog 16 #[.slice A n c] w fun e w' => e = .returned (.int .u64 v) ∧ w = w' := by
  subst hv
  exact Number_any A n c l w hr hn h8
end Go.Proofs.Ytpfglincdlmfhaa
