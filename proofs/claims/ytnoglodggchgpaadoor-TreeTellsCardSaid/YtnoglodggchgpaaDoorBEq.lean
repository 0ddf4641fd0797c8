/-
  The library's bytes.Equal.
-/
import Derived.Test.YtnoglodggchgpaaDoorBits
namespace Go.Proofs.YtnoglodggchgpaaDoor
open Go.RowKit
set_option linter.unusedVariables false
set_option linter.unusedSimpArgs false

theorem BEqual_is (A1 A2 : Option Addr) (c1 c2 : Nat) (l1 l2 : List UInt8) (b : Bool) (w : World) (h1 : Rd w A1 l1) (h2 : Rd w A2 l2) (he : decide (l1 = l2) = b) :
    Calls Tryd.prog 128 #[Value.slice A1 l1.length c1, .slice A2 l2.length c2] w fun e w' => e = .returned (.bool b) ∧ w = w' := by
  have k1 := run_conv_str u8s underU8 9 underStr h1 l1.length c1 rfl
  have k2 := run_conv_str u8s underU8 9 underStr h2 l2.length c2 rfl
  have ht : ((bstr l1).toList == (bstr l2).toList) = b := by
    rw [← he, bstr_toList, bstr_toList]
    by_cases h : l1 = l2 <;> simp [h]
  clear he h1 h2
  generalize l1.length = n1 at *
  generalize l2.length = n2 at *
  go_enter Tryd.func128, Tryd.ntmps128
  go_wp2
  go_ret
  exact ⟨rfl, rfl⟩
end Go.Proofs.YtnoglodggchgpaaDoor
