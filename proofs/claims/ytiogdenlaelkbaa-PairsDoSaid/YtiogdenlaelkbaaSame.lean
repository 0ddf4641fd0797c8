/-
  Contract of the document's 'Same': are two texts of bytes the same?
-/
import Derived.Test.YtiogdenlaelkbaaU8
namespace Go.Proofs.Ytiogdenlaelkbaa
open Go.RowKit
set_option linter.unusedVariables false

theorem Same_yes (A1 A2 : Option Addr) (n1 n2 c1 c2 : Nat) (l1 l2 : List UInt8) (w : World) (h1 : Rd w A1 l1) (h2 : Rd w A2 l2) (hn1 : n1 = l1.length) (hn2 : n2 = l2.length) (he : l1 = l2) :
    Calls Try.prog 13 #[.slice A1 n1 c1, .slice A2 n2 c2] w fun e w' => e = .returned (.bool true) ∧ w = w' := by
  have k1 := run_conv_str u8s underU8 9 underStr h1 n1 c1 hn1
  have k2 := run_conv_str u8s underU8 9 underStr h2 n2 c2 hn2
  have ht := bstr_eql l1 l2 he
  clear hn1 hn2 he h1 h2
  go_enter Try.func13, Try.ntmps13
  go_wp2
  go_ret
  exact ⟨rfl, rfl⟩
theorem Same_no (A1 A2 : Option Addr) (n1 n2 c1 c2 : Nat) (l1 l2 : List UInt8) (w : World) (h1 : Rd w A1 l1) (h2 : Rd w A2 l2) (hn1 : n1 = l1.length) (hn2 : n2 = l2.length) (he : ¬ l1 = l2) :
    Calls Try.prog 13 #[.slice A1 n1 c1, .slice A2 n2 c2] w fun e w' => e = .returned (.bool false) ∧ w = w' := by
  have k1 := run_conv_str u8s underU8 9 underStr h1 n1 c1 hn1
  have k2 := run_conv_str u8s underU8 9 underStr h2 n2 c2 hn2
  have ht := bstr_neql l1 l2 he
  clear hn1 hn2 he h1 h2
  go_enter Try.func13, Try.ntmps13
  go_wp2
  go_ret
  exact ⟨rfl, rfl⟩

end Go.Proofs.Ytiogdenlaelkbaa
