/-
  Contract of the document's 'Twin': bytes in new memory.
-/
import Derived.Test.YtiogdenlaelkbaaU8
namespace Go.Proofs.Ytiogdenlaelkbaa
open Go.RowKit
set_option linter.unusedVariables false

theorem Twin_any (A : Option Addr) (n c : Nat) (l : List UInt8) (w : World) (hr : Rd w A l) (hn : n = l.length) (hb47 : l.length ≤ 140737488351232) :
    Calls Try.prog 21 #[.slice A n c] w fun e w' => ∃ A' c', e = .returned (.slice A' l.length c') ∧ Own 5 w' w.heap.size A' c' l ∧ Below w.heap.size w w' := by
  subst hn
  go_enter Try.func21, Try.ntmps21
  go_wp2_with (at_builtin; refine wpList_app u8s rfl (.tmp 4) (.tmp 5) rfl w.heap.size none A 0 l.length 0 c [] l rfl rfl rfl rfl (Own.nil _ _) hr (by simp; omega) (Nat.le_refl _) ?_; intro A2 c2 w2 ho2 hb2)
  go_ret
  exact ⟨_, _, rfl, ho2, hb2⟩

end Go.Proofs.Ytiogdenlaelkbaa
