/-
  Texts laid together: Ref05a, Ref05b, Ref05e.
-/
import Derived.Test.YtapnhdpgogfceaaGreatDoorBits
import Derived.Test.YtapnhdpgogfceaaGreatDoorMem
import Derived.Test.YtapnhdpgogfceaaGreatDoorRefD
import Derived.IntWalk
import Derived.Test.YtapnhdpgogfceaaGreatDoorPlain
set_option maxRecDepth 100000
/- (Ref05a)
  The document's answers of layer 5: Great, Value.
-/
namespace Go.Proofs.YtapnhdpgogfceaaGreatDoor
open Go.RowKit
set_option linter.unusedVariables false

theorem ret_b {a b : Bool} (h : a = b) : Ending.returned (.bool a) = .returned (.bool b) := by rw [h]

theorem RValue_any (A : Option Addr) (c n : Nat) (w : World) (hc : n ≤ 9223372036854775807) :
    Calls Tryz.prog 36 #[.slice A n c] w fun e w' => e = .returned (.bool (decide (1 ≤ n ∧ n ≤ 64))) ∧ w = w' := by
  go_enter Tryz.func36, Tryz.ntmps36
  by_cases h1 : 1 ≤ n
  · by_cases h2 : n ≤ 64
    · go_wp2
      go_ret
      exact ⟨ret_b (by simp [h1, h2]; omega), rfl⟩
    · go_wp2
      go_ret
      exact ⟨ret_b (by simp [h1, h2]; omega), rfl⟩
  · go_wp2
    go_ret
    exact ⟨ret_b (by simp), rfl⟩
end Go.Proofs.YtapnhdpgogfceaaGreatDoor

/- (Ref05b)
  The document's answers of layer 5: May, Check.
-/
namespace Go.Proofs.YtapnhdpgogfceaaGreatDoor
open Go.RowKit
set_option linter.unusedVariables false
set_option linter.unusedSimpArgs false

theorem RValue_is (v : List UInt8) (A : Option Addr) (c : Nat) (b : Bool) (w : World) (hc : v.length ≤ 9223372036854775807) (hb : valB v = b) :
    Calls Tryz.prog 36 #[.slice A v.length c] w fun e w' => e = .returned (.bool b) ∧ w = w' := by
  subst hb
  exact RValue_any A c v.length w hc

end Go.Proofs.YtapnhdpgogfceaaGreatDoor

/- (Ref05e)
  The document's answers of layer 5: Same.
-/
namespace Go.Proofs.YtapnhdpgogfceaaGreatDoor
open Go.RowKit
set_option linter.unusedVariables false
set_option linter.unusedSimpArgs false

theorem Same_is (A1 A2 : Option Addr) (c1 c2 : Nat) (l1 l2 : List UInt8) (b : Bool) (w : World) (h1 : Rd w A1 l1) (h2 : Rd w A2 l2) (he : decide (l1 = l2) = b) :
    Calls Tryz.prog 12 #[.slice A1 l1.length c1, .slice A2 l2.length c2] w fun e w' => e = .returned (.bool b) ∧ w = w' := by
  subst he
  by_cases h : l1 = l2
  · rw [decide_eq_true h]; exact Same_yes A1 A2 _ _ c1 c2 l1 l2 w h1 h2 rfl rfl h
  · rw [decide_eq_false h]; exact Same_no A1 A2 _ _ c1 c2 l1 l2 w h1 h2 rfl rfl h


end Go.Proofs.YtapnhdpgogfceaaGreatDoor
