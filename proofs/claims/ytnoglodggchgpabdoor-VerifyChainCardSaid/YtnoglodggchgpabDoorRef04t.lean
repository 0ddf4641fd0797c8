/-
  The document's answers for layer 4: Turn.
-/
import Derived.Test.YtnoglodggchgpabDoorBits
import Derived.Test.YtnoglodggchgpabDoorMem
import Derived.IntWalk
namespace Go.Proofs.YtnoglodggchgpabDoor
open Go.RowKit
set_option linter.unusedVariables false
set_option linter.unusedSimpArgs false

theorem tbyte_nat : ∀ c : Fin 256, ∀ p : Fin 8, (tbyte (UInt8.ofNat c.val) p.val).toNat = (if c.val / 2 ^ (7 - p.val) % 2 = 1 then c.val - 2 ^ (7 - p.val) else c.val + 2 ^ (7 - p.val)) ∧ (c.val / 2 ^ (7 - p.val) % 2 = 1 → 2 ^ (7 - p.val) ≤ c.val) ∧ (c.val / 2 ^ (7 - p.val) % 2 ≠ 1 → c.val + 2 ^ (7 - p.val) < 256) := by decide +kernel

end Go.Proofs.YtnoglodggchgpabDoor
