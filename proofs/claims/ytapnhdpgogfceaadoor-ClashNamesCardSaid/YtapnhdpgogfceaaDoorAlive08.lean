/-
  Layer 8's law: the chapter's first examples.
-/
import Derived.Test.YtapnhdpgogfceaaDoorVfX
import Derived.Test.YtapnhdpgogfceaaDoorRef07b
import Derived.Test.YtapnhdpgogfceaaDoorPfK
namespace Go.Proofs.YtapnhdpgogfceaaDoor
open Go.RowKit
set_option linter.unusedVariables false
set_option linter.unusedSimpArgs false
set_option maxRecDepth 100000

theorem slotU8 : Slot Tryd.prog UInt8 22 5 (.int .u8 0) 1 where
  under := Tryd.underlying22
  info := by kernel_rfl
  zero := rfl
  pos := by decide
end Go.Proofs.YtapnhdpgogfceaaDoor
