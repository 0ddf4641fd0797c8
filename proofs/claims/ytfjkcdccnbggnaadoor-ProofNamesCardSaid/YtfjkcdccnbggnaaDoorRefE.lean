/-
  Texts laid together: Ref05a.
-/
import Derived.Test.YtfjkcdccnbggnaaDoorBits
import Derived.Test.YtfjkcdccnbggnaaDoorMem
set_option maxRecDepth 100000
/- (Ref05a)
  The document's answers of layer 5: Great, Value.
-/
namespace Go.Proofs.YtfjkcdccnbggnaaDoor
open Go.RowKit
set_option linter.unusedVariables false

theorem ret_b {a b : Bool} (h : a = b) : Ending.returned (.bool a) = .returned (.bool b) := by rw [h]

end Go.Proofs.YtfjkcdccnbggnaaDoor
