/-
 Texts laid together: Ref05a.
-/
import Derived.Test.YtmjocmogfckmmaaDoorBits
import Derived.Test.YtmjocmogfckmmaaDoorMem
set_option maxRecDepth 100000
set_option linter.unusedVariables false
set_option linter.unusedSimpArgs false
namespace Go.Proofs.YtmjocmogfckmmaaDoor
/- (Ref05a)
 The document's answers of layer 5: Great, Value.
-/
section
open Go.RowKit

theorem ret_b {a b : Bool} (h : a = b) : Ending.returned (.bool a) = .returned (.bool b) := by rw [h]

end
end Go.Proofs.YtmjocmogfckmmaaDoor
