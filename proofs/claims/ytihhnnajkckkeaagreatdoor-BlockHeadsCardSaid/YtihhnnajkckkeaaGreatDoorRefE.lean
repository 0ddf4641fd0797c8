import Derived.Test.YtihhnnajkckkeaaGreatDoorBits
import Derived.Test.YtihhnnajkckkeaaGreatDoorMem
set_option maxRecDepth 100000
set_option linter.unusedVariables false
set_option linter.unusedSimpArgs false
namespace Go.Proofs.YtihhnnajkckkeaaGreatDoor
section
open Go.RowKit
theorem Zcs {a b : Bool} (h : a = b) : Ending.returned (.bool a) = .returned (.bool b) := by rw [h]
end
end Go.Proofs.YtihhnnajkckkeaaGreatDoor
