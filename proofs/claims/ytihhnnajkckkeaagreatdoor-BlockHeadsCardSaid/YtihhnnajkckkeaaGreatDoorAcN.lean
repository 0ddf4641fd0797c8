import Derived.Test.YtihhnnajkckkeaaGreatDoorAcL
import Derived.Test.YtihhnnajkckkeaaGreatDoorAcK
namespace Go.Proofs.YtihhnnajkckkeaaGreatDoor
open Go.RowKit
set_option linter.unusedVariables false
set_option maxRecDepth 100000
theorem YdB : mayT ⟨[], 0⟩ = true := by decide +kernel
theorem Zhi : allT ⟨[], 0⟩ = [] := by decide +kernel
theorem Zev : mayA ⟨[], 0⟩ = true := by unfold mayA; rw [YdB, Zhi]; rfl
end Go.Proofs.YtihhnnajkckkeaaGreatDoor
