/-
  The chapter's tree of one pair.
-/
import Derived.Test.YtfjkcdccnbggnaaDoorTreeLp
import Derived.Test.YtfjkcdccnbggnaaDoorBits
import Derived.Test.YtfjkcdccnbggnaaDoorTreeLz
import Derived.Test.YtfjkcdccnbggnaaDoorTreeMb
import Derived.Test.YtfjkcdccnbggnaaDoorTrB
namespace Go.Proofs.YtfjkcdccnbggnaaDoor
open Go.RowKit
set_option linter.unusedVariables false
set_option maxRecDepth 100000

def oneT : Tr := tputT ⟨[], 0⟩ (dfst 3) [97]
theorem one_nodes : oneT.ns.length ≤ 1000 := by decide +kernel
theorem nil_may : mayT ⟨[], 0⟩ = true := by decide +kernel
end Go.Proofs.YtfjkcdccnbggnaaDoor
