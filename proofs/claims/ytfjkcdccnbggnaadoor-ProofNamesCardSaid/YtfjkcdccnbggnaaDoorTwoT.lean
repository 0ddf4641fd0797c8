/-
  The chapter's tree of two pairs, and its proofs.
-/
import Derived.Test.YtfjkcdccnbggnaaDoorOneT
import Derived.Test.YtfjkcdccnbggnaaDoorPfM
import Derived.Test.YtfjkcdccnbggnaaDoorVfS
import Derived.Test.YtfjkcdccnbggnaaDoorBits
namespace Go.Proofs.YtfjkcdccnbggnaaDoor
open Go.RowKit
set_option linter.unusedVariables false
set_option maxRecDepth 100000

def twoT : Tr := tputT oneT (dfst 200) [98]
def leafD (c x : UInt8) : Dg := ⟨sha256 (tagB 1 [(dfst c).1, [x]]), shaLen _⟩
theorem two_nodes : twoT.ns.length ≤ 1000 := by decide +kernel
theorem two_may : mayT twoT = true := by decide +kernel
theorem two_make3 : makeF twoT (dfst 3) = ⟨dfst 3, 1, z0, [97], [leafD 200 98]⟩ := by decide +kernel
theorem two_told : toldF (makeF twoT (dfst 3)) = true := by decide +kernel
end Go.Proofs.YtfjkcdccnbggnaaDoor
