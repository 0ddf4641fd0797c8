/-
  Contracts of the landed package tree: Get.
-/
import Derived.Test.YtcifncmfjlbhjaaDoorTreeLi
namespace Go.Proofs.YtcifncmfjlbhjaaDoor
open Go.RowKit
set_option linter.unusedVariables false
set_option linter.unusedSimpArgs false
set_option maxRecDepth 100000

def getTB (t : Tr) (k : Dg) : Bool := mayT t && hasP (allT t) k
def getTL (t : Tr) (k : Dg) : List UInt8 := if getTB t k = true then getV (allT t) k else []
end Go.Proofs.YtcifncmfjlbhjaaDoor
