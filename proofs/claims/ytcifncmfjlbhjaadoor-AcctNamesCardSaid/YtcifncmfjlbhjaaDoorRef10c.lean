/-
  The document's answers of layer 10: May, Check, Total, Get.
-/
import Derived.Test.YtcifncmfjlbhjaaDoorRef10b
import Derived.Test.YtcifncmfjlbhjaaDoorRf6
namespace Go.Proofs.YtcifncmfjlbhjaaDoor
open Go.RowKit
set_option linter.unusedVariables false
set_option linter.unusedSimpArgs false
set_option maxRecDepth 100000

/-- Is a tree a state? -/
def mayA (t : Tr) : Bool := mayT t && heldP (allT t)
theorem all_len {t : Tr} (h : mayT t = true) (hc : t.ns.length ≤ 1000000) : (allT t).length ≤ 1000000 := Nat.le_trans (all_spec h).2.2.1 hc
/-- The account of a key in a state, or the zero one. -/
def getA (t : Tr) (k : Dg) : Ac := if mayA t = true then inA (allT t) k else ac0
end Go.Proofs.YtcifncmfjlbhjaaDoor
