import Derived.Test.YtimaoonpgilekaaDoorStX
import Derived.Test.YtimaoonpgilekaaDoorShaR
import Derived.Test.YtimaoonpgilekaaDoorInW
set_option maxRecDepth 100000
set_option linter.all false
namespace Go.Proofs.YtimaoonpgilekaaDoor
open Go.RowKit
def keyD(p:Dg):Dg:=⟨sha256 (tagB 3 [p.1]),S8.bytes_len _⟩
def mayA(t:Tr):Bool:=mayT t&&heldP (allT t)
def getA(t:Tr)(k:Dg):Ac:=if mayA t=true then inA (allT t) k else ac0
end Go.Proofs.YtimaoonpgilekaaDoor
