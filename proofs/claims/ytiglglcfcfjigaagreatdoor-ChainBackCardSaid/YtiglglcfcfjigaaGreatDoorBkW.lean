import Derived.Test.YtiglglcfcfjigaaGreatDoorAcK
import Derived.Test.YtiglglcfcfjigaaGreatDoorBkY
set_option maxRecDepth 100000
set_option linter.all false
namespace Go.Proofs.YtiglglcfcfjigaaGreatDoor
open Go.RowKit
theorem YdB:mayT ⟨[],0⟩=true:=by decide +kernel
theorem Zhi:allT ⟨[],0⟩=[]:=by decide +kernel
theorem Zev:mayA ⟨[],0⟩=true:=by unfold mayA;rw[YdB,Zhi];rfl
def zBox:Dg:=⟨List.replicate 32 0,rfl⟩
end Go.Proofs.YtiglglcfcfjigaaGreatDoor
