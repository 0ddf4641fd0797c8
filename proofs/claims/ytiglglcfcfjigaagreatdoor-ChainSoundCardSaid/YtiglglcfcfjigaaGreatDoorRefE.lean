import Derived.Test.YtiglglcfcfjigaaGreatDoorBits
set_option maxRecDepth 100000
set_option linter.all false
namespace Go.Proofs.YtiglglcfcfjigaaGreatDoor
open Go.RowKit
theorem Zcs{a b:Bool}(h:a=b):Ending.returned (.bool a)=.returned (.bool b):=by rw[h]
end Go.Proofs.YtiglglcfcfjigaaGreatDoor
