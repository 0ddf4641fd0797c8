import Derived.Test.YtihhnnajkckkeaaGreatDoorBits
import Derived.Test.YtihhnnajkckkeaaGreatDoorPlain
import Derived.Test.YtihhnnajkckkeaaGreatDoorShaR
import Derived.Test.YtihhnnajkckkeaaGreatDoorMem
import Derived.Deep.RegionWith
import Derived.IntWalk
import Derived.Test.YtihhnnajkckkeaaGreatDoorRefE
set_option maxRecDepth 100000
set_option linter.unusedVariables false
set_option linter.unusedSimpArgs false
namespace Go.Proofs.YtihhnnajkckkeaaGreatDoor
section
open Go.RowKit
def rootE (ps : List Pr) : Int := if mayP ps = true then 0 else 8
def rootL (ps : List Pr) : List UInt8 := if mayP ps = true then rootP 256 ps 0 else List.replicate 32 0
end
end Go.Proofs.YtihhnnajkckkeaaGreatDoor
