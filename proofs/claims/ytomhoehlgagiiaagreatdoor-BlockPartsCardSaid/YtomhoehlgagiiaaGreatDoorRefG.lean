import Derived.Test.YtomhoehlgagiiaaGreatDoorBits
import Derived.Test.YtomhoehlgagiiaaGreatDoorPlain
import Derived.Test.YtomhoehlgagiiaaGreatDoorShaR
import Derived.Test.YtomhoehlgagiiaaGreatDoorMem
import Derived.Deep.RegionWith
import Derived.IntWalk
import Derived.Test.YtomhoehlgagiiaaGreatDoorRefE
set_option maxRecDepth 100000
set_option linter.all false
namespace Go.Proofs.YtomhoehlgagiiaaGreatDoor
section
open Go.RowKit
def rootE(ps:List Pr):Int:=if mayP ps=true then 0 else 8
def rootL(ps:List Pr):List UInt8:=if mayP ps=true then rootP 256 ps 0 else List.replicate 32 0
end
end Go.Proofs.YtomhoehlgagiiaaGreatDoor
