import Derived.Test.YtnnclggeifnomaaGreatDoorShaR
set_option maxRecDepth 100000
set_option linter.all false
namespace Go.Proofs.YtnnclggeifnomaaGreatDoor
open Go.RowKit
def rootE(ps:List Pr):Int:=if mayP ps=true then 0 else 8
def rootL(ps:List Pr):List UInt8:=if mayP ps=true then rootP 256 ps 0 else List.replicate 32 0
end Go.Proofs.YtnnclggeifnomaaGreatDoor
