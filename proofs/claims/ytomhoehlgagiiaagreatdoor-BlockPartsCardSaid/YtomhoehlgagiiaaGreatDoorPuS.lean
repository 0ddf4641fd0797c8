import Derived.Test.YtomhoehlgagiiaaGreatDoorPuQ
import Derived.Test.YtomhoehlgagiiaaGreatDoorStX
set_option linter.all false
namespace Go.Proofs.YtomhoehlgagiiaaGreatDoor
open Go.RowKit
def StQ(gc z:Int)(P:Tr→Prop)(w:World)(e:Ending)(w':World):Prop:=∃(o:Tr) (A':Option Addr) (c':Nat),e=.returned (.tuple #[.agg #[.slice A' o.ns.length c',.int .i64 o.root],.int .i64 gc,.int .i64 z])∧OwnR 124 w' w.heap.size A' c' o.ns∧Below w.heap.size w w'∧P o
end Go.Proofs.YtomhoehlgagiiaaGreatDoor
