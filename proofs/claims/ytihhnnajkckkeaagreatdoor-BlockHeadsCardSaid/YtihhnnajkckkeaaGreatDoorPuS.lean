import Derived.Test.YtihhnnajkckkeaaGreatDoorPuQ
import Derived.Test.YtihhnnajkckkeaaGreatDoorStX
namespace Go.Proofs.YtihhnnajkckkeaaGreatDoor
open Go.RowKit
set_option linter.unusedVariables false
def StQ (gc z : Int) (P : Tr → Prop) (w : World) (e : Ending) (w' : World) : Prop := ∃ (o : Tr) (A' : Option Addr) (c' : Nat), e = .returned (.tuple #[.agg #[.slice A' o.ns.length c', .int .i64 o.root], .int .i64 gc, .int .i64 z]) ∧ OwnR 88 w' w.heap.size A' c' o.ns ∧ Below w.heap.size w w' ∧ P o
end Go.Proofs.YtihhnnajkckkeaaGreatDoor
