/-
 Layer 15: what calls answer whose answer is a state, a code and an error. No function of purse is named here.
-/
import Derived.Test.YtmjocmogfckmmaaGreatDoorPuQ
import Derived.Test.YtmjocmogfckmmaaGreatDoorStX
namespace Go.Proofs.YtmjocmogfckmmaaGreatDoor
open Go.RowKit
set_option linter.unusedVariables false

/-- A state, a code and an error; P: what is known of the state. -/
def StQ (gc z : Int) (P : Tr → Prop) (w : World) (e : Ending) (w' : World) : Prop := ∃ (o : Tr) (A' : Option Addr) (c' : Nat), e = .returned (.tuple #[.agg #[.slice A' o.ns.length c', .int .i64 o.root], .int .i64 gc, .int .i64 z]) ∧ OwnR 43 w' w.heap.size A' c' o.ns ∧ Below w.heap.size w w' ∧ P o
end Go.Proofs.YtmjocmogfckmmaaGreatDoor
