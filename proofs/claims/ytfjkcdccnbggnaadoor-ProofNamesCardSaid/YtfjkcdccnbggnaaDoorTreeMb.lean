/-
  Contracts of the landed package tree: Pairs, a range over the iterator of a trie's pairs.
-/
import Derived.Test.YtfjkcdccnbggnaaDoorTreeMa
import Derived.Test.YtfjkcdccnbggnaaDoorTrA
import Derived.Test.YtfjkcdccnbggnaaDoorBits
import Derived.Test.YtfjkcdccnbggnaaDoorTrB
import Derived.Test.YtfjkcdccnbggnaaDoorMem
namespace Go.Proofs.YtfjkcdccnbggnaaDoor
open Go.RowKit Go.Shelf
set_option linter.unusedVariables false
set_option linter.unusedSimpArgs false
set_option maxRecDepth 100000
attribute [local go_sem] Oper.semAt_some


section
variable {F : Fence} {n : Nat} {P : Program}
end
def pairsM (t : Tr) : List Pr := if mayT t = true then allT t else []

end Go.Proofs.YtfjkcdccnbggnaaDoor
