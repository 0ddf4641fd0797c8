/-
  Contracts of the landed package path: Bit, Turn, Shared, Ahead.
-/
import Derived.Test.YtcnehjnphfmhjaaPathA
import Derived.Test.YtcnehjnphfmhjaaPathC
namespace Go.Proofs.Ytcnehjnphfmhjaa
/-- 'beadroll/path.11' is in this seat. -/
theorem path_here : True := trivial
end Go.Proofs.Ytcnehjnphfmhjaa
