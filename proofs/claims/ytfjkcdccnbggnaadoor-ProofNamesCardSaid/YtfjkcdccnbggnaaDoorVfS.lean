/-
  Texts laid together: VfP.
-/
import Derived.Test.YtfjkcdccnbggnaaDoorPf
import Derived.Test.YtfjkcdccnbggnaaDoorPlain
set_option maxRecDepth 100000
/- (VfP)
  What is digested on a proof's road, and its root. No program is named here.
-/
namespace Go.Proofs.YtfjkcdccnbggnaaDoor
open Go.RowKit
set_option linter.unusedVariables false

theorem shaLen (l : List UInt8) : (sha256 l).length = 32 := S8.bytes_len _
end Go.Proofs.YtfjkcdccnbggnaaDoor
