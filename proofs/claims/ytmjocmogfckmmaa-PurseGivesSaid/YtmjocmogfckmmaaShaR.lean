/-
 Texts laid together: Ref02c.
-/
import Derived.Test.YtmjocmogfckmmaaBits
import Derived.Test.YtmjocmogfckmmaaPlain
set_option maxRecDepth 100000
set_option linter.unusedVariables false
set_option linter.unusedSimpArgs false
namespace Go.Proofs.Ytmjocmogfckmmaa
/- (Ref02c)
 The document's padding.
-/
section
open Go.RowKit

def z8 : Array Value := ((List.replicate 8 (0 : UInt8)).map bv).toArray

end
end Go.Proofs.Ytmjocmogfckmmaa
