/-
  The document's answers of layer 6: All, Pairs, Sum, Check, Get.
-/
import Derived.Test.YtapnhdpgogfceaaGreatDoorRf6
import Derived.Test.YtapnhdpgogfceaaGreatDoorRef06g
import Derived.Test.YtapnhdpgogfceaaGreatDoorRefE
import Derived.Test.YtapnhdpgogfceaaGreatDoorBits
namespace Go.Proofs.YtapnhdpgogfceaaGreatDoor
open Go.RowKit
set_option linter.unusedVariables false
set_option linter.unusedSimpArgs false
set_option maxRecDepth 100000

def sumT (t : Tr) : Dg := if mayT t = true then ⟨sumP t.ns 256 t.root, sumP_length⟩ else z0
end Go.Proofs.YtapnhdpgogfceaaGreatDoor
