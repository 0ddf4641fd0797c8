/-
  Digests: an array of 32 bytes.
-/
import Derived.Test.YtiogdenlaelkbaaB8
import Derived.Test.YtiogdenlaelkbaaArr
namespace Go.Proofs.Ytiogdenlaelkbaa
open Go.RowKit
set_option linter.unusedVariables false

def z32 : Array Value := ((List.replicate 32 (0 : UInt8)).map bv).toArray
theorem info32 : (Try.prog.info? 24).map (fun i => (i.zero, i.size)) = some (some (.agg z32), z32.size) := by kernel_rfl
theorem z32_size : z32.size = 32 := by decide +kernel
theorem size32 : (Try.prog.info? 24).map (·.size) = some 32 := by kernel_rfl
end Go.Proofs.Ytiogdenlaelkbaa
