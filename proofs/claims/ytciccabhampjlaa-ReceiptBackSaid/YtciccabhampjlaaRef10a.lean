/-
  The document's answers of layer 10: Key, Bytes, Read.
-/
import Derived.Test.YtciccabhampjlaaAc
import Derived.Test.YtciccabhampjlaaStepT
import Derived.Test.YtciccabhampjlaaBits
import Derived.Deep.RegionWith
import Derived.IntWalk
import Derived.Test.YtciccabhampjlaaPlain
import Derived.Test.YtciccabhampjlaaShaR
import Derived.Test.YtciccabhampjlaaMem
namespace Go.Proofs.Ytciccabhampjlaa
open Go.RowKit
set_option linter.unusedVariables false
set_option linter.unusedSimpArgs false
set_option maxRecDepth 100000

theorem slotU8k : Slot Try.prog UInt8 27 5 (.int .u8 0) 1 where
  under := Try.underlying27
  info := by kernel_rfl
  zero := by decide +kernel
  pos := by decide
/-- A key's digest. -/
def keyD (p : Dg) : Dg := ⟨sha256 (tagB 3 [p.1]), S8.bytes_len _⟩
end Go.Proofs.Ytciccabhampjlaa
