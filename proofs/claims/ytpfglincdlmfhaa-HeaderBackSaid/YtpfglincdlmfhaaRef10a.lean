/-
  The document's answers of layer 10: Key, Bytes, Read.
-/
import Derived.Test.YtpfglincdlmfhaaAc
import Derived.Test.YtpfglincdlmfhaaStepT
import Derived.Test.YtpfglincdlmfhaaRNumber
import Derived.Test.YtpfglincdlmfhaaBits
import Derived.Deep.RegionWith
import Derived.IntWalk
import Derived.Test.YtpfglincdlmfhaaPlain
import Derived.Test.YtpfglincdlmfhaaShaR
import Derived.Test.YtpfglincdlmfhaaMem
namespace Go.Proofs.Ytpfglincdlmfhaa
open Go.RowKit
set_option linter.unusedVariables false
set_option linter.unusedSimpArgs false
set_option maxRecDepth 100000

theorem slotU8k : Slot Try.prog UInt8 22 5 (.int .u8 0) 1 where
  under := Try.underlying22
  info := by kernel_rfl
  zero := by decide +kernel
  pos := by decide
/-- A key's digest. -/
def keyD (p : Dg) : Dg := ⟨sha256 (tagB 3 [p.1]), S8.bytes_len _⟩
end Go.Proofs.Ytpfglincdlmfhaa
