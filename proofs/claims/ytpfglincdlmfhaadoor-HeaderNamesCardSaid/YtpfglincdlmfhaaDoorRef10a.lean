/-
  The document's answers of layer 10: Key, Bytes, Read.
-/
import Derived.Test.YtpfglincdlmfhaaDoorAc
import Derived.Test.YtpfglincdlmfhaaDoorStepT
import Derived.Test.YtpfglincdlmfhaaDoorBits
import Derived.Deep.RegionWith
import Derived.IntWalk
import Derived.Test.YtpfglincdlmfhaaDoorRefC
import Derived.Test.YtpfglincdlmfhaaDoorMem
namespace Go.Proofs.YtpfglincdlmfhaaDoor
open Go.RowKit
set_option linter.unusedVariables false
set_option linter.unusedSimpArgs false
set_option maxRecDepth 100000

theorem slotU8k : Slot Tryd.prog UInt8 29 5 (.int .u8 0) 1 where
  under := Tryd.underlying29
  info := by kernel_rfl
  zero := by decide +kernel
  pos := by decide
/-- A key's digest. -/
def keyD (p : Dg) : Dg := ⟨sha256 (tagB 3 [p.1]), S8.bytes_len _⟩
end Go.Proofs.YtpfglincdlmfhaaDoor
