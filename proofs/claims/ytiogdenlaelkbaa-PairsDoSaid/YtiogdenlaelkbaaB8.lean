/-
  The program's facts on bytes alone.
-/
import Derived.Test.YtiogdenlaelkbaaRows
import Derived.Test.YtiogdenlaelkbaaBy
import Derived.WalkLawsBesides
import Derived.WalkSpells
import Derived.Outline
import Derived.Laws.CopyOwn
import Derived.BigQuiet
import Derived.Deep.QuietTactic
import Derived.Deep.RegionWith
import Derived.IntWalk
namespace Go.Proofs.Ytiogdenlaelkbaa
open Go.RowKit
set_option linter.unusedVariables false

theorem infoU8 : (Try.prog.info? 5).map (fun i => (i.zero, i.size, i.bytes)) = some (some (.int .u8 0), 1, 1) := by kernel_rfl
theorem underU8 : Try.prog.underlying 5 = some (.int .u8) := Try.underlying5
end Go.Proofs.Ytiogdenlaelkbaa
