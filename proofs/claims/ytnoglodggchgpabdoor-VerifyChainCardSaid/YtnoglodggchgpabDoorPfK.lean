/-
  Contracts of the landed package proof: Make.
-/
import Derived.Test.YtnoglodggchgpabDoorPfM
namespace Go.Proofs.YtnoglodggchgpabDoor
open Go.RowKit
set_option linter.unusedVariables false
set_option linter.unusedSimpArgs false
set_option maxRecDepth 100000

theorem endF_v (x : Nd) (p : Pf) : (endF x p).v = if x.leaf = true then x.v else p.v := by
  unfold endF
  split
  · split <;> rfl
  · rfl
theorem endF_ss (x : Nd) (p : Pf) : (endF x p).ss = p.ss := by
  unfold endF
  split
  · split <;> rfl
  · rfl
end Go.Proofs.YtnoglodggchgpabDoor
