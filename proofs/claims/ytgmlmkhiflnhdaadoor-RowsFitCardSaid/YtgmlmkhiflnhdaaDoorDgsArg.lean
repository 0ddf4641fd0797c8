/-
  Slices of digests among a law's arguments.
-/
import Derived.Test.YtgmlmkhiflnhdaaDoorBits
namespace Go.Proofs.YtgmlmkhiflnhdaaDoor
open Go.RowKit
set_option linter.unusedVariables false

theorem opensDgs : Opens Tryd.prog 22 (List Dg) := Opens.slice Tryd.underlying22 (by kernel_rfl) opensDg
end Go.Proofs.YtgmlmkhiflnhdaaDoor
