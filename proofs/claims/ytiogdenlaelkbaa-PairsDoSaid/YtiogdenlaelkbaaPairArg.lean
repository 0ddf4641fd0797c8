/-
  Pairs among a law's arguments.
-/
import Derived.Test.YtiogdenlaelkbaaOpens
import Derived.Test.YtiogdenlaelkbaaDigArg
namespace Go.Proofs.Ytiogdenlaelkbaa
open Go.RowKit
set_option linter.unusedVariables false

theorem opensByte : Opens Try.prog 5 UInt8 := Opens.u8 Try.underlying5 (by kernel_rfl)
theorem opensDg : Opens Try.prog 24 Dg := Opens.dg Try.underlying24 Try.underlying5 (by kernel_rfl) (by kernel_rfl)
theorem opensBytes : Opens Try.prog 25 (List UInt8) := Opens.slice Try.underlying25 (by kernel_rfl) opensByte
theorem opensPr : Opens Try.prog 46 Pr :=
  Opens.by_ (fun p : Pr => (p.k, p.v)) (fun b => ⟨b.1, b.2⟩) (fun b => rfl) (Opens.struct2 Try.underlying46 (by kernel_rfl) rfl rfl opensDg opensBytes)
theorem opensPrs : Opens Try.prog 22 (List Pr) := Opens.slice Try.underlying22 (by kernel_rfl) opensPr
end Go.Proofs.Ytiogdenlaelkbaa
