/-
  DERIVED. GIVEN WITH THE SEED: THE CARDS: each row of YtimaoonpgilekaaDoorRows.lean that lists a variable, with what it lists TIED to the program's text (the seventh form; the later family's looks); each row that meets fmt, with fmt's text TOLD by the authors' own Lean function (tested against real Go, not proved from fmt's source: count such statements apart). THE CARD IS WHAT COUNTS. Prove the row's statement (the work); the ties are given (YtimaoonpgilekaaDoorTie.lean); close each card by the builder's one call (the guide's Derived/Test/ToyasCard.lean, 'card_holds'). Laid BY PROGRAM, IN A SANDBOX (cutbox-door.mjs). By AI agents, Wed Nov 11 2026. No macro, syntax, notation, axiom, sorry.
-/
import Derived.Test.YtimaoonpgilekaaDoorRows
import GoSem.ClaimSeven
namespace Go.Proofs.YtimaoonpgilekaaDoor
namespace Rows

/-- THE TIED CARD OF 'beadrolllaw19.QueueNames'. -/
def queueNamesCard : Claim7 := { stood := { row := queueNamesRow, standIns := [], harness := (true, "29dca0250982fb1937597ace253da6ae8cdbd12dbf44e47e61d2eb397e705c4f"), looks := false }, kinds := [], alts := [], laidByText := true, laidKinds := [.data], laidTests := true, laidLooks := .later }
def QueueNamesCardSaid : Prop := Claim7.holds Tryd.pinned (.plain (OpenSpec.ofChange queueNamesSpec)) queueNamesCard

/-- THE TIED CARD OF 'beadrolllaw19.QueueDoes'. -/
def queueDoesCard : Claim7 := { stood := { row := queueDoesRow, standIns := [], harness := (true, "29dca0250982fb1937597ace253da6ae8cdbd12dbf44e47e61d2eb397e705c4f"), looks := false }, kinds := [], alts := [], laidByText := true, laidKinds := [.data], laidTests := true, laidLooks := .later }
def QueueDoesCardSaid : Prop := Claim7.holds Tryd.pinned (.plain (OpenSpec.ofChange queueDoesSpec)) queueDoesCard

/-- THE TIED CARD OF 'beadrolllaw19.QueueBest'. -/
def queueBestCard : Claim7 := { stood := { row := queueBestRow, standIns := [], harness := (true, "29dca0250982fb1937597ace253da6ae8cdbd12dbf44e47e61d2eb397e705c4f"), looks := false }, kinds := [], alts := [], laidByText := true, laidKinds := [.data], laidTests := true, laidLooks := .later }
def QueueBestCardSaid : Prop := Claim7.holds Tryd.pinned (.plain (OpenSpec.ofChange queueBestSpec)) queueBestCard

/-- THE TIED CARD OF 'beadrolllaw19.QueueRuns'. -/
def queueRunsCard : Claim7 := { stood := { row := queueRunsRow, standIns := [], harness := (true, "29dca0250982fb1937597ace253da6ae8cdbd12dbf44e47e61d2eb397e705c4f"), looks := false }, kinds := [], alts := [], laidByText := true, laidKinds := [.data], laidTests := true, laidLooks := .later }
def QueueRunsCardSaid : Prop := Claim7.holds Tryd.pinned (.plain (OpenSpec.ofChange queueRunsSpec)) queueRunsCard

/-- THE SECOND FORM's CARD OF 'beadrolllaw19.QueueNames'. -/
def queueNamesUptoCard : Claim7 := { stood := { row := queueNamesUptoRow, standIns := [], harness := (true, "29dca0250982fb1937597ace253da6ae8cdbd12dbf44e47e61d2eb397e705c4f"), looks := false }, kinds := [], alts := [], laidByText := true, laidKinds := [.data], laidTests := true, laidLooks := .later }
def QueueNamesUptoCardSaid : Prop := Claim7.holds Tryd.pinned (.plain (OpenSpec.upto queueNamesSpec)) queueNamesUptoCard

/-- THE SECOND FORM's CARD OF 'beadrolllaw19.QueueDoes'. -/
def queueDoesUptoCard : Claim7 := { stood := { row := queueDoesUptoRow, standIns := [], harness := (true, "29dca0250982fb1937597ace253da6ae8cdbd12dbf44e47e61d2eb397e705c4f"), looks := false }, kinds := [], alts := [], laidByText := true, laidKinds := [.data], laidTests := true, laidLooks := .later }
def QueueDoesUptoCardSaid : Prop := Claim7.holds Tryd.pinned (.plain (OpenSpec.upto queueDoesSpec)) queueDoesUptoCard

/-- THE SECOND FORM's CARD OF 'beadrolllaw19.QueueBest'. -/
def queueBestUptoCard : Claim7 := { stood := { row := queueBestUptoRow, standIns := [], harness := (true, "29dca0250982fb1937597ace253da6ae8cdbd12dbf44e47e61d2eb397e705c4f"), looks := false }, kinds := [], alts := [], laidByText := true, laidKinds := [.data], laidTests := true, laidLooks := .later }
def QueueBestUptoCardSaid : Prop := Claim7.holds Tryd.pinned (.plain (OpenSpec.upto queueBestSpec)) queueBestUptoCard

/-- THE SECOND FORM's CARD OF 'beadrolllaw19.QueueRuns'. -/
def queueRunsUptoCard : Claim7 := { stood := { row := queueRunsUptoRow, standIns := [], harness := (true, "29dca0250982fb1937597ace253da6ae8cdbd12dbf44e47e61d2eb397e705c4f"), looks := false }, kinds := [], alts := [], laidByText := true, laidKinds := [.data], laidTests := true, laidLooks := .later }
def QueueRunsUptoCardSaid : Prop := Claim7.holds Tryd.pinned (.plain (OpenSpec.upto queueRunsSpec)) queueRunsUptoCard
end Rows
end Go.Proofs.YtimaoonpgilekaaDoor
