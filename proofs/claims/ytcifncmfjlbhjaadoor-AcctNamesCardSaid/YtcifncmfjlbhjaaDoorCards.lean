/-
  DERIVED. GIVEN WITH THE SEED: THE CARDS: each row of YtcifncmfjlbhjaaDoorRows.lean that lists a variable, with what it lists TIED to the program's text (the seventh form; the later family's looks); each row that meets fmt, with fmt's text TOLD by the authors' own Lean function (tested against real Go, not proved from fmt's source: count such statements apart). THE CARD IS WHAT COUNTS. Prove the row's statement (the work); the ties are given (YtcifncmfjlbhjaaDoorTie.lean); close each card by the builder's one call (the guide's Derived/Test/ToyasCard.lean, 'card_holds'). Laid BY PROGRAM, IN A SANDBOX (cutbox-door.mjs). By AI agents, Wed Nov 11 2026. No macro, syntax, notation, axiom, sorry.
-/
import Derived.Test.YtcifncmfjlbhjaaDoorRows
import GoSem.ClaimSeven
namespace Go.Proofs.YtcifncmfjlbhjaaDoor
namespace Rows

/-- THE TIED CARD OF 'beadrolllaw10.AcctNames'. -/
def acctNamesCard : Claim7 := { stood := { row := acctNamesRow, standIns := [], harness := (true, "d7e7fc8893832b38c882a7a3739fb1a63a74892255b5a0f83d19145cf3fbb9bf"), looks := false }, kinds := [], alts := [], laidByText := true, laidKinds := [.data], laidTests := true, laidLooks := .later }
def AcctNamesCardSaid : Prop := Claim7.holds Tryd.pinned (.plain (OpenSpec.ofChange acctNamesSpec)) acctNamesCard

/-- THE TIED CARD OF 'beadrolllaw10.AcctTells'. -/
def acctTellsCard : Claim7 := { stood := { row := acctTellsRow, standIns := [], harness := (true, "d7e7fc8893832b38c882a7a3739fb1a63a74892255b5a0f83d19145cf3fbb9bf"), looks := false }, kinds := [], alts := [], laidByText := true, laidKinds := [.data], laidTests := true, laidLooks := .later }
def AcctTellsCardSaid : Prop := Claim7.holds Tryd.pinned (.plain (OpenSpec.ofChange acctTellsSpec)) acctTellsCard

/-- THE SECOND FORM's CARD OF 'beadrolllaw10.AcctNames'. -/
def acctNamesUptoCard : Claim7 := { stood := { row := acctNamesUptoRow, standIns := [], harness := (true, "d7e7fc8893832b38c882a7a3739fb1a63a74892255b5a0f83d19145cf3fbb9bf"), looks := false }, kinds := [], alts := [], laidByText := true, laidKinds := [.data], laidTests := true, laidLooks := .later }
def AcctNamesUptoCardSaid : Prop := Claim7.holds Tryd.pinned (.plain (OpenSpec.upto acctNamesSpec)) acctNamesUptoCard

/-- THE SECOND FORM's CARD OF 'beadrolllaw10.AcctTells'. -/
def acctTellsUptoCard : Claim7 := { stood := { row := acctTellsUptoRow, standIns := [], harness := (true, "d7e7fc8893832b38c882a7a3739fb1a63a74892255b5a0f83d19145cf3fbb9bf"), looks := false }, kinds := [], alts := [], laidByText := true, laidKinds := [.data], laidTests := true, laidLooks := .later }
def AcctTellsUptoCardSaid : Prop := Claim7.holds Tryd.pinned (.plain (OpenSpec.upto acctTellsSpec)) acctTellsUptoCard
end Rows
end Go.Proofs.YtcifncmfjlbhjaaDoor
