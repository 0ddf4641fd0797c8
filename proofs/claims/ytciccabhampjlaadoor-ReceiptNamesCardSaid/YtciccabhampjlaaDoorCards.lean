/-
  DERIVED. GIVEN WITH THE SEED: THE CARDS: each row of YtciccabhampjlaaDoorRows.lean that lists a variable, with what it lists TIED to the program's text (the seventh form; the later family's looks); each row that meets fmt, with fmt's text TOLD by the authors' own Lean function (tested against real Go, not proved from fmt's source: count such statements apart). THE CARD IS WHAT COUNTS. Prove the row's statement (the work); the ties are given (YtciccabhampjlaaDoorTie.lean); close each card by the builder's one call (the guide's Derived/Test/ToyasCard.lean, 'card_holds'). Laid BY PROGRAM, IN A SANDBOX (cutbox-door.mjs). By AI agents, Wed Nov 11 2026. No macro, syntax, notation, axiom, sorry.
-/
import Derived.Test.YtciccabhampjlaaDoorRows
import GoSem.ClaimSeven
namespace Go.Proofs.YtciccabhampjlaaDoor
namespace Rows

/-- THE TIED CARD OF 'beadrolllaw12.ReceiptNames'. -/
def receiptNamesCard : Claim7 := { stood := { row := receiptNamesRow, standIns := [], harness := (true, "2b29a6a0b7acbf38b1303a136135efba7154023237926b2ce991369029433cc0"), looks := false }, kinds := [], alts := [], laidByText := true, laidKinds := [.data], laidTests := true, laidLooks := .later }
def ReceiptNamesCardSaid : Prop := Claim7.holds Tryd.pinned (.plain (OpenSpec.ofChange receiptNamesSpec)) receiptNamesCard

/-- THE TIED CARD OF 'beadrolllaw12.ReceiptTells'. -/
def receiptTellsCard : Claim7 := { stood := { row := receiptTellsRow, standIns := [], harness := (true, "2b29a6a0b7acbf38b1303a136135efba7154023237926b2ce991369029433cc0"), looks := false }, kinds := [], alts := [], laidByText := true, laidKinds := [.data], laidTests := true, laidLooks := .later }
def ReceiptTellsCardSaid : Prop := Claim7.holds Tryd.pinned (.plain (OpenSpec.ofChange receiptTellsSpec)) receiptTellsCard

/-- THE SECOND FORM's CARD OF 'beadrolllaw12.ReceiptNames'. -/
def receiptNamesUptoCard : Claim7 := { stood := { row := receiptNamesUptoRow, standIns := [], harness := (true, "2b29a6a0b7acbf38b1303a136135efba7154023237926b2ce991369029433cc0"), looks := false }, kinds := [], alts := [], laidByText := true, laidKinds := [.data], laidTests := true, laidLooks := .later }
def ReceiptNamesUptoCardSaid : Prop := Claim7.holds Tryd.pinned (.plain (OpenSpec.upto receiptNamesSpec)) receiptNamesUptoCard

/-- THE SECOND FORM's CARD OF 'beadrolllaw12.ReceiptTells'. -/
def receiptTellsUptoCard : Claim7 := { stood := { row := receiptTellsUptoRow, standIns := [], harness := (true, "2b29a6a0b7acbf38b1303a136135efba7154023237926b2ce991369029433cc0"), looks := false }, kinds := [], alts := [], laidByText := true, laidKinds := [.data], laidTests := true, laidLooks := .later }
def ReceiptTellsUptoCardSaid : Prop := Claim7.holds Tryd.pinned (.plain (OpenSpec.upto receiptTellsSpec)) receiptTellsUptoCard
end Rows
end Go.Proofs.YtciccabhampjlaaDoor
