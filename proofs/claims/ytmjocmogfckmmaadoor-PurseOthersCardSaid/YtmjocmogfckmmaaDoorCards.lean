/-
  DERIVED. GIVEN WITH THE SEED: THE CARDS: each row of YtmjocmogfckmmaaDoorRows.lean that lists a variable, with what it lists TIED to the program's text (the seventh form; the later family's looks); each row that meets fmt, with fmt's text TOLD by the authors' own Lean function (tested against real Go, not proved from fmt's source: count such statements apart). THE CARD IS WHAT COUNTS. Prove the row's statement (the work); the ties are given (YtmjocmogfckmmaaDoorTie.lean); close each card by the builder's one call (the guide's Derived/Test/ToyasCard.lean, 'card_holds'). Laid BY PROGRAM, IN A SANDBOX (cutbox-door.mjs). By AI agents, Wed Nov 11 2026. No macro, syntax, notation, axiom, sorry.
-/
import Derived.Test.YtmjocmogfckmmaaDoorRows
import GoSem.ClaimSeven
namespace Go.Proofs.YtmjocmogfckmmaaDoor
namespace Rows

/-- THE TIED CARD OF 'beadrolllaw15.PurseNames'. -/
def purseNamesCard : Claim7 := { stood := { row := purseNamesRow, standIns := [], harness := (true, "bbe7c1768ed09b8788dc115ad2ab7f967cce7e52ce8e0d0cd4f827cc28644e06"), looks := false }, kinds := [], alts := [], laidByText := true, laidKinds := [.data], laidTests := true, laidLooks := .later }
def PurseNamesCardSaid : Prop := Claim7.holds Tryd.pinned (.plain (OpenSpec.ofChange purseNamesSpec)) purseNamesCard

/-- THE TIED CARD OF 'beadrolllaw15.PurseKeeps'. -/
def purseKeepsCard : Claim7 := { stood := { row := purseKeepsRow, standIns := [], harness := (true, "bbe7c1768ed09b8788dc115ad2ab7f967cce7e52ce8e0d0cd4f827cc28644e06"), looks := false }, kinds := [], alts := [], laidByText := true, laidKinds := [.data], laidTests := true, laidLooks := .later }
def PurseKeepsCardSaid : Prop := Claim7.holds Tryd.pinned (.plain (OpenSpec.ofChange purseKeepsSpec)) purseKeepsCard

/-- THE TIED CARD OF 'beadrolllaw15.PurseOthers'. -/
def purseOthersCard : Claim7 := { stood := { row := purseOthersRow, standIns := [], harness := (true, "bbe7c1768ed09b8788dc115ad2ab7f967cce7e52ce8e0d0cd4f827cc28644e06"), looks := false }, kinds := [], alts := [], laidByText := true, laidKinds := [.data], laidTests := true, laidLooks := .later }
def PurseOthersCardSaid : Prop := Claim7.holds Tryd.pinned (.plain (OpenSpec.ofChange purseOthersSpec)) purseOthersCard

/-- THE SECOND FORM's CARD OF 'beadrolllaw15.PurseNames'. -/
def purseNamesUptoCard : Claim7 := { stood := { row := purseNamesUptoRow, standIns := [], harness := (true, "bbe7c1768ed09b8788dc115ad2ab7f967cce7e52ce8e0d0cd4f827cc28644e06"), looks := false }, kinds := [], alts := [], laidByText := true, laidKinds := [.data], laidTests := true, laidLooks := .later }
def PurseNamesUptoCardSaid : Prop := Claim7.holds Tryd.pinned (.plain (OpenSpec.upto purseNamesSpec)) purseNamesUptoCard

/-- THE SECOND FORM's CARD OF 'beadrolllaw15.PurseKeeps'. -/
def purseKeepsUptoCard : Claim7 := { stood := { row := purseKeepsUptoRow, standIns := [], harness := (true, "bbe7c1768ed09b8788dc115ad2ab7f967cce7e52ce8e0d0cd4f827cc28644e06"), looks := false }, kinds := [], alts := [], laidByText := true, laidKinds := [.data], laidTests := true, laidLooks := .later }
def PurseKeepsUptoCardSaid : Prop := Claim7.holds Tryd.pinned (.plain (OpenSpec.upto purseKeepsSpec)) purseKeepsUptoCard

/-- THE SECOND FORM's CARD OF 'beadrolllaw15.PurseOthers'. -/
def purseOthersUptoCard : Claim7 := { stood := { row := purseOthersUptoRow, standIns := [], harness := (true, "bbe7c1768ed09b8788dc115ad2ab7f967cce7e52ce8e0d0cd4f827cc28644e06"), looks := false }, kinds := [], alts := [], laidByText := true, laidKinds := [.data], laidTests := true, laidLooks := .later }
def PurseOthersUptoCardSaid : Prop := Claim7.holds Tryd.pinned (.plain (OpenSpec.upto purseOthersSpec)) purseOthersUptoCard
end Rows
end Go.Proofs.YtmjocmogfckmmaaDoor
