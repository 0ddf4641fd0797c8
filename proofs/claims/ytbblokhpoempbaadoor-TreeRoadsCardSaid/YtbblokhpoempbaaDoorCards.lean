/-
  DERIVED. GIVEN WITH THE SEED: THE CARDS: each row of YtbblokhpoempbaaDoorRows.lean that lists a variable, with what it lists TIED to the program's text (the seventh form; the later family's looks); each row that meets fmt, with fmt's text TOLD by the authors' own Lean function (tested against real Go, not proved from fmt's source: count such statements apart). THE CARD IS WHAT COUNTS. Prove the row's statement (the work); the ties are given (YtbblokhpoempbaaDoorTie.lean); close each card by the builder's one call (the guide's Derived/Test/ToyasCard.lean, 'card_holds'). Laid BY PROGRAM, IN A SANDBOX (cutbox-door.mjs). By AI agents, Wed Nov 11 2026. No macro, syntax, notation, axiom, sorry.
-/
import Derived.Test.YtbblokhpoempbaaDoorRows
import GoSem.ClaimSeven
namespace Go.Proofs.YtbblokhpoempbaaDoor
namespace Rows

/-- THE TIED CARD OF 'beadrolllaw05.PairsNames'. -/
def pairsNamesCard : Claim7 := { stood := { row := pairsNamesRow, standIns := [], harness := (true, "87d5b85a362979bdea0a88d4225bc0649cb780572d21452aab435718ed9a1df7"), looks := false }, kinds := [], alts := [], laidByText := true, laidKinds := [.data], laidTests := true, laidLooks := .later }
def PairsNamesCardSaid : Prop := Claim7.holds Tryd.pinned (.plain (OpenSpec.ofChange pairsNamesSpec)) pairsNamesCard

/-- THE TIED CARD OF 'beadrolllaw05.PairsRoot'. -/
def pairsRootCard : Claim7 := { stood := { row := pairsRootRow, standIns := [], harness := (true, "87d5b85a362979bdea0a88d4225bc0649cb780572d21452aab435718ed9a1df7"), looks := false }, kinds := [], alts := [], laidByText := true, laidKinds := [.data], laidTests := true, laidLooks := .later }
def PairsRootCardSaid : Prop := Claim7.holds Tryd.pinned (.plain (OpenSpec.ofChange pairsRootSpec)) pairsRootCard

/-- THE TIED CARD OF 'beadrolllaw05.PairsWays'. -/
def pairsWaysCard : Claim7 := { stood := { row := pairsWaysRow, standIns := [], harness := (true, "87d5b85a362979bdea0a88d4225bc0649cb780572d21452aab435718ed9a1df7"), looks := false }, kinds := [], alts := [], laidByText := true, laidKinds := [.data], laidTests := true, laidLooks := .later }
def PairsWaysCardSaid : Prop := Claim7.holds Tryd.pinned (.plain (OpenSpec.ofChange pairsWaysSpec)) pairsWaysCard

/-- THE TIED CARD OF 'beadrolllaw06.TreeNames'. -/
def treeNamesCard : Claim7 := { stood := { row := treeNamesRow, standIns := [], harness := (true, "87d5b85a362979bdea0a88d4225bc0649cb780572d21452aab435718ed9a1df7"), looks := false }, kinds := [], alts := [], laidByText := true, laidKinds := [.data], laidTests := true, laidLooks := .later }
def TreeNamesCardSaid : Prop := Claim7.holds Tryd.pinned (.plain (OpenSpec.ofChange treeNamesSpec)) treeNamesCard

/-- THE TIED CARD OF 'beadrolllaw06.TreeTells'. -/
def treeTellsCard : Claim7 := { stood := { row := treeTellsRow, standIns := [], harness := (true, "87d5b85a362979bdea0a88d4225bc0649cb780572d21452aab435718ed9a1df7"), looks := false }, kinds := [], alts := [], laidByText := true, laidKinds := [.data], laidTests := true, laidLooks := .later }
def TreeTellsCardSaid : Prop := Claim7.holds Tryd.pinned (.plain (OpenSpec.ofChange treeTellsSpec)) treeTellsCard

/-- THE TIED CARD OF 'beadrolllaw06.TreeStays'. -/
def treeStaysCard : Claim7 := { stood := { row := treeStaysRow, standIns := [], harness := (true, "87d5b85a362979bdea0a88d4225bc0649cb780572d21452aab435718ed9a1df7"), looks := false }, kinds := [], alts := [], laidByText := true, laidKinds := [.data], laidTests := true, laidLooks := .later }
def TreeStaysCardSaid : Prop := Claim7.holds Tryd.pinned (.plain (OpenSpec.ofChange treeStaysSpec)) treeStaysCard

/-- THE TIED CARD OF 'beadrolllaw06.TreeMaps'. -/
def treeMapsCard : Claim7 := { stood := { row := treeMapsRow, standIns := [], harness := (true, "87d5b85a362979bdea0a88d4225bc0649cb780572d21452aab435718ed9a1df7"), looks := false }, kinds := [], alts := [], laidByText := true, laidKinds := [.data], laidTests := true, laidLooks := .later }
def TreeMapsCardSaid : Prop := Claim7.holds Tryd.pinned (.plain (OpenSpec.ofChange treeMapsSpec)) treeMapsCard

/-- THE TIED CARD OF 'beadrolllaw06.TreeRoads'. -/
def treeRoadsCard : Claim7 := { stood := { row := treeRoadsRow, standIns := [], harness := (true, "87d5b85a362979bdea0a88d4225bc0649cb780572d21452aab435718ed9a1df7"), looks := false }, kinds := [], alts := [], laidByText := true, laidKinds := [.data], laidTests := true, laidLooks := .later }
def TreeRoadsCardSaid : Prop := Claim7.holds Tryd.pinned (.plain (OpenSpec.ofChange treeRoadsSpec)) treeRoadsCard

/-- THE SECOND FORM's CARD OF 'beadrolllaw05.PairsNames'. -/
def pairsNamesUptoCard : Claim7 := { stood := { row := pairsNamesUptoRow, standIns := [], harness := (true, "87d5b85a362979bdea0a88d4225bc0649cb780572d21452aab435718ed9a1df7"), looks := false }, kinds := [], alts := [], laidByText := true, laidKinds := [.data], laidTests := true, laidLooks := .later }
def PairsNamesUptoCardSaid : Prop := Claim7.holds Tryd.pinned (.plain (OpenSpec.upto pairsNamesSpec)) pairsNamesUptoCard

/-- THE SECOND FORM's CARD OF 'beadrolllaw05.PairsRoot'. -/
def pairsRootUptoCard : Claim7 := { stood := { row := pairsRootUptoRow, standIns := [], harness := (true, "87d5b85a362979bdea0a88d4225bc0649cb780572d21452aab435718ed9a1df7"), looks := false }, kinds := [], alts := [], laidByText := true, laidKinds := [.data], laidTests := true, laidLooks := .later }
def PairsRootUptoCardSaid : Prop := Claim7.holds Tryd.pinned (.plain (OpenSpec.upto pairsRootSpec)) pairsRootUptoCard

/-- THE SECOND FORM's CARD OF 'beadrolllaw05.PairsWays'. -/
def pairsWaysUptoCard : Claim7 := { stood := { row := pairsWaysUptoRow, standIns := [], harness := (true, "87d5b85a362979bdea0a88d4225bc0649cb780572d21452aab435718ed9a1df7"), looks := false }, kinds := [], alts := [], laidByText := true, laidKinds := [.data], laidTests := true, laidLooks := .later }
def PairsWaysUptoCardSaid : Prop := Claim7.holds Tryd.pinned (.plain (OpenSpec.upto pairsWaysSpec)) pairsWaysUptoCard

/-- THE SECOND FORM's CARD OF 'beadrolllaw06.TreeNames'. -/
def treeNamesUptoCard : Claim7 := { stood := { row := treeNamesUptoRow, standIns := [], harness := (true, "87d5b85a362979bdea0a88d4225bc0649cb780572d21452aab435718ed9a1df7"), looks := false }, kinds := [], alts := [], laidByText := true, laidKinds := [.data], laidTests := true, laidLooks := .later }
def TreeNamesUptoCardSaid : Prop := Claim7.holds Tryd.pinned (.plain (OpenSpec.upto treeNamesSpec)) treeNamesUptoCard

/-- THE SECOND FORM's CARD OF 'beadrolllaw06.TreeTells'. -/
def treeTellsUptoCard : Claim7 := { stood := { row := treeTellsUptoRow, standIns := [], harness := (true, "87d5b85a362979bdea0a88d4225bc0649cb780572d21452aab435718ed9a1df7"), looks := false }, kinds := [], alts := [], laidByText := true, laidKinds := [.data], laidTests := true, laidLooks := .later }
def TreeTellsUptoCardSaid : Prop := Claim7.holds Tryd.pinned (.plain (OpenSpec.upto treeTellsSpec)) treeTellsUptoCard

/-- THE SECOND FORM's CARD OF 'beadrolllaw06.TreeStays'. -/
def treeStaysUptoCard : Claim7 := { stood := { row := treeStaysUptoRow, standIns := [], harness := (true, "87d5b85a362979bdea0a88d4225bc0649cb780572d21452aab435718ed9a1df7"), looks := false }, kinds := [], alts := [], laidByText := true, laidKinds := [.data], laidTests := true, laidLooks := .later }
def TreeStaysUptoCardSaid : Prop := Claim7.holds Tryd.pinned (.plain (OpenSpec.upto treeStaysSpec)) treeStaysUptoCard

/-- THE SECOND FORM's CARD OF 'beadrolllaw06.TreeMaps'. -/
def treeMapsUptoCard : Claim7 := { stood := { row := treeMapsUptoRow, standIns := [], harness := (true, "87d5b85a362979bdea0a88d4225bc0649cb780572d21452aab435718ed9a1df7"), looks := false }, kinds := [], alts := [], laidByText := true, laidKinds := [.data], laidTests := true, laidLooks := .later }
def TreeMapsUptoCardSaid : Prop := Claim7.holds Tryd.pinned (.plain (OpenSpec.upto treeMapsSpec)) treeMapsUptoCard

/-- THE SECOND FORM's CARD OF 'beadrolllaw06.TreeRoads'. -/
def treeRoadsUptoCard : Claim7 := { stood := { row := treeRoadsUptoRow, standIns := [], harness := (true, "87d5b85a362979bdea0a88d4225bc0649cb780572d21452aab435718ed9a1df7"), looks := false }, kinds := [], alts := [], laidByText := true, laidKinds := [.data], laidTests := true, laidLooks := .later }
def TreeRoadsUptoCardSaid : Prop := Claim7.holds Tryd.pinned (.plain (OpenSpec.upto treeRoadsSpec)) treeRoadsUptoCard
end Rows
end Go.Proofs.YtbblokhpoempbaaDoor
