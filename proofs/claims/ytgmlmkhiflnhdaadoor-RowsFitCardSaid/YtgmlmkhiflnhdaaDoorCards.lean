/-
  DERIVED. GIVEN WITH THE SEED: THE CARDS: each row of YtgmlmkhiflnhdaaDoorRows.lean that lists a variable, with what it lists TIED to the program's text (the seventh form; the later family's looks); each row that meets fmt, with fmt's text TOLD by the authors' own Lean function (tested against real Go, not proved from fmt's source: count such statements apart). THE CARD IS WHAT COUNTS. Prove the row's statement (the work); the ties are given (YtgmlmkhiflnhdaaDoorTie.lean); close each card by the builder's one call (the guide's Derived/Test/ToyasCard.lean, 'card_holds'). Laid BY PROGRAM, IN A SANDBOX (cutbox-door.mjs). By AI agents, Wed Nov 11 2026. No macro, syntax, notation, axiom, sorry.
-/
import Derived.Test.YtgmlmkhiflnhdaaDoorRows
import GoSem.ClaimSeven
namespace Go.Proofs.YtgmlmkhiflnhdaaDoor
namespace Rows

/-- THE TIED CARD OF 'beadrolllaw13.RowsNames'. -/
def rowsNamesCard : Claim7 := { stood := { row := rowsNamesRow, standIns := [], harness := (true, "5449a3612823792cec5c19c597f8f630c99a3152c1e55370c0418d8fcca6dbb9"), looks := false }, kinds := [], alts := [], laidByText := true, laidKinds := [.data], laidTests := true, laidLooks := .later }
def RowsNamesCardSaid : Prop := Claim7.holds Tryd.pinned (.plain (OpenSpec.ofChange rowsNamesSpec)) rowsNamesCard

/-- THE TIED CARD OF 'beadrolllaw13.RowsTell'. -/
def rowsTellCard : Claim7 := { stood := { row := rowsTellRow, standIns := [], harness := (true, "5449a3612823792cec5c19c597f8f630c99a3152c1e55370c0418d8fcca6dbb9"), looks := false }, kinds := [], alts := [], laidByText := true, laidKinds := [.data], laidTests := true, laidLooks := .later }
def RowsTellCardSaid : Prop := Claim7.holds Tryd.pinned (.plain (OpenSpec.ofChange rowsTellSpec)) rowsTellCard

/-- THE TIED CARD OF 'beadrolllaw13.RowsFit'. -/
def rowsFitCard : Claim7 := { stood := { row := rowsFitRow, standIns := [], harness := (true, "5449a3612823792cec5c19c597f8f630c99a3152c1e55370c0418d8fcca6dbb9"), looks := false }, kinds := [], alts := [], laidByText := true, laidKinds := [.data], laidTests := true, laidLooks := .later }
def RowsFitCardSaid : Prop := Claim7.holds Tryd.pinned (.plain (OpenSpec.ofChange rowsFitSpec)) rowsFitCard

/-- THE TIED CARD OF 'beadrolllaw13.RowsTrue'. -/
def rowsTrueCard : Claim7 := { stood := { row := rowsTrueRow, standIns := [], harness := (true, "5449a3612823792cec5c19c597f8f630c99a3152c1e55370c0418d8fcca6dbb9"), looks := false }, kinds := [], alts := [], laidByText := true, laidKinds := [.data], laidTests := true, laidLooks := .later }
def RowsTrueCardSaid : Prop := Claim7.holds Tryd.pinned (.plain (OpenSpec.ofChange rowsTrueSpec)) rowsTrueCard

/-- THE TIED CARD OF 'beadrolllaw13.RowsJoin'. -/
def rowsJoinCard : Claim7 := { stood := { row := rowsJoinRow, standIns := [], harness := (true, "5449a3612823792cec5c19c597f8f630c99a3152c1e55370c0418d8fcca6dbb9"), looks := false }, kinds := [], alts := [], laidByText := true, laidKinds := [.data], laidTests := true, laidLooks := .later }
def RowsJoinCardSaid : Prop := Claim7.holds Tryd.pinned (.plain (OpenSpec.ofChange rowsJoinSpec)) rowsJoinCard

/-- THE SECOND FORM's CARD OF 'beadrolllaw13.RowsNames'. -/
def rowsNamesUptoCard : Claim7 := { stood := { row := rowsNamesUptoRow, standIns := [], harness := (true, "5449a3612823792cec5c19c597f8f630c99a3152c1e55370c0418d8fcca6dbb9"), looks := false }, kinds := [], alts := [], laidByText := true, laidKinds := [.data], laidTests := true, laidLooks := .later }
def RowsNamesUptoCardSaid : Prop := Claim7.holds Tryd.pinned (.plain (OpenSpec.upto rowsNamesSpec)) rowsNamesUptoCard

/-- THE SECOND FORM's CARD OF 'beadrolllaw13.RowsTell'. -/
def rowsTellUptoCard : Claim7 := { stood := { row := rowsTellUptoRow, standIns := [], harness := (true, "5449a3612823792cec5c19c597f8f630c99a3152c1e55370c0418d8fcca6dbb9"), looks := false }, kinds := [], alts := [], laidByText := true, laidKinds := [.data], laidTests := true, laidLooks := .later }
def RowsTellUptoCardSaid : Prop := Claim7.holds Tryd.pinned (.plain (OpenSpec.upto rowsTellSpec)) rowsTellUptoCard

/-- THE SECOND FORM's CARD OF 'beadrolllaw13.RowsFit'. -/
def rowsFitUptoCard : Claim7 := { stood := { row := rowsFitUptoRow, standIns := [], harness := (true, "5449a3612823792cec5c19c597f8f630c99a3152c1e55370c0418d8fcca6dbb9"), looks := false }, kinds := [], alts := [], laidByText := true, laidKinds := [.data], laidTests := true, laidLooks := .later }
def RowsFitUptoCardSaid : Prop := Claim7.holds Tryd.pinned (.plain (OpenSpec.upto rowsFitSpec)) rowsFitUptoCard

/-- THE SECOND FORM's CARD OF 'beadrolllaw13.RowsTrue'. -/
def rowsTrueUptoCard : Claim7 := { stood := { row := rowsTrueUptoRow, standIns := [], harness := (true, "5449a3612823792cec5c19c597f8f630c99a3152c1e55370c0418d8fcca6dbb9"), looks := false }, kinds := [], alts := [], laidByText := true, laidKinds := [.data], laidTests := true, laidLooks := .later }
def RowsTrueUptoCardSaid : Prop := Claim7.holds Tryd.pinned (.plain (OpenSpec.upto rowsTrueSpec)) rowsTrueUptoCard

/-- THE SECOND FORM's CARD OF 'beadrolllaw13.RowsJoin'. -/
def rowsJoinUptoCard : Claim7 := { stood := { row := rowsJoinUptoRow, standIns := [], harness := (true, "5449a3612823792cec5c19c597f8f630c99a3152c1e55370c0418d8fcca6dbb9"), looks := false }, kinds := [], alts := [], laidByText := true, laidKinds := [.data], laidTests := true, laidLooks := .later }
def RowsJoinUptoCardSaid : Prop := Claim7.holds Tryd.pinned (.plain (OpenSpec.upto rowsJoinSpec)) rowsJoinUptoCard
end Rows
end Go.Proofs.YtgmlmkhiflnhdaaDoor
