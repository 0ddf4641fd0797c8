/-
  DERIVED. GIVEN WITH THE SEED: THE CARDS: each row of YtmjocmogfckmmaaGreatDoorRows.lean that lists a variable, with what it lists TIED to the program's text (the seventh form; the later family's looks); each row that meets fmt, with fmt's text TOLD by the authors' own Lean function (tested against real Go, not proved from fmt's source: count such statements apart). THE CARD IS WHAT COUNTS. Prove the row's statement (the work); the ties are given (YtmjocmogfckmmaaGreatDoorTie.lean); close each card by the builder's one call (the guide's Derived/Test/ToyasCard.lean, 'card_holds'). Laid BY PROGRAM, IN A SANDBOX (cutbox-door.mjs). By AI agents, Wed Nov 11 2026. No macro, syntax, notation, axiom, sorry.
-/
import Derived.Test.YtmjocmogfckmmaaGreatDoorRows
import GoSem.ClaimSeven
namespace Go.Proofs.YtmjocmogfckmmaaGreatDoor
namespace Rows

/-- THE TIED CARD OF 'beadrolllaw15.PursePays'. -/
def pursePaysCard : Claim7 := { stood := { row := pursePaysRow, standIns := [], harness := (true, "38d1850a10fd1dd43430c7643fe9414f8e0f776628e4139ace65c8b31f8a1561"), looks := false }, kinds := [], alts := [], laidByText := true, laidKinds := [.data], laidTests := true, laidLooks := .later }
def PursePaysCardSaid : Prop := Claim7.holds Tryz.pinned (.plain (OpenSpec.ofChange pursePaysSpec)) pursePaysCard

/-- THE SECOND FORM's CARD OF 'beadrolllaw15.PursePays'. -/
def pursePaysUptoCard : Claim7 := { stood := { row := pursePaysUptoRow, standIns := [], harness := (true, "38d1850a10fd1dd43430c7643fe9414f8e0f776628e4139ace65c8b31f8a1561"), looks := false }, kinds := [], alts := [], laidByText := true, laidKinds := [.data], laidTests := true, laidLooks := .later }
def PursePaysUptoCardSaid : Prop := Claim7.holds Tryz.pinned (.plain (OpenSpec.upto pursePaysSpec)) pursePaysUptoCard
end Rows
end Go.Proofs.YtmjocmogfckmmaaGreatDoor
