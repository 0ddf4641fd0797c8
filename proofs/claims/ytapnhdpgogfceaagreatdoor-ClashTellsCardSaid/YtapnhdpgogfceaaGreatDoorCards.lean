/-
  DERIVED. GIVEN WITH THE SEED: THE CARDS: each row of YtapnhdpgogfceaaGreatDoorRows.lean that lists a variable, with what it lists TIED to the program's text (the seventh form; the later family's looks); each row that meets fmt, with fmt's text TOLD by the authors' own Lean function (tested against real Go, not proved from fmt's source: count such statements apart). THE CARD IS WHAT COUNTS. Prove the row's statement (the work); the ties are given (YtapnhdpgogfceaaGreatDoorTie.lean); close each card by the builder's one call (the guide's Derived/Test/ToyasCard.lean, 'card_holds'). Laid BY PROGRAM, IN A SANDBOX (cutbox-door.mjs). By AI agents, Wed Nov 11 2026. No macro, syntax, notation, axiom, sorry.
-/
import Derived.Test.YtapnhdpgogfceaaGreatDoorRows
import GoSem.ClaimSeven
namespace Go.Proofs.YtapnhdpgogfceaaGreatDoor
namespace Rows

/-- THE TIED CARD OF 'beadrolllaw09.ClashTells'. -/
def clashTellsCard : Claim7 := { stood := { row := clashTellsRow, standIns := [], harness := (true, "08451c90d4516ca035e7236c18a360bc368a7e191193b178fc63cbcde4f18f5b"), looks := false }, kinds := [], alts := [], laidByText := true, laidKinds := [.data], laidTests := true, laidLooks := .later }
def ClashTellsCardSaid : Prop := Claim7.holds Tryz.pinned (.plain (OpenSpec.ofChange clashTellsSpec)) clashTellsCard

/-- THE SECOND FORM's CARD OF 'beadrolllaw09.ClashTells'. -/
def clashTellsUptoCard : Claim7 := { stood := { row := clashTellsUptoRow, standIns := [], harness := (true, "08451c90d4516ca035e7236c18a360bc368a7e191193b178fc63cbcde4f18f5b"), looks := false }, kinds := [], alts := [], laidByText := true, laidKinds := [.data], laidTests := true, laidLooks := .later }
def ClashTellsUptoCardSaid : Prop := Claim7.holds Tryz.pinned (.plain (OpenSpec.upto clashTellsSpec)) clashTellsUptoCard
end Rows
end Go.Proofs.YtapnhdpgogfceaaGreatDoor
