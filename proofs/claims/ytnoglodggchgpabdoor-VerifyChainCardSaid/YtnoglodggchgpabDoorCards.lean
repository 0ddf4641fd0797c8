/-
  DERIVED. GIVEN WITH THE SEED: THE CARDS: each row of YtnoglodggchgpabDoorRows.lean that lists a variable, with what it lists TIED to the program's text (the seventh form; the later family's looks); each row that meets fmt, with fmt's text TOLD by the authors' own Lean function (tested against real Go, not proved from fmt's source: count such statements apart). THE CARD IS WHAT COUNTS. Prove the row's statement (the work); the ties are given (YtnoglodggchgpabDoorTie.lean); close each card by the builder's one call (the guide's Derived/Test/ToyasCard.lean, 'card_holds'). Laid BY PROGRAM, IN A SANDBOX (cutbox-door.mjs). By AI agents, Wed Nov 11 2026. No macro, syntax, notation, axiom, sorry.
-/
import Derived.Test.YtnoglodggchgpabDoorRows
import GoSem.ClaimSeven
namespace Go.Proofs.YtnoglodggchgpabDoor
namespace Rows

/-- THE TIED CARD OF 'beadrolllaw08.VerifyChain'. -/
def verifyChainCard : Claim7 := { stood := { row := verifyChainRow, standIns := [], harness := (true, "b84eac38041351da1a1313571eb9f0c0bf6a1c7cefc0b8e5fdeca9bd2a81cfed"), looks := false }, kinds := [], alts := [], laidByText := true, laidKinds := [.data], laidTests := true, laidLooks := .later }
def VerifyChainCardSaid : Prop := Claim7.holds Tryd.pinned (.plain (OpenSpec.ofChange verifyChainSpec)) verifyChainCard

/-- THE SECOND FORM's CARD OF 'beadrolllaw08.VerifyChain'. -/
def verifyChainUptoCard : Claim7 := { stood := { row := verifyChainUptoRow, standIns := [], harness := (true, "b84eac38041351da1a1313571eb9f0c0bf6a1c7cefc0b8e5fdeca9bd2a81cfed"), looks := false }, kinds := [], alts := [], laidByText := true, laidKinds := [.data], laidTests := true, laidLooks := .later }
def VerifyChainUptoCardSaid : Prop := Claim7.holds Tryd.pinned (.plain (OpenSpec.upto verifyChainSpec)) verifyChainUptoCard
end Rows
end Go.Proofs.YtnoglodggchgpabDoor
