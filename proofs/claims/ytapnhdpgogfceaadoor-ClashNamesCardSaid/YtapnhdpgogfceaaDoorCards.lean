/-
  DERIVED. GIVEN WITH THE SEED: THE CARDS: each row of YtapnhdpgogfceaaDoorRows.lean that lists a variable, with what it lists TIED to the program's text (the seventh form; the later family's looks); each row that meets fmt, with fmt's text TOLD by the authors' own Lean function (tested against real Go, not proved from fmt's source: count such statements apart). THE CARD IS WHAT COUNTS. Prove the row's statement (the work); the ties are given (YtapnhdpgogfceaaDoorTie.lean); close each card by the builder's one call (the guide's Derived/Test/ToyasCard.lean, 'card_holds'). Laid BY PROGRAM, IN A SANDBOX (cutbox-door.mjs). By AI agents, Wed Nov 11 2026. No macro, syntax, notation, axiom, sorry.
-/
import Derived.Test.YtapnhdpgogfceaaDoorRows
import GoSem.ClaimSeven
namespace Go.Proofs.YtapnhdpgogfceaaDoor
namespace Rows

/-- THE TIED CARD OF 'beadrolllaw09.ClashNames'. -/
def clashNamesCard : Claim7 := { stood := { row := clashNamesRow, standIns := [], harness := (true, "df5d41f7b0a93d6f79ae536075a1dae5eef7e5cb0759c7831351bbbed1beb019"), looks := false }, kinds := [], alts := [], laidByText := true, laidKinds := [.data], laidTests := true, laidLooks := .later }
def ClashNamesCardSaid : Prop := Claim7.holds Tryd.pinned (.plain (OpenSpec.ofChange clashNamesSpec)) clashNamesCard

/-- THE TIED CARD OF 'beadrolllaw09.ClashSeeks'. -/
def clashSeeksCard : Claim7 := { stood := { row := clashSeeksRow, standIns := [], harness := (true, "df5d41f7b0a93d6f79ae536075a1dae5eef7e5cb0759c7831351bbbed1beb019"), looks := false }, kinds := [], alts := [], laidByText := true, laidKinds := [.data], laidTests := true, laidLooks := .later }
def ClashSeeksCardSaid : Prop := Claim7.holds Tryd.pinned (.plain (OpenSpec.ofChange clashSeeksSpec)) clashSeeksCard

/-- THE TIED CARD OF 'beadrolllaw09.ClashShows'. -/
def clashShowsCard : Claim7 := { stood := { row := clashShowsRow, standIns := [], harness := (true, "df5d41f7b0a93d6f79ae536075a1dae5eef7e5cb0759c7831351bbbed1beb019"), looks := false }, kinds := [], alts := [], laidByText := true, laidKinds := [.data], laidTests := true, laidLooks := .later }
def ClashShowsCardSaid : Prop := Claim7.holds Tryd.pinned (.plain (OpenSpec.ofChange clashShowsSpec)) clashShowsCard

/-- THE SECOND FORM's CARD OF 'beadrolllaw09.ClashNames'. -/
def clashNamesUptoCard : Claim7 := { stood := { row := clashNamesUptoRow, standIns := [], harness := (true, "df5d41f7b0a93d6f79ae536075a1dae5eef7e5cb0759c7831351bbbed1beb019"), looks := false }, kinds := [], alts := [], laidByText := true, laidKinds := [.data], laidTests := true, laidLooks := .later }
def ClashNamesUptoCardSaid : Prop := Claim7.holds Tryd.pinned (.plain (OpenSpec.upto clashNamesSpec)) clashNamesUptoCard

/-- THE SECOND FORM's CARD OF 'beadrolllaw09.ClashSeeks'. -/
def clashSeeksUptoCard : Claim7 := { stood := { row := clashSeeksUptoRow, standIns := [], harness := (true, "df5d41f7b0a93d6f79ae536075a1dae5eef7e5cb0759c7831351bbbed1beb019"), looks := false }, kinds := [], alts := [], laidByText := true, laidKinds := [.data], laidTests := true, laidLooks := .later }
def ClashSeeksUptoCardSaid : Prop := Claim7.holds Tryd.pinned (.plain (OpenSpec.upto clashSeeksSpec)) clashSeeksUptoCard

/-- THE SECOND FORM's CARD OF 'beadrolllaw09.ClashShows'. -/
def clashShowsUptoCard : Claim7 := { stood := { row := clashShowsUptoRow, standIns := [], harness := (true, "df5d41f7b0a93d6f79ae536075a1dae5eef7e5cb0759c7831351bbbed1beb019"), looks := false }, kinds := [], alts := [], laidByText := true, laidKinds := [.data], laidTests := true, laidLooks := .later }
def ClashShowsUptoCardSaid : Prop := Claim7.holds Tryd.pinned (.plain (OpenSpec.upto clashShowsSpec)) clashShowsUptoCard
end Rows
end Go.Proofs.YtapnhdpgogfceaaDoor
