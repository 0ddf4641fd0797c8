/-
 The seat's listed variable k: what the rows' list gives; a world that meets it.
-/
import Derived.Test.YtmjocmogfckmmaaGreatDoorCards
import Derived.Test.YtmjocmogfckmmaaGreatDoorTie
import Derived.Test.YtmjocmogfckmmaaGreatDoorShaX
import Derived.Deep.DeepHandedRow
import Derived.Lib.LaidTab
namespace Go.Proofs.YtmjocmogfckmmaaGreatDoor
open Go.ChangeShapes Go.WideShapes Go.ChangeAt Go.RowKit

theorem gTab : Tryz.prog.globalNamed "beadroll/sha.k" = some 0 := by kernel_rfl
theorem gTabType : (Tryz.prog.globals[0]?).map (·.type) = some 162 := by kernel_rfl
theorem cellsTab : Tryz.prog.cellsOf 162 = 64 := by kernel_rfl
theorem cellsWord : Tryz.prog.cellsOf 131 = 1 := by kernel_rfl
def tabZ : List Int := Kw.map fun x => (x.toNat : Int)
theorem laid_tab : (Rows.laid_beadroll_sha_k : DataW Unit) = Lib.tabData .u32 tabZ := by kernel_rfl
theorem tab_of {W : World} (h : laidMet Tryz.prog [("beadroll/sha.k", Rows.laid_beadroll_sha_k)] W) : Tab W := by
 rw [laid_tab] at h
 have h1 := Lib.tabIs_of_head (rest := []) gTab gTabType Tryz.underlying162 Tryz.underlying131 cellsWord cellsTab h
 intro i hi
 have hl : i < tabZ.length := by rw [tabZ, List.length_map, Kw_len]; exact hi
 have h2 := h1.cell gTab i hl
 have e : tabZ.getD i 0 = ((Kw.getD i 0).toNat : Int) := by
  rw [List.getD_eq_getElem?_getD, tabZ, List.getElem?_map, List.getElem?_eq_getElem (by rw [Kw_len]; exact hi), get_getD _ _ (by rw [Kw_len]; exact hi)]
  rfl
 rw [e] at h2
 exact h2

/-- A world for the witnesses: the settled one, the table (its block) holding what its initialiser lays. -/
noncomputable def laidWorld (os : Os) : World :=
 { World.holding Tryz.prog os ⟨#[], #[], []⟩ with heap := (World.holding Tryz.prog os ⟨#[], #[], []⟩).heap.modify 0 fun
   | .cells _ t frozen => .cells (wvs Kw) t frozen
   | o => o }
end Go.Proofs.YtmjocmogfckmmaaGreatDoor
