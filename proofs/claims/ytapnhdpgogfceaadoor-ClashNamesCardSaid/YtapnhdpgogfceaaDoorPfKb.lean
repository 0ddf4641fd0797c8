/-
  A proof as a literal that names its key alone.
-/
import Derived.Test.YtapnhdpgogfceaaDoorPfM
namespace Go.Proofs.YtapnhdpgogfceaaDoor
open Go.RowKit
set_option linter.unusedVariables false
set_option linter.unusedSimpArgs false
set_option maxRecDepth 100000

theorem built_pfK (k : Dg) : Tryd.prog.built 30 [(0, .agg (k.1.map bv).toArray)] = some (pfC ⟨k, 0, z0, [], []⟩ none 0 none 0).toArray := by
  have hk : (k.1.map bv).length = 32 := by rw [List.length_map]; exact k.2
  have hz : (z0.1.map bv).length = 32 := by rw [List.length_map]; exact z0.2
  have c1 : (Value.agg (k.1.map bv).toArray).cells = (k.1.map bv).toArray := rfl
  rw [built_places placesPf, fill_cons (off := 0) (by rw [c1, List.size_toArray, hk]; rfl) (by rw [c1, List.size_toArray, hk]; decide +kernel)]
  have e0 : lay zPf.cells.toList 0 (Value.agg (k.1.map bv).toArray).cells.toList = pfC ⟨k, 0, z0, [], []⟩ none 0 none 0 := by
    rw [zPf_list, c1]
    exact (lay_mid [] (z0.1.map bv) _ (k.1.map bv) (by rw [hk, hz])).trans (by simp [pfC, bv])
  rw [e0, Instr.fill]
end Go.Proofs.YtapnhdpgogfceaaDoor
