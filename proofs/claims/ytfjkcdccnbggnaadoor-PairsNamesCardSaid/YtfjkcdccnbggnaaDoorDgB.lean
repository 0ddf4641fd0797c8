/-
  A digest stored in a new box.
-/
import Derived.Test.YtfjkcdccnbggnaaDoorPrR
namespace Go.Proofs.YtfjkcdccnbggnaaDoor
open Go.RowKit
set_option linter.unusedVariables false
theorem sizeDgB (k : Dg) : (Tryd.prog.info? 23).map (·.size) = some (k.1.map bv).toArray.size := by rw [List.size_toArray, List.length_map, k.2]; exact size32
theorem sizeDgR (k : Dg) : (Tryd.prog.info? 23).map (·.size) = some (k.1.map bv).length := by rw [List.length_map, k.2]; exact size32
theorem zDgB (k : Dg) : z32.size = (k.1.map bv).toArray.size := by rw [z32_size]; simp [k.2]
theorem oneDgB (k : Dg) : (k.1.map bv).toArray.all (·.oneCell') = true := all_oneCell_toArray fun u hu => by
  obtain ⟨x, -, rfl⟩ := List.mem_map.1 hu
  rfl
theorem xnewB {w0 w4 : World} {o : Obj} {k : Nat} (hk : k = w0.heap.size) (hb : (w0.alloc o).grownBy w4 (some k)) : Below w0.heap.size w0 w4 :=
  (ext_alloc w0 o).grown hb (ext_alloc w0 o).size (fun g e => by injection e with e; omega)
end Go.Proofs.YtfjkcdccnbggnaaDoor
