/-
  Bytes of a string that is no constant. No program is named here.
-/
import Derived.Test.YtiogdenlaelkbaaBy
import Derived.Lib.ConvBytes
namespace Go.Proofs.Ytiogdenlaelkbaa
open Go.RowKit
set_option linter.unusedVariables false

theorem bytesWorld_heap (w : World) (e : TypeId) (s : ByteArray) : ∃ fr, (Lib.bytesWorld w e s).heap[w.heap.size]? = some (.cells (Lib.bytesCells w e s) e fr) := by
  unfold Lib.bytesWorld World.freeze
  rw [if_neg (by decide)]
  simp only [Array.getElem?_modify, if_true]
  rw [show (w.drew.alloc (.cells (Lib.bytesCells w e s) e)).heap[w.heap.size]? = some (.cells (Lib.bytesCells w e s) e) from heap_alloc_new w.drew _]
  exact ⟨_, rfl⟩
theorem bytesWorld_bel (w : World) (e : TypeId) (s : ByteArray) : Below w.heap.size w (Lib.bytesWorld w e s) := by
  have h : Below w.heap.size w (w.drew.alloc (.cells (Lib.bytesCells w e s) e)) := (below_drewN (Below.refl _ _) 1).alloc (Nat.le_refl _) _
  unfold Lib.bytesWorld World.freeze
  rw [if_neg (by decide)]
  refine ⟨h.os, h.tape, h.output, by simp, fun b hb => ?_⟩
  rw [← h.block b hb]
  simp only [Array.getElem?_modify]
  rw [if_neg (by show ¬ w.heap.size = b; omega)]
theorem bytesWorld_rd (w : World) (e : TypeId) (l : List UInt8) : Rd (Lib.bytesWorld w e (bstr l)) (some ⟨w.heap.size, 0, none⟩) l := fun hn => by
  obtain ⟨fr, h⟩ := bytesWorld_heap w e (bstr l)
  refine ⟨w.heap.size, 0, rfl, fun j x hx => ?_⟩
  rw [cell_of_row _ w.heap.size (0 + j) _ e fr h, Nat.zero_add]
  have hj := (List.getElem?_eq_some_iff.1 hx).1
  have e1 : ((bstr l).data.map fun b => Value.int .u8 b.toNat) = (l.map bv).toArray := by
    apply Array.ext'
    simp [bstr, bv]
  unfold Lib.bytesCells
  rw [e1, Array.getElem?_append_left (by simp; omega)]
  simp [hx]
theorem bstr_size (l : List UInt8) : (bstr l).size = l.length := by simp [bstr, ByteArray.size]
theorem run_str_bytes {P : Program} {S E : TypeId} (h : U8s P S E) (he : P.underlying E = some (.int .u8)) (T : TypeId) (hT : P.underlying T = some .string) (l : List UInt8) (w : World) :
    (convert T S (.string (bstr l))).run P w = .ok (.slice (some ⟨w.heap.size, 0, none⟩) l.length (grownCap w l.length 0 E)) (Lib.bytesWorld w E (bstr l)) := by
  have := Lib.run_convert_string_bytes (P := P) w T S E (bstr l) hT h.under he
  rw [bstr_size] at this
  exact this
end Go.Proofs.Ytiogdenlaelkbaa
