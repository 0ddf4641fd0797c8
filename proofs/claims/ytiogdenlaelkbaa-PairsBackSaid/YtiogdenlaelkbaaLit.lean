/-
  Literals of bytes, and of slices of bytes.
-/
import Derived.Test.YtiogdenlaelkbaaU8
import Derived.Lib.SlBytesConst
namespace Go.Proofs.Ytiogdenlaelkbaa
open Go.RowKit
set_option linter.unusedVariables false

/-- A literal of slices of bytes, just laid. -/
theorem Rds.lit (w : World) (t : TypeId) (vs : List (Option Addr × Nat × List UInt8)) (cs : Array Value) (g : Nat) (hg : w.heap.size = g) (hcs : cs = (vs.map fun x => Value.slice x.1 x.2.2.length x.2.1).toArray)
    (h : ∀ x ∈ vs, Rd w x.1 x.2.2 ∧ x.2.2.length ≤ x.2.1 ∧ x.2.1 ≤ maxLen) : Rds (w.alloc (.cells cs t)) (some ⟨g, 0, none⟩) (vs.map (·.2.2)) := by
  subst hg hcs
  intro hn
  refine ⟨w.heap.size, 0, rfl, fun j l hl => ?_⟩
  rw [List.getElem?_map] at hl
  obtain ⟨x, hx, rfl⟩ := Option.map_eq_some_iff.1 hl
  obtain ⟨h1, h2, h3⟩ := h x (List.mem_of_getElem? hx)
  refine ⟨x.1, x.2.1, ?_, h1.alloc _, h2, h3⟩
  rw [cell_of_row _ w.heap.size (0 + j) _ t (0, 0) (heap_alloc_new w _), Nat.zero_add, List.getElem?_toArray, List.getElem?_map, hx]
  rfl
theorem Rds.nil (w : World) : Rds w none [] := fun hn => absurd hn (by simp)

theorem Rd.litf (w : World) (t : TypeId) (l : List UInt8) (cs : Array Value) (g : Nat) (fr : Nat × Nat) (hg : w.heap.size = g) (h : cs = (l.map bv).toArray) : Rd (w.alloc (.cells cs t fr)) (some ⟨g, 0, none⟩) l := by
  subst h hg
  intro hn
  refine ⟨w.heap.size, 0, rfl, fun j x hx => ?_⟩
  rw [cell_of_row _ w.heap.size (0 + j) (l.map bv).toArray t fr (heap_alloc_new w _)]
  simp [hx]
theorem conv_lit (w : World) (C : Array Value) (n c : Nat) : (convert 25 25 (.slice (some ⟨w.heap.size, 0, none⟩) n c)).run Try.prog (w.alloc (.cells C 5)) = .ok (.slice (some ⟨w.heap.size, 0, none⟩) n c) (w.alloc (.cells C 5 (C.size, C.size + 1))) :=
  Lib.run_convert_bytes_const w 25 5 C n c Try.underlying25 Try.underlying5
theorem conv_lit2 (w : World) (o : Obj) (C : Array Value) (n c : Nat) : (convert 25 25 (.slice (some ⟨w.heap.size + 1, 0, none⟩) n c)).run Try.prog ((w.alloc o).alloc (.cells C 5)) = .ok (.slice (some ⟨w.heap.size + 1, 0, none⟩) n c) ((w.alloc o).alloc (.cells C 5 (C.size, C.size + 1))) := by
  have h := conv_lit (w.alloc o) C n c
  rw [show (w.alloc o).heap.size = w.heap.size + 1 by simp] at h
  exact h
end Go.Proofs.Ytiogdenlaelkbaa
