/-
  Steps of drawn regions: a box laid, a whole thing stored. No program is named here.
-/
import Derived.Test.YtpfglincdlmfhaaDoorBits
namespace Go.Proofs.YtpfglincdlmfhaaDoor
open Go.RowKit
set_option linter.unusedVariables false
set_option maxRecDepth 100000

theorem xnewP {w0 w4 : World} {o : Obj} {k : Nat} (hk : k = w0.heap.size) (hb : (w0.alloc o).grownBy w4 (some k)) : Below w0.heap.size w0 w4 :=
  (ext_alloc w0 o).grown hb (ext_alloc w0 o).size (fun g e => by injection e with e; omega)
theorem run_all32P (a : Addr) (w : World) : (Instr.sliceAt 23 (.pointer (some a)) none none none).run Tryd.prog w = .ok (.slice (some a) 32 32) w := by
  have hu := Tryd.underlying23
  have h := run_sliceAt_array_all (P := Tryd.prog) w 23 a (by rw [hu]; rfl)
  rw [h]
  rfl
theorem rd_keyP {w : World} {b o : Nat} {k : Dg} (h : w.rangeAt b o (k.1.map bv)) : Rd w (some ⟨b, o, none⟩) k.1 := fun _ => ⟨b, o, rfl, fun j x hx => h j (bv x) (by rw [List.getElem?_map, hx]; rfl)⟩
theorem rd_blockP {w : World} {g : Nat} {l : List UInt8} {t : TypeId} (h : w.heap[g]? = some (.cells (l.map bv).toArray t (0, 0))) : Rd w (some ⟨g, 0, none⟩) l := fun _ => ⟨g, 0, rfl, fun j x hx => by
  rw [cell_of_row w g (0 + j) _ t (0, 0) h, Nat.zero_add, List.getElem?_toArray, List.getElem?_map, hx]; rfl⟩
section
variable {P : Program}
theorem step_store_rowT {ops : Array Oper} {o : Oper} {a : Act} {w : World} {K : Act → World → Prop} {Q : Exit → Act → World → Prop} {X : Prop} (hw : o.guard = none) (ty : TypeId) (x y : Operand) (ho : o.op = .store ty x y)
    (g : Nat) (cs : Array Value) (hx : a.eval x = .pointer (some ⟨g, 0, none⟩)) (hy : a.eval y = .agg cs) (t : TypeId) (old : Array Value) (hg : w.heap[g]? = some (.cells old t (0, 0)))
    (hi : (P.info? ty).map (·.size) = some cs.size) (hold : old.size = cs.size) (h1 : cs.all (·.oneCell') = true)
    (h : ∀ w', w'.heap[g]? = some (.cells cs t (0, 0)) → w.grownBy w' (some g) → K (a.put o.dst undef) w') : if Region.wanted o (yielded ops a.tmps) = true then Oper.wp P o a w K Q else X := by
  rw [if_pos (by simp [Region.wanted, hw])]
  exact wp_store_row ty x y ho g cs hx hy t old hg hi hold h1 fun w' h2 h3 _ => h w' h2 h3
theorem step_alloc_rowT {ops : Array Oper} {o : Oper} {a : Act} {w : World} {K : Act → World → Prop} {Q : Exit → Act → World → Prop} {X : Prop} (hw : o.guard = none) (ty : TypeId) (ho : o.op = .alloc ty)
    (zs : Array Value) (hz : (P.info? ty).map (fun i => (i.zero, i.size)) = some (some (.agg zs), zs.size))
    (h : ∀ g w', w.heap.size ≤ g → w'.heap[g]? = some (.cells zs ty (0, 0)) → Below w.heap.size w w' → K (a.put o.dst (.pointer (some ⟨g, 0, none⟩))) w') : if Region.wanted o (yielded ops a.tmps) = true then Oper.wp P o a w K Q else X := by
  rw [if_pos (by simp [Region.wanted, hw])]
  have hq : ∃ i, P.info? ty = some i ∧ i.zero = some (.agg zs) := by
    cases hq : P.info? ty with
    | none => simp [hq] at hz
    | some i => simp [hq] at hz; exact ⟨i, rfl, hz.1⟩
  obtain ⟨i, hi, hzz⟩ := hq
  unfold Oper.wp execOp
  simp only [ho]
  simp [Instr.alloc, zeroValue, typeInfo, hi, hzz, newVar, Value.cells]
  exact h _ _ (Nat.le_refl _) (heap_alloc_new w (.cells zs ty)) (ext_alloc w _)
end
end Go.Proofs.YtpfglincdlmfhaaDoor
