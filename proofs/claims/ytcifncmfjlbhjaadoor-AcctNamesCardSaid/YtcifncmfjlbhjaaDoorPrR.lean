/-
  Texts laid together: PairsR.
-/
import Derived.Test.YtcifncmfjlbhjaaDoorPrA
import Derived.Test.YtcifncmfjlbhjaaDoorTagX
import Derived.Test.YtcifncmfjlbhjaaDoorRoad
import Derived.Test.YtcifncmfjlbhjaaDoorPlain
import Derived.Test.YtcifncmfjlbhjaaDoorMem
import Derived.Test.YtcifncmfjlbhjaaDoorBits
import Derived.Test.YtcifncmfjlbhjaaDoorStepT
set_option maxRecDepth 100000
/- (PairsR)
  Contracts of the landed package pairs: rootAt.
-/
namespace Go.Proofs.YtcifncmfjlbhjaaDoor
open Go.RowKit
set_option linter.unusedVariables false
set_option linter.unusedSimpArgs false
set_option maxRecDepth 100000

theorem parts_one {d : Nat} {ps : List Pr} (h : Srt ps) (hs : Shr d ps) : Parts ps (oneP d) (zeros d ps).length := by
  obtain ⟨h1, h2⟩ := split_ones h hs
  refine ⟨List.length_filter_le _ _, fun i hi hlt => ?_, fun i hi hge => ?_⟩
  · have : ps[i] ∈ zeros d ps := by
      rw [h1, List.mem_take_iff_getElem]
      exact ⟨i, by omega, rfl⟩
    have := (List.mem_filter.1 this).2
    simpa using this
  · have : ps[i] ∈ ones d ps := by
      rw [h2, List.mem_drop_iff_getElem]
      exact ⟨i - (zeros d ps).length, by omega, by congr 1; omega⟩
    exact (List.mem_filter.1 this).2


theorem tag2_leP (k : UInt8) {l m : List UInt8} (hl : l.length ≤ 64) (hm : m.length ≤ 64) : (tagB k [l, m]).length ≤ 100000 := by
  have h := tagB_le k [l, m] 64 (by intro x hx; simp at hx; rcases hx with rfl | rfl <;> assumption)
  simp only [List.length_cons, List.length_nil] at h
  omega
theorem boxesR (w : World) (d : Nat) : (((w.alloc (.cells #[.int .i64 (d : Int)] 3)).alloc (.cells z32 35)).cell? ⟨w.heap.size, 0, none⟩ = some (.int .i64 (d : Int))) ∧
    ((w.alloc (.cells #[.int .i64 (d : Int)] 3)).alloc (.cells z32 35)).heap[w.heap.size + 1]? = some (.cells z32 35 (0, 0)) ∧
    Below w.heap.size w ((w.alloc (.cells #[.int .i64 (d : Int)] 3)).alloc (.cells z32 35)) := by
  have h1 : (w.alloc (.cells #[.int .i64 (d : Int)] 3)).cell? ⟨w.heap.size, 0, none⟩ = some (.int .i64 (d : Int)) := by
    rw [cell_of_row _ _ 0 _ 3 (0, 0) (heap_alloc_new w _)]; rfl
  have h2 := heap_alloc_new (w.alloc (.cells #[.int .i64 (d : Int)] 3)) (.cells z32 35)
  rw [World.size_alloc] at h2
  exact ⟨((ext_alloc _ _).cell (World.block_lt_of_cell? _ _ h1)).trans h1, h2, ext_trans (ext_alloc _ _) (ext_alloc _ _)⟩



section
variable {P : Program}
theorem step_store_row {ops : Array Oper} {o : Oper} {a : Act} {w : World} {K : Act → World → Prop} {Q : Exit → Act → World → Prop} {X : Prop} (hw : o.guard = none) (ty : TypeId) (x y : Operand) (ho : o.op = .store ty x y)
    (g : Nat) (cs : Array Value) (hx : a.eval x = .pointer (some ⟨g, 0, none⟩)) (hy : a.eval y = .agg cs) (t : TypeId) (old : Array Value) (hg : w.heap[g]? = some (.cells old t (0, 0)))
    (hi : (P.info? ty).map (·.size) = some cs.size) (hold : old.size = cs.size) (h1 : cs.all (·.oneCell') = true)
    (h : ∀ w', w'.heap[g]? = some (.cells cs t (0, 0)) → w.grownBy w' (some g) → K (a.put o.dst undef) w') : if Region.wanted o (yielded ops a.tmps) = true then Oper.wp P o a w K Q else X := by
  rw [if_pos (by simp [Region.wanted, hw])]
  exact wp_store_row ty x y ho g cs hx hy t old hg hi hold h1 fun w' h2 h3 _ => h w' h2 h3
theorem step_alloc_row {ops : Array Oper} {o : Oper} {a : Act} {w : World} {K : Act → World → Prop} {Q : Exit → Act → World → Prop} {X : Prop} (hw : o.guard = none) (ty : TypeId) (ho : o.op = .alloc ty)
    (zs : Array Value) (hz : (P.info? ty).map (fun i => (i.zero, i.size)) = some (some (.agg zs), zs.size))
    (h : ∀ g w', w.heap.size ≤ g → w'.heap[g]? = some (.cells zs ty (0, 0)) → Below w.heap.size w w' → K (a.put o.dst (.pointer (some ⟨g, 0, none⟩))) w') : if Region.wanted o (yielded ops a.tmps) = true then Oper.wp P o a w K Q else X := by
  rw [if_pos (by simp [Region.wanted, hw])]
  have hq : ∃ i, P.info? ty = some i ∧ i.zero = some (.agg zs) := by
    cases hq : P.info? ty with
    | none => simp [hq] at hz
    | some i => simp [hq] at hz; exact ⟨i, rfl, hz.1⟩
  obtain ⟨i, hi, hzz⟩ := hq
  unfold Oper.wp execOp
  simp only [ho]
  simp [Instr.alloc, zeroValue, typeInfo, hi, hzz, newVar, Value.cells]
  exact h _ _ (Nat.le_refl _) (heap_alloc_new w (.cells zs ty)) (ext_alloc w _)
end

end Go.Proofs.YtcifncmfjlbhjaaDoor
