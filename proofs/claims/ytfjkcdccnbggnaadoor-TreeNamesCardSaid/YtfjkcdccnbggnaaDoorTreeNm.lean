/-
  Layer 6's examples: a slice of two things just laid; the chapter's trees.
-/
import Derived.Test.YtfjkcdccnbggnaaDoorAlive06
import Derived.Test.YtfjkcdccnbggnaaDoorTreeLr
namespace Go.Proofs.YtfjkcdccnbggnaaDoor
open Go.RowKit
set_option linter.unusedVariables false
set_option maxRecDepth 100000

theorem run_buildTwo {P : Program} {α : Type} [Enc α] {S E : TypeId} {z : Value} {bytes : Nat} (hS : Slot P α S E z bytes) (hsm : 2 * Enc.size α ≤ 16777216) (cs ds : List Value) (hcs : cs.length = Enc.size α) (hds : ds.length = Enc.size α) (v u : Value) (hv : v.cells = cs.toArray) (hu : u.cells = ds.toArray) (w : World) :
    (Instr.buildSlice S 2 #[(0, v), (1, u)]).run P w = .ok (.slice (some ⟨w.heap.size, 0, none⟩) 2 2) (w.alloc (.cells (cs ++ ds).toArray E)) := by
  obtain ⟨i, hi, hz, hsz, hby⟩ := info_parts hS.info
  have hsv : v.cells.size = Enc.size α := by rw [hv, List.size_toArray, hcs]
  have hsu : u.cells.size = Enc.size α := by rw [hu, List.size_toArray, hds]
  have hpos := hS.pos
  refine run_buildSlice w S E 2 #[(0, v), (1, u)] _ i z hS.under hi hz (by omega) (by omega) ?_
  rw [show (#[(0, v), (1, u)] : Array (Nat × Value)).toList = [(0, v), (1, u)] from rfl, fill_cons (off := 0) (by simp [hsv, hsz]) (by simp; omega), fill_cons (off := Enc.size α) (by simp [hsu, hsz]) (by simp [lay, hv]; omega)]
  rw [Instr.fill, hv, hu]
  congr 2
  simp only [lay, List.take_zero, List.nil_append]
  rw [List.take_append_of_le_length (by omega), List.take_of_length_le (by omega), List.drop_of_length_le (by simp; omega), List.append_nil]
theorem wpList_buildTwo {P : Program} {α : Type} [Enc α] {S E : TypeId} {z : Value} {bytes : Nat} (hS : Slot P α S E z bytes) (hsm : 2 * Enc.size α ≤ 16777216) {w : World} {ops : Array Oper} {rest : List Oper} {o : Oper} {a : Act} {Q : Exit → Act → World → Prop} (hg : Region.wanted o (yielded ops a.tmps) = true)
    (x y : Operand) (hop : o.op = .buildSlice S 2 #[(0, x), (1, y)]) (cs ds : List Value) (hx : (a.eval x).cells = cs.toArray) (hy : (a.eval y).cells = ds.toArray) (hcs : cs.length = Enc.size α) (hds : ds.length = Enc.size α)
    (hK : wpList P ops Q rest (a.put o.dst (.slice (some ⟨w.heap.size, 0, none⟩) 2 2)) (w.alloc (.cells (cs ++ ds).toArray E))) : wpList P ops Q (o :: rest) a w :=
  wpList_step fun _ hK2 => by
    rw [if_pos hg]
    unfold Oper.wp execOp
    simp only [hop, List.map_toArray, List.map_cons, List.map_nil, Sem.run_bind, run_buildTwo hS hsm cs ds hcs hds _ _ hx hy w, Result.andThen_ok]
    exact hK2 _ _ hK
theorem row_heap2 {α : Type} [Enc α] {F : Nat → Prop} {w : World} {x y : α} {cs ds : List Value} {g : Nat} {E : TypeId} {fr : Nat × Nat} (hc : cs.length = Enc.size α) (h : Enc.rep F w x cs) (k : Enc.rep F w y ds) (hg : w.heap[g]? = some (.cells (cs ++ ds).toArray E fr)) : Row (fun b => F b ∨ b = g) w (some ⟨g, 0, none⟩) [x, y] := fun _ =>
  ⟨g, 0, rfl, .inr rfl, (Array.getElem?_eq_some_iff.1 hg).1, fun j e he => by
    rcases j with _ | _ | j
    · injection he with he
      subst he
      refine ⟨cs, Enc.mono h fun b hb _ => .inl hb, fun i v hv => ?_⟩
      rw [cell_of_row w g _ _ E fr hg, Nat.zero_mul, Nat.add_zero, Nat.zero_add, List.getElem?_toArray, List.getElem?_append_left (List.getElem?_eq_some_iff.1 hv).1]
      exact hv
    · injection he with he
      subst he
      refine ⟨ds, Enc.mono k fun b hb _ => .inl hb, fun i v hv => ?_⟩
      rw [cell_of_row w g _ _ E fr hg, Nat.zero_add, Nat.one_mul, List.getElem?_toArray, List.getElem?_append_right (by omega), hc, Nat.add_sub_cancel_left]
      exact hv
    · cases he⟩

/-- The chapter's tree of no pair, behind the one of one pair. -/
def dropA : Tr := tdropT oneT (dfst 3)
def leafA : Nd := leafN (dfst 3) [97]
def badA : Nd := ⟨false, z0, [], 1, 0⟩
theorem dropA_E : tdropE oneT (dfst 3) = 0 := by decide +kernel
theorem dropA_len : dropA.ns.length ≤ 1000 := by decide +kernel
theorem dropA_may : mayT dropA = true := by decide +kernel
theorem dropA_all : allT dropA = [] := by decide +kernel
theorem dropA_pairs : pairsM dropA = [] := by unfold pairsM; rw [if_pos dropA_may, dropA_all]
theorem dropA_none : tdropE dropA (dfst 3) = 6 := by decide +kernel
theorem dropA_noneT : tdropT dropA (dfst 3) = ⟨[], 0⟩ := tdrop_no (by rw [dropA_none]; decide)
theorem may_bad1 : mayT ⟨[nd0], 1⟩ = false := by decide +kernel
theorem may_bad2 : mayT ⟨[leafA, badA], 2⟩ = false := by decide +kernel
theorem may_leaf : mayT ⟨[leafA], 1⟩ = true := by decide +kernel
theorem one_at2 : atE oneT 2 = 2 := by decide +kernel
theorem one_at2T : atT oneT 2 = ⟨[], 0⟩ := by unfold atT; rw [if_neg (by rw [one_at2]; decide)]
theorem built_nd0 : Tryd.prog.built 50 [] = some zNdC := by kernel_rfl
theorem built_badA : Tryd.prog.built 50 [(3, .int .i64 1)] = some (ndC badA none 0).toArray := by kernel_rfl
end Go.Proofs.YtfjkcdccnbggnaaDoor
