/-
  Ranges over a function: what a body keeps, boxes, results in cells; a whole row loaded inside a fence. No program is named here.
-/
import Derived.RangeFuncNested
import Derived.RangeFuncBox
import Derived.RangeFuncBound
import Derived.RangeFuncCalls
import Derived.RangeFuncLeaves
import Derived.Shelf.Abstract
import Derived.Shelf.RegionOpen
import Derived.OwnWalkIn
import Derived.Laws.EntriesVeiled
import Derived.TacticsInMore
import Derived.LoopNIn
import Derived.LoopIn
import Derived.Laws.Rows
import Derived.Test.YtiogdenlaelkbaaBy
namespace Go.Proofs.Ytiogdenlaelkbaa
open Go.RowKit Go.Shelf
set_option linter.unusedVariables false

/-- What a body keeps for the iterator: all that lay ahead of the call, and the iterator's two boxes. -/
def Keep2 (n₀ p q : Nat) (W W' : World) : Prop := Below n₀ W W' ∧ W'.heap[p]? = W.heap[p]? ∧ W'.heap[q]? = W.heap[q]?
theorem Keep2.refl (n₀ p q : Nat) (W : World) : Keep2 n₀ p q W W := ⟨Below.refl _ _, rfl, rfl⟩
theorem Keep2.trans {n₀ p q : Nat} {A B C : World} (h : Keep2 n₀ p q A B) (k : Keep2 n₀ p q B C) : Keep2 n₀ p q A C := ⟨h.1.trans k.1, k.2.1.trans h.2.1, k.2.2.trans h.2.2⟩
theorem Keep2.bel {n₀ p q : Nat} {W W' : World} (hb : Below W.heap.size W W') (hn : n₀ ≤ W.heap.size) (hp : p < W.heap.size) (hq : q < W.heap.size) : Keep2 n₀ p q W W' := ⟨hb.mono hn, hb.block p hp, hb.block q hq⟩
theorem cell_same {W W' : World} {p : Nat} (h : W'.heap[p]? = W.heap[p]?) : W'.cell? ⟨p, 0, none⟩ = W.cell? ⟨p, 0, none⟩ := World.cell?_of_block h
theorem grown_of_below {W W' : World} (hb : Below W.heap.size W W') : W.grownBy W' none := ⟨hb.os, hb.tape, hb.output, hb.size, fun k hk _ => hb.block k hk⟩

theorem apart_cells {W : World} {k : Nat} {row : Option Nat} {cs : Array Value} {t : TypeId} {m : Nat × Nat} (h : W.heap[k]? = some (.cells cs t m)) (hr : ∀ r, row = some r → ∃ o : Obj, W.heap[r]? = some o ∧ o.isCells = false) : some k ≠ row := by
  intro e
  obtain ⟨o, ho, hc⟩ := hr k e.symm
  rw [h] at ho
  injection ho with ho
  subst ho
  cases hc
theorem boxed_bel {W W' : World} {B N : Nat} {t : TypeId} {v : Value} (h : Boxed W B t v) (hb : Below N W W') (hB : B < N) : Boxed W' B t v := (hb.block _ hB).trans h

section
variable {F : Fence} {n : Nat} {P : Program}
/-- A whole row loaded, inside a fence. -/
theorem stepIn_load_row {ops : Array Oper} {o : Oper} {a : Act} {w : World} {K : Act → World → Prop} {Q : Exit → Act → World → Prop} {X : Prop} (hw : Region.wanted o (yielded ops a.tmps) = true) (ty : TypeId) (x : Operand) (ho : o.op = .load ty x)
    (g : Nat) (hx : a.eval x = .pointer (some ⟨g, 0, none⟩)) (t : TypeId) (cs : Array Value) (fr : Nat × Nat) (d : TypeDesc) (hg : w.heap[g]? = some (.cells cs t fr))
    (hu : P.underlying ty = some d) (hd : (match d with | .struct _ | .array _ _ => true | _ => false) = true) (hi : (P.info? ty).map (·.size) = some cs.size)
    (hK : K (a.put o.dst (.agg cs)) w) : if Region.wanted o (yielded ops a.tmps) = true then Oper.wpIn F n P o a w K Q else X := by
  rw [if_pos hw]
  unfold Oper.wpIn
  refine ⟨?_, ?_⟩
  · simp [Oper.about, ho]
  · rw [Oper.semAt_plain F _ _ (by rw [ho]; intro c hc'; cases hc')]
    simp only [execOp, ho, hx, Instr.loadAt, Instr.sureAddr, Sem.run_bind, Sem.run_pure, Result.andThen_ok, run_loadVar_row w g t ty cs fr d hg hu hd hi]
    exact hK
theorem wpListIn_load_row {ops : Array Oper} {rest : List Oper} {o : Oper} {a : Act} {w : World} {Q : Exit → Act → World → Prop} (hg0 : o.guard = none) (ty : TypeId) (x : Operand) (ho : o.op = .load ty x)
    (g : Nat) (hx : a.eval x = .pointer (some ⟨g, 0, none⟩)) (t : TypeId) (cs : Array Value) (fr : Nat × Nat) (d : TypeDesc) (hg : w.heap[g]? = some (.cells cs t fr))
    (hu : P.underlying ty = some d) (hd : (match d with | .struct _ | .array _ _ => true | _ => false) = true) (hi : (P.info? ty).map (·.size) = some cs.size)
    (h : wpListIn F n P ops Q rest (a.put o.dst (.agg cs)) w) : wpListIn F n P ops Q (o :: rest) a w := by
  refine wpListIn_plain hg0 fun K hK => ?_
  have := stepIn_load_row (F := F) (n := n) (P := P) (ops := ops) (o := o) (a := a) (w := w) (K := K) (Q := Q) (X := True) (by simp [Region.wanted, hg0]) ty x ho g hx t cs fr d hg hu hd hi (hK _ _ h)
  rw [if_pos (by simp [Region.wanted, hg0])] at this
  exact this
end

/-! ### results in cells -/
theorem results_cells2 {fn : Func} {p q : Tmp} {t1 t2 : TypeId} (h : fn.results = #[.cell p t1, .cell q t2]) (tmps : Array Value) (P : Program) (w : World) (a1 a2 : Addr) (v1 v2 : Value)
    (e1 : tmps.getD p undef = .pointer (some a1)) (e2 : tmps.getD q undef = .pointer (some a2))
    (l1 : (loadVar t1 a1).run P w = .ok v1 w) (l2 : (loadVar t2 a2).run P w = .ok v2 w) : (results fn tmps).run P w = .ok (.tuple #[v1, v2]) w := by
  simp only [results, h]
  simp only [Array.getD_eq_getD_getElem?] at e1 e2
  simp [Sem.run_bind, Result.andThen, e1, e2, asAddr, l1, l2]
theorem results_cells3 {fn : Func} {p q r : Tmp} {t1 t2 t3 : TypeId} (h : fn.results = #[.cell p t1, .cell q t2, .cell r t3]) (tmps : Array Value) (P : Program) (w : World) (a1 a2 a3 : Addr) (v1 v2 v3 : Value)
    (e1 : tmps.getD p undef = .pointer (some a1)) (e2 : tmps.getD q undef = .pointer (some a2)) (e3 : tmps.getD r undef = .pointer (some a3))
    (l1 : (loadVar t1 a1).run P w = .ok v1 w) (l2 : (loadVar t2 a2).run P w = .ok v2 w) (l3 : (loadVar t3 a3).run P w = .ok v3 w) : (results fn tmps).run P w = .ok (.tuple #[v1, v2, v3]) w := by
  simp only [results, h]
  simp only [Array.getD_eq_getD_getElem?] at e1 e2 e3
  simp [Sem.run_bind, Result.andThen, e1, e2, e3, asAddr, l1, l2, l3]
theorem loadVar_boxed {P : Program} {t u : TypeId} {W : World} {g : Nat} {v : Value} (ha : ∀ w, (isAgg t).run P w = .ok false w) (hb : Boxed W g u v) : (loadVar t ⟨g, 0, none⟩).run P W = .ok v W := by
  have hc := hb.cell
  simp [loadVar, ha, Sem.run_bind, Result.andThen, hc, go_sem]
end Go.Proofs.Ytiogdenlaelkbaa
