/-
  Texts laid together: Range, PathA, PathB, PathC.
-/
import Derived.RangeFuncNested
import Derived.RangeFuncBox
import Derived.RangeFuncBound
import Derived.RangeFuncCalls
import Derived.RangeFuncLeaves
import Derived.Shelf.Abstract
import Derived.Shelf.RegionOpen
import Derived.OwnWalkIn
import Derived.Laws.EntriesVeiled
import Derived.TacticsInMore
import Derived.LoopNIn
import Derived.LoopIn
import Derived.Laws.Rows
import Derived.Test.YtpfglincdlmfhaaDoorBy
import Derived.Test.YtpfglincdlmfhaaDoorBits
import Derived.IntWalk
set_option maxRecDepth 100000
/- (Range)
  Ranges over a function: what a body keeps, boxes, results in cells; a whole row loaded inside a fence. No program is named here.
-/
namespace Go.Proofs.YtpfglincdlmfhaaDoor
open Go.RowKit Go.Shelf
set_option linter.unusedVariables false

/-- What a body keeps for the iterator: all that lay ahead of the call, and the iterator's two boxes. -/
def Keep2 (n₀ p q : Nat) (W W' : World) : Prop := Below n₀ W W' ∧ W'.heap[p]? = W.heap[p]? ∧ W'.heap[q]? = W.heap[q]?
theorem Keep2.refl (n₀ p q : Nat) (W : World) : Keep2 n₀ p q W W := ⟨Below.refl _ _, rfl, rfl⟩
theorem Keep2.trans {n₀ p q : Nat} {A B C : World} (h : Keep2 n₀ p q A B) (k : Keep2 n₀ p q B C) : Keep2 n₀ p q A C := ⟨h.1.trans k.1, k.2.1.trans h.2.1, k.2.2.trans h.2.2⟩
theorem Keep2.bel {n₀ p q : Nat} {W W' : World} (hb : Below W.heap.size W W') (hn : n₀ ≤ W.heap.size) (hp : p < W.heap.size) (hq : q < W.heap.size) : Keep2 n₀ p q W W' := ⟨hb.mono hn, hb.block p hp, hb.block q hq⟩
theorem cell_same {W W' : World} {p : Nat} (h : W'.heap[p]? = W.heap[p]?) : W'.cell? ⟨p, 0, none⟩ = W.cell? ⟨p, 0, none⟩ := World.cell?_of_block h
theorem grown_of_below {W W' : World} (hb : Below W.heap.size W W') : W.grownBy W' none := ⟨hb.os, hb.tape, hb.output, hb.size, fun k hk _ => hb.block k hk⟩

theorem apart_cells {W : World} {k : Nat} {row : Option Nat} {cs : Array Value} {t : TypeId} {m : Nat × Nat} (h : W.heap[k]? = some (.cells cs t m)) (hr : ∀ r, row = some r → ∃ o : Obj, W.heap[r]? = some o ∧ o.isCells = false) : some k ≠ row := by
  intro e
  obtain ⟨o, ho, hc⟩ := hr k e.symm
  rw [h] at ho
  injection ho with ho
  subst ho
  cases hc
theorem boxed_bel {W W' : World} {B N : Nat} {t : TypeId} {v : Value} (h : Boxed W B t v) (hb : Below N W W') (hB : B < N) : Boxed W' B t v := (hb.block _ hB).trans h

section
variable {F : Fence} {n : Nat} {P : Program}
/-- A whole row loaded, inside a fence. -/
theorem stepIn_load_row {ops : Array Oper} {o : Oper} {a : Act} {w : World} {K : Act → World → Prop} {Q : Exit → Act → World → Prop} {X : Prop} (hw : Region.wanted o (yielded ops a.tmps) = true) (ty : TypeId) (x : Operand) (ho : o.op = .load ty x)
    (g : Nat) (hx : a.eval x = .pointer (some ⟨g, 0, none⟩)) (t : TypeId) (cs : Array Value) (fr : Nat × Nat) (d : TypeDesc) (hg : w.heap[g]? = some (.cells cs t fr))
    (hu : P.underlying ty = some d) (hd : (match d with | .struct _ | .array _ _ => true | _ => false) = true) (hi : (P.info? ty).map (·.size) = some cs.size)
    (hK : K (a.put o.dst (.agg cs)) w) : if Region.wanted o (yielded ops a.tmps) = true then Oper.wpIn F n P o a w K Q else X := by
  rw [if_pos hw]
  unfold Oper.wpIn
  refine ⟨?_, ?_⟩
  · simp [Oper.about, ho]
  · rw [Oper.semAt_plain F _ _ (by rw [ho]; intro c hc'; cases hc')]
    simp only [execOp, ho, hx, Instr.loadAt, Instr.sureAddr, Sem.run_bind, Sem.run_pure, Result.andThen_ok, run_loadVar_row w g t ty cs fr d hg hu hd hi]
    exact hK
theorem wpListIn_load_row {ops : Array Oper} {rest : List Oper} {o : Oper} {a : Act} {w : World} {Q : Exit → Act → World → Prop} (hg0 : o.guard = none) (ty : TypeId) (x : Operand) (ho : o.op = .load ty x)
    (g : Nat) (hx : a.eval x = .pointer (some ⟨g, 0, none⟩)) (t : TypeId) (cs : Array Value) (fr : Nat × Nat) (d : TypeDesc) (hg : w.heap[g]? = some (.cells cs t fr))
    (hu : P.underlying ty = some d) (hd : (match d with | .struct _ | .array _ _ => true | _ => false) = true) (hi : (P.info? ty).map (·.size) = some cs.size)
    (h : wpListIn F n P ops Q rest (a.put o.dst (.agg cs)) w) : wpListIn F n P ops Q (o :: rest) a w := by
  refine wpListIn_plain hg0 fun K hK => ?_
  have := stepIn_load_row (F := F) (n := n) (P := P) (ops := ops) (o := o) (a := a) (w := w) (K := K) (Q := Q) (X := True) (by simp [Region.wanted, hg0]) ty x ho g hx t cs fr d hg hu hd hi (hK _ _ h)
  rw [if_pos (by simp [Region.wanted, hg0])] at this
  exact this
end

/-! ### results in cells -/
theorem results_cells2 {fn : Func} {p q : Tmp} {t1 t2 : TypeId} (h : fn.results = #[.cell p t1, .cell q t2]) (tmps : Array Value) (P : Program) (w : World) (a1 a2 : Addr) (v1 v2 : Value)
    (e1 : tmps.getD p undef = .pointer (some a1)) (e2 : tmps.getD q undef = .pointer (some a2))
    (l1 : (loadVar t1 a1).run P w = .ok v1 w) (l2 : (loadVar t2 a2).run P w = .ok v2 w) : (results fn tmps).run P w = .ok (.tuple #[v1, v2]) w := by
  simp only [results, h]
  simp only [Array.getD_eq_getD_getElem?] at e1 e2
  simp [Sem.run_bind, Result.andThen, e1, e2, asAddr, l1, l2]
theorem results_cells3 {fn : Func} {p q r : Tmp} {t1 t2 t3 : TypeId} (h : fn.results = #[.cell p t1, .cell q t2, .cell r t3]) (tmps : Array Value) (P : Program) (w : World) (a1 a2 a3 : Addr) (v1 v2 v3 : Value)
    (e1 : tmps.getD p undef = .pointer (some a1)) (e2 : tmps.getD q undef = .pointer (some a2)) (e3 : tmps.getD r undef = .pointer (some a3))
    (l1 : (loadVar t1 a1).run P w = .ok v1 w) (l2 : (loadVar t2 a2).run P w = .ok v2 w) (l3 : (loadVar t3 a3).run P w = .ok v3 w) : (results fn tmps).run P w = .ok (.tuple #[v1, v2, v3]) w := by
  simp only [results, h]
  simp only [Array.getD_eq_getD_getElem?] at e1 e2 e3
  simp [Sem.run_bind, Result.andThen, e1, e2, e3, asAddr, l1, l2, l3]
theorem loadVar_boxed {P : Program} {t u : TypeId} {W : World} {g : Nat} {v : Value} (ha : ∀ w, (isAgg t).run P w = .ok false w) (hb : Boxed W g u v) : (loadVar t ⟨g, 0, none⟩).run P W = .ok v W := by
  have hc := hb.cell
  simp [loadVar, ha, Sem.run_bind, Result.andThen, hc, go_sem]
end Go.Proofs.YtpfglincdlmfhaaDoor

/- (PathA)
  Contracts of the landed package path: masks and bits.
-/
namespace Go.Proofs.YtpfglincdlmfhaaDoor
open Go.RowKit
set_option linter.unusedVariables false
set_option linter.unusedSimpArgs false

theorem pow_div (p : Nat) (h : p < 8) : (128 : Int) / 2 ^ p = ((2 ^ (7 - p) : Nat) : Int) := by
  have : ∀ p : Fin 8, (128 : Int) / 2 ^ p.val = ((2 ^ (7 - p.val) : Nat) : Int) := by decide +kernel
  exact this ⟨p, h⟩

theorem byte_and (c p : Nat) (hc : c < 256) (hp : p < 8) : bits .and .u8 (c : Int) ((2 ^ (7 - p) : Nat) : Int) = ((c / 2 ^ (7 - p) % 2 * 2 ^ (7 - p) : Nat) : Int) := by
  have : ∀ c : Fin 256, ∀ p : Fin 8, bits .and .u8 (c.val : Int) ((2 ^ (7 - p.val) : Nat) : Int) = ((c.val / 2 ^ (7 - p.val) % 2 * 2 ^ (7 - p.val) : Nat) : Int) := by decide +kernel
  exact this ⟨c, hc⟩ ⟨p, hp⟩
theorem byte_xor (c : UInt8) (p : Nat) (hp : p < 8) : bits .xor .u8 (c.toNat : Int) ((2 ^ (7 - p) : Nat) : Int) = ((tbyte c p).toNat : Int) := by
  have : ∀ c : Fin 256, ∀ p : Fin 8, bits .xor .u8 (c.val : Int) ((2 ^ (7 - p.val) : Nat) : Int) = ((tbyte (UInt8.ofNat c.val) p.val).toNat : Int) := by decide +kernel
  have h := this ⟨c.toNat, c.toNat_lt⟩ ⟨p, hp⟩
  simp only [UInt8.ofNat_toNat] at h
  exact h


end Go.Proofs.YtpfglincdlmfhaaDoor

/- (PathB)
  Contracts of the landed package path: inStep and its iterator.
-/
namespace Go.Proofs.YtpfglincdlmfhaaDoor
open Go.RowKit Go.Shelf
set_option linter.unusedVariables false
set_option linter.unusedSimpArgs false

theorem undrew2 {W W' : World} (h : Below W.drew.heap.size W.drew W') : Below W.heap.size W W' := ⟨h.os, h.tape, h.output, h.size, h.block⟩


/-- What the iterator yields: a bit of each. -/
def Two.encs (x : Nat × Nat) : Array Value := #[.int .u8 (x.1 : Int), .int .u8 (x.2 : Int)]
def two (l m : List UInt8) (i : Nat) : Nat × Nat := (kb l i, kb m i)
def twos (l m : List UInt8) (j : Nat) : List (Nat × Nat) := (List.range j).map (two l m)
theorem twos_succ (l m : List UInt8) (j : Nat) : twos l m (j + 1) = twos l m j ++ [two l m j] := by unfold twos; rw [List.range_succ, List.map_append]; rfl
theorem twos_length (l m : List UInt8) (j : Nat) : (twos l m j).length = j := by simp [twos]

end Go.Proofs.YtpfglincdlmfhaaDoor

/- (PathC)
  Contracts of the landed package path: parting.
-/
namespace Go.Proofs.YtpfglincdlmfhaaDoor
open Go.RowKit Go.Shelf
set_option linter.unusedVariables false
set_option linter.unusedSimpArgs false
attribute [local go_sem] Oper.semAt_some

def Loop4 (w : World) (pre : List (Nat × Nat)) (W : World) : Prop :=
  (∀ x ∈ pre, x.1 = x.2) ∧ Boxed W (w.heap.size + 1 + 1) 3 (.int .i64 (pre.length : Int)) ∧ Boxed W (w.heap.size + 1 + 1 + 1) 4 (.bool false) ∧ Below w.heap.size w W
def Left4 (w : World) (cd : Code) (pre : List (Nat × Nat)) (W : World) : Prop :=
  cd = .exit 0 ∧ ∃ q x, pre = q ++ [x] ∧ (∀ y ∈ q, y.1 = y.2) ∧ x.1 ≠ x.2 ∧ Boxed W (w.heap.size + 1 + 1) 3 (.int .i64 (q.length : Int)) ∧ Boxed W (w.heap.size + 1 + 1 + 1) 4 (.bool (decide (x.1 < x.2))) ∧ Below w.heap.size w W
theorem loop4_from (w : World) (B : Nat) (hB : w.heap.size ≤ B) : OwnFrom B (Loop4 w) := by
  rintro pre X Y row ⟨h1, h2, h3, h4⟩ hg hr
  have hr2 := fun r e => (hr r e).2
  exact ⟨h1, h2.kept hg (apart_cells h2 hr2), h3.kept hg (apart_cells h3 hr2), h4.grown hg h4.size (fun k e => Nat.le_trans hB (hr k e).1)⟩
theorem left4_from (w : World) (B : Nat) (hB : w.heap.size ≤ B) (cd : Code) : OwnFrom B (Left4 w cd) := by
  rintro pre X Y row ⟨h1, q, x, h2, h3, h4, h5, h6, h7⟩ hg hr
  have hr2 := fun r e => (hr r e).2
  exact ⟨h1, q, x, h2, h3, h4, h5.kept hg (apart_cells h5 hr2), h6.kept hg (apart_cells h6 hr2), h7.grown hg h7.size (fun k e => Nat.le_trans hB (hr k e).1)⟩

theorem twos_all {l m : List UInt8} {j : Nat} (h : ∀ x ∈ twos l m j, x.1 = x.2) : ∀ i, i < j → kb l i = kb m i := fun i hi => h (two l m i) (List.mem_map.2 ⟨i, List.mem_range.2 hi, rfl⟩)
theorem twos_last {l m : List UInt8} {j : Nat} {q : List (Nat × Nat)} {x : Nat × Nat} (h : q ++ [x] = twos l m j) : 1 ≤ j ∧ q = twos l m (j - 1) ∧ x = two l m (j - 1) := by
  have hl := congrArg List.length h
  rw [twos_length] at hl
  simp at hl
  obtain ⟨k, rfl⟩ : ∃ k, j = k + 1 := ⟨j - 1, by omega⟩
  rw [twos_succ] at h
  obtain ⟨h1, h2⟩ := List.append_inj' h rfl
  exact ⟨by omega, h1, by simpa using h2⟩

end Go.Proofs.YtpfglincdlmfhaaDoor
