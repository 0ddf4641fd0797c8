/-
  Rows that every world of a drawn region holds.
-/
import Derived.Test.YtiogdenlaelkbaaBy
import Derived.Deep.RegionHeld3
namespace Go.Proofs.Ytiogdenlaelkbaa
open Go.RowKit
set_option linter.unusedVariables false

theorem rangeOf {w : World} {g : Nat} {l : List Value} {t : TypeId} (h : w.heap[g]? = some (.cells l.toArray t (0, 0))) : w.rangeAt g 0 l := fun j v hv => by
  rw [cell_of_row w g (0 + j) l.toArray t (0, 0) h, Nat.zero_add]
  simpa using hv
theorem rangeBel {w w' : World} {g : Nat} {l : List Value} (hb : Below w.heap.size w w') (h : w.rangeAt g 0 l) : w'.rangeAt g 0 l := fun j v hv =>
  (hb.cell (p := ⟨g, 0 + j, none⟩) (World.block_lt_of_cell? _ _ (h j v hv))).trans (h j v hv)

/-- A whole row loaded, where its cells are held. -/
theorem wpList_load_mid {P : Program} {ops : Array Oper} {rest : List Oper} {o : Oper} {a : Act} {w : World} {Q : Exit → Act → World → Prop} (hw : Region.wanted o (yielded ops a.tmps) = true) (ty : TypeId) (x : Operand) (ho : o.op = .load ty x)
    (b : Nat) (hx : a.eval x = .pointer (some ⟨b, 0, none⟩)) (cs : List Value) (d : TypeDesc) (hS : w.rangeAt b 0 cs)
    (hu : P.underlying ty = some d) (hd : d.isRow = true) (hi : (P.info? ty).map (·.size) = some cs.length)
    (h : wpList P ops Q rest (a.put o.dst (.agg cs.toArray)) w) : wpList P ops Q (o :: rest) a w :=
  wpList_step fun K hK => by
    rw [if_pos hw]
    unfold Oper.wp execOp
    simp only [ho, hx, Instr.loadAt, Instr.sureAddr, Sem.run_bind, Sem.run_pure, Result.andThen_ok, run_loadVar_mid w b 0 ty cs d hS hu hd hi]
    exact hK _ _ h
end Go.Proofs.Ytiogdenlaelkbaa
