/-
  Regions that draw their order, over 'all that lay before stands'. No program is named here.
-/
import Derived.Test.YtiogdenlaelkbaaHeld
import Derived.Test.YtiogdenlaelkbaaEnc
import Derived.Great.BuildSlice
namespace Go.Proofs.Ytiogdenlaelkbaa
open Go.RowKit
set_option linter.unusedVariables false

/-- What lies below a base stands over what leaves that alone. -/
theorem Enc.bel2 {α : Type} [Enc α] {B : Nat} {w w' : World} {x : α} {vs : List Value} (h : Enc.rep (fun b => b < B) w x vs) (hb : Below B w w') : Enc.rep (fun b => b < B) w' x vs := Enc.kept h fun b hB _ => hb.block b hB
theorem bel_drew (w : World) : Below w.heap.size w w.drew := below_drewN (Below.refl _ _) 1
theorem rangeBel2 {w w' : World} {g o : Nat} {l : List Value} (hb : Below w.heap.size w w') (h : w.rangeAt g o l) : w'.rangeAt g o l := rangeAt_kept h (hb.block g)
section
variable {P : Program}
theorem yieldsIf_build {ops : Array Oper} {S : World → Prop} {op : Oper} {a : Act} (hw : Region.wanted op (yielded ops a.tmps) = true) (t : TypeId) (parts : Array (Nat × Operand)) (ho : op.op = .build t parts)
    (cells : Array Value) (vs : List (Nat × Value)) (h : P.built t vs = some cells) (hv : parts.toList.map (fun (i, x) => (i, a.eval x)) = vs) : YieldsIf P ops S op (.agg cells) a :=
  .inl ⟨hw, fun w hw' => by
    replace h : P.built t (parts.map fun (i, x) => (i, a.eval x)).toList = some cells := by rw [Array.toList_map, hv]; exact h
    unfold execOp
    simp only [ho, Sem.run_bind, run_build w t _ cells h, Result.andThen_ok, Sem.run_pure]⟩

theorem wpList_built {ops : Array Oper} {rest : List Oper} {o : Oper} {a : Act} {w : World} {Q : Exit → Act → World → Prop} (hw : Region.wanted o (yielded ops a.tmps) = true) (t : TypeId) (parts : Array (Nat × Operand)) (ho : o.op = .build t parts)
    (cells : Array Value) (vs : List (Nat × Value)) (h : P.built t vs = some cells) (hv : parts.toList.map (fun (i, x) => (i, a.eval x)) = vs) (hK : wpList P ops Q rest (a.put o.dst (.agg cells)) w) : wpList P ops Q (o :: rest) a w :=
  wpList_step fun _ hK2 => by
    replace h : P.built t (parts.map fun (i, x) => (i, a.eval x)).toList = some cells := by rw [Array.toList_map, hv]; exact h
    rw [if_pos hw]
    unfold Oper.wp execOp
    simp only [ho, Sem.run_bind, run_build w t _ cells h, Result.andThen_ok, Sem.run_pure]
    exact hK2 _ _ hK

/-- Parts laid in their places: each over what stands there. -/
def lay (cs : List Value) (off : Nat) (vs : List Value) : List Value := cs.take off ++ vs ++ cs.drop (off + vs.length)
theorem foldl_lay (off : Nat) : ∀ (vs : List Value) (s : Nat) (cs : Array Value), off + s + vs.length ≤ cs.size → ((vs.zipIdx s).foldl (fun cs (c, j) => cs.setIfInBounds (off + j) c) cs).toList = lay cs.toList (off + s) vs
  | [], s, cs, h => by simp [lay]
  | v :: vs, s, cs, h => by
    simp only [List.length_cons] at h
    rw [List.zipIdx_cons, List.foldl_cons]
    have ih := foldl_lay off vs (s + 1) (cs.setIfInBounds (off + s) v) (by rw [Array.size_setIfInBounds]; omega)
    rw [ih]
    simp only [lay, Array.toList_setIfInBounds, List.length_cons]
    have hl : off + s < cs.toList.length := by rw [Array.length_toList]; omega
    rw [show off + (s + 1) = off + s + 1 by omega]
    have e1 : (cs.toList.set (off + s) v).take (off + s + 1) = cs.toList.take (off + s) ++ [v] := by
      rw [List.take_set, List.take_succ_eq_append_getElem hl, List.set_append_right _ _ (by simp; omega)]
      rw [show off + s - (cs.toList.take (off + s)).length = 0 by rw [List.length_take]; omega]
      rfl
    have e2 : (cs.toList.set (off + s) v).drop (off + s + 1 + vs.length) = cs.toList.drop (off + s + (vs.length + 1)) := by
      rw [List.drop_set_of_lt (by omega)]
      congr 1; omega
    rw [e1, e2]
    simp
theorem fill_cons {place : Nat → Option (Nat × Nat)} {cells : Array Value} {i off : Nat} {v : Value} {rest : List (Nat × Value)} (hp : place i = some (off, v.cells.size)) (hl : off + v.cells.size ≤ cells.size) :
    Instr.fill place cells ((i, v) :: rest) = Instr.fill place (lay cells.toList off v.cells.toList).toArray rest := by
  rw [Instr.fill, hp]
  simp only
  rw [if_neg (by simp; omega)]
  congr 1
  apply Array.ext'
  have h := foldl_lay off v.cells.toList 0 cells (by simpa using hl)
  have e : v.cells.zipIdx = (v.cells.toList.zipIdx 0).toArray := by
    apply Array.ext'
    simp
  rw [e, ← Array.foldl_toList]
  simpa using h
end

/-- A whole row loaded, wherever it lies. -/
theorem wpList_load_rng {P : Program} {ops : Array Oper} {rest : List Oper} {o : Oper} {a : Act} {w : World} {Q : Exit → Act → World → Prop} (hw : Region.wanted o (yielded ops a.tmps) = true) (ty : TypeId) (x : Operand) (ho : o.op = .load ty x)
    (b i : Nat) (hx : a.eval x = .pointer (some ⟨b, i, none⟩)) (cs : List Value) (d : TypeDesc) (hS : w.rangeAt b i cs)
    (hu : P.underlying ty = some d) (hd : d.isRow = true) (hi : (P.info? ty).map (·.size) = some cs.length)
    (h : wpList P ops Q rest (a.put o.dst (.agg cs.toArray)) w) : wpList P ops Q (o :: rest) a w :=
  wpList_step fun K hK => by
    rw [if_pos hw]
    unfold Oper.wp execOp
    simp only [ho, hx, Instr.loadAt, Instr.sureAddr, Sem.run_bind, Sem.run_pure, Result.andThen_ok, run_loadVar_mid w b i ty cs d hS hu hd hi]
    exact hK _ _ h

/-- A slice of one thing, just laid. -/
theorem run_buildOne {P : Program} {α : Type} [Enc α] {S E : TypeId} {z : Value} {bytes : Nat} (hS : Slot P α S E z bytes) (hsm : Enc.size α ≤ 16777216) (cs : List Value) (hcs : cs.length = Enc.size α) (v : Value) (hv : v.cells = cs.toArray) (w : World) :
    (Instr.buildSlice S 1 #[(0, v)]).run P w = .ok (.slice (some ⟨w.heap.size, 0, none⟩) 1 1) (w.alloc (.cells cs.toArray E)) := by
  obtain ⟨i, hi, hz, hsz, hby⟩ := info_parts hS.info
  have hsv : v.cells.size = Enc.size α := by rw [hv, List.size_toArray, hcs]
  have hpos := hS.pos
  refine run_buildSlice w S E 1 #[(0, v)] _ i z hS.under hi hz (by omega) (by omega) ?_
  rw [show (#[(0, v)] : Array (Nat × Value)).toList = [(0, v)] from rfl, fill_cons (off := 0) (by simp [hsv, hsz]) (by simp; omega)]
  rw [Instr.fill, hv]
  congr 2
  simp only [lay, List.take_zero, List.nil_append, Array.toList_map, Array.toList_range]
  rw [List.drop_of_length_le (by simp; omega)]
  simp
theorem wp_buildOne {P : Program} {α : Type} [Enc α] {S E : TypeId} {z : Value} {bytes : Nat} (hS : Slot P α S E z bytes) (hsm : Enc.size α ≤ 16777216) {w : World} {o : Oper} {a : Act} {K : Act → World → Prop} {Q : Exit → Act → World → Prop}
    (x : Operand) (hop : o.op = .buildSlice S 1 #[(0, x)]) (cs : List Value) (hx : (a.eval x).cells = cs.toArray) (hcs : cs.length = Enc.size α)
    (hK : K (a.put o.dst (.slice (some ⟨w.heap.size, 0, none⟩) 1 1)) (w.alloc (.cells cs.toArray E))) : o.wp P a w K Q := by
  unfold Oper.wp execOp
  simp only [hop, List.map_toArray, List.map_cons, List.map_nil, Sem.run_bind, run_buildOne hS hsm cs hcs _ hx w, Result.andThen_ok]
  exact hK
theorem step_buildOne {P : Program} {α : Type} [Enc α] {S E : TypeId} {z : Value} {bytes : Nat} (hS : Slot P α S E z bytes) (hsm : Enc.size α ≤ 16777216) {w : World} {ops : Array Oper} {o : Oper} {a : Act} {K : Act → World → Prop} {Q : Exit → Act → World → Prop} {X : Prop} (hg : o.guard = none)
    (x : Operand) (hop : o.op = .buildSlice S 1 #[(0, x)]) (cs : List Value) (hx : (a.eval x).cells = cs.toArray) (hcs : cs.length = Enc.size α)
    (hK : K (a.put o.dst (.slice (some ⟨w.heap.size, 0, none⟩) 1 1)) (w.alloc (.cells cs.toArray E))) : if Region.wanted o (yielded ops a.tmps) = true then Oper.wp P o a w K Q else X := by
  have hw : Region.wanted o (yielded ops a.tmps) = true := by simp [Region.wanted, hg]
  rw [if_pos hw]
  exact wp_buildOne hS hsm x hop cs hx hcs hK
theorem wpList_buildOne {P : Program} {α : Type} [Enc α] {S E : TypeId} {z : Value} {bytes : Nat} (hS : Slot P α S E z bytes) (hsm : Enc.size α ≤ 16777216) {w : World} {ops : Array Oper} {rest : List Oper} {o : Oper} {a : Act} {Q : Exit → Act → World → Prop} (hg : Region.wanted o (yielded ops a.tmps) = true)
    (x : Operand) (hop : o.op = .buildSlice S 1 #[(0, x)]) (cs : List Value) (hx : (a.eval x).cells = cs.toArray) (hcs : cs.length = Enc.size α)
    (hK : wpList P ops Q rest (a.put o.dst (.slice (some ⟨w.heap.size, 0, none⟩) 1 1)) (w.alloc (.cells cs.toArray E))) : wpList P ops Q (o :: rest) a w :=
  wpList_step fun _ hK2 => by
    rw [if_pos hg]
    exact wp_buildOne hS hsm x hop cs hx hcs (hK2 _ _ hK)
theorem src_alloc {α : Type} [Enc α] {F : Nat → Prop} {w : World} {x : α} {cs : List Value} {E : TypeId} (h : Enc.rep F w x cs) : Src F (w.alloc (.cells cs.toArray E)) (some ⟨w.heap.size, 0, none⟩) [x] := fun _ => by
  refine ⟨w.heap.size, 0, rfl, fun j y hy => ?_⟩
  rcases j with _ | j
  · simp at hy
    subst hy
    refine ⟨cs, Enc.bel h (ext_alloc _ _), fun i v hv => ?_⟩
    rw [cell_of_row _ w.heap.size _ cs.toArray E (0, 0) (heap_alloc_new w _)]
    simpa using hv
  · simp at hy
end Go.Proofs.Ytiogdenlaelkbaa
