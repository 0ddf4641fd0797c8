/-
  Cuts of slices, as values that no simp lays open. No program is named here.
-/
import Derived.Test.YtiogdenlaelkbaaRegs
import Derived.Laws.Slices
namespace Go.Proofs.Ytiogdenlaelkbaa
open Go.RowKit
set_option linter.unusedVariables false

/-- Where 'x[k:]' begins: the model's word. -/
def cutA (A : Option Addr) (c k s : Nat) : Option Addr := if c = k then A else A.map (·.add (k * s))
theorem Src.cutA {α : Type} [Enc α] {F : Nat → Prop} {w : World} {A : Option Addr} {xs : List α} (h : Src F w A xs) (k c : Nat) (hk : k ≤ xs.length) (hc : xs.length ≤ c) : Src F w (cutA A c k (Enc.size α)) (xs.drop k) := h.cut k c hk hc
theorem Row.cutA {α : Type} [Enc α] {F : Nat → Prop} {w : World} {A : Option Addr} {xs : List α} (h : Row F w A xs) (k c : Nat) (hk : k ≤ xs.length) (hc : xs.length ≤ c) : Row F w (cutA A c k (Enc.size α)) (xs.drop k) := h.cut k c hk hc
theorem Src.mono {α : Type} [Enc α] {F G : Nat → Prop} {w : World} {A : Option Addr} {xs : List α} (h : Src F w A xs) (hG : ∀ b, F b → b < w.heap.size → G b) : Src G w A xs := fun hn => by
  obtain ⟨b, o, hA, hc⟩ := h hn
  exact ⟨b, o, hA, hc.mono hG⟩

section
variable {P : Program} {α : Type} [Enc α] {S E : TypeId} {z : Value} {bytes : Nat}
theorem size_slot (h : Slot P α S E z bytes) (w : World) : (sizeOf E).run P w = .ok (Enc.size α) w := by
  obtain ⟨i, hi, _, hsz, _⟩ := info_parts h.info
  simp [sizeOf, typeInfo, hi, hsz]
theorem elem_slot (h : Slot P α S E z bytes) : P.elem S = E := by simp [Program.elem, h.under]
theorem run_from (h : Slot P α S E z bytes) (A : Option Addr) (n c k : Nat) (hk : k ≤ n) (w : World) :
    (Instr.sliceAt S (.slice A n c) (some (.int .i64 (k : Int))) none none).run P w = .ok (.slice (cutA A c k (Enc.size α)) (n - k) (c - k)) w := by
  have he : P.underlying S = some (.slice (P.elem S)) := by rw [elem_slot h]; exact h.under
  rw [run_sliceAt_slice w S _ _ _ _ he, run_slice_l w S A n c he .i64 (k : Int) (by omega) (by omega), elem_slot h, size_slot h]
  rfl
theorem run_upto (h : Slot P α S E z bytes) (A : Option Addr) (n c k : Nat) (hk : k ≤ c) (w : World) :
    (Instr.sliceAt S (.slice A n c) none (some (.int .i64 (k : Int))) none).run P w = .ok (.slice A k c) w := by
  have he : P.underlying S = some (.slice (P.elem S)) := by rw [elem_slot h]; exact h.under
  rw [run_sliceAt_slice w S _ _ _ _ he, run_slice_h w S A n c he .i64 (k : Int) (by omega) (by omega), elem_slot h, size_slot h]
  have e : (if c = 0 then A else A.map (·.add (0 * Enc.size α))) = A := by
    split
    · rfl
    · rcases A with _ | a
      · rfl
      · simp [Addr.add]
  simp only [Result.andThen, sliced, e]
  simp
theorem yieldsIf_slice {ops : Array Oper} {Q : World → Prop} {o : Oper} {a : Act} (hw : Region.wanted o (yielded ops a.tmps) = true) (t : TypeId) (x : Operand) (lo hi mx : Option Operand) (ho : o.op = .slice t x lo hi mx)
    (X : Value) (L H M : Option Value) (V : Value) (hrun : ∀ w, (Instr.sliceAt t X L H M).run P w = .ok V w) (hx : a.eval x = X) (hl : lo.map a.eval = L) (hh : hi.map a.eval = H) (hm : mx.map a.eval = M) : YieldsIf P ops Q o V a :=
  .inl ⟨hw, fun w _ => by
    subst hx hl hh hm
    unfold execOp
    simp only [ho, Sem.run_bind, hrun w, Result.andThen_ok, Sem.run_pure]⟩
theorem wpList_slice {w : World} {ops : Array Oper} {rest : List Oper} {o : Oper} {a : Act} {Q : Exit → Act → World → Prop} (hw : Region.wanted o (yielded ops a.tmps) = true) (t : TypeId) (x : Operand) (lo hi mx : Option Operand) (ho : o.op = .slice t x lo hi mx)
    (X : Value) (L H M : Option Value) (V : Value) (hrun : ∀ w, (Instr.sliceAt t X L H M).run P w = .ok V w) (hx : a.eval x = X) (hl : lo.map a.eval = L) (hh : hi.map a.eval = H) (hm : mx.map a.eval = M)
    (hK : wpList P ops Q rest (a.put o.dst V) w) : wpList P ops Q (o :: rest) a w :=
  wpList_step fun _ hK2 => by
    subst hx hl hh hm
    rw [if_pos hw]
    unfold Oper.wp execOp
    simp only [ho, Sem.run_bind, hrun w, Result.andThen_ok, Sem.run_pure]
    exact hK2 _ _ hK
end

/-! ### literals of several things -/
theorem run_buildAll {P : Program} {α : Type} [Enc α] {S E : TypeId} {z : Value} {bytes : Nat} (hS : Slot P α S E z bytes) (n : Nat) (css : List (List Value)) (hn : css.length = n) (h0 : 0 < n) (hsm : n * Enc.size α ≤ 16777216) (hl : ∀ cs ∈ css, cs.length = Enc.size α)
    (vs : List Value) (hvs : vs.map (·.cells) = css.map (·.toArray)) (w : World) :
    (Instr.buildSlice S n ((vs.zipIdx 0).map fun x => (x.2, x.1)).toArray).run P w = .ok (.slice (some ⟨w.heap.size, 0, none⟩) n n) (w.alloc (.cells css.flatten.toArray E)) := by
  obtain ⟨i, hi, hz, hsz, hby⟩ := info_parts hS.info
  have hpos := hS.pos
  have hlen : vs.length = n := by have := congrArg List.length hvs; simp at this; omega
  have hcell : ∀ v ∈ vs, v.cells.size = i.size := by
    intro v hv
    have : v.cells ∈ css.map (·.toArray) := by rw [← hvs]; exact List.mem_map_of_mem hv
    obtain ⟨cs, h1, h2⟩ := List.mem_map.1 this
    rw [← h2, List.size_toArray, hl cs h1, hsz]
  have hnz : n * i.size ≠ 0 := by
    have := Nat.mul_pos h0 hpos
    rw [hsz]; omega
  refine run_buildSlice w S E n _ _ i z hS.under hi hz (by rw [hsz]; omega) hnz ?_
  rw [show (((vs.zipIdx 0).map fun x => (x.2, x.1)).toArray).toList = (vs.zipIdx 0).map fun x => (x.2, x.1) from rfl]
  rw [Great.fill_whole (s := i.size) (by rw [hsz]; exact hpos) vs _ hcell (by simp [hlen])]
  congr 2
  have : vs.flatMap (fun v => v.cells.toList) = ((vs.map (·.cells)).map (·.toList)).flatten := by rw [List.map_map]; rfl
  rw [this, hvs, List.map_map]
  have e : ∀ r : List (List Value), r.map ((fun x : Array Value => x.toList) ∘ fun x => x.toArray) = r := fun r => by
    induction r with
    | nil => rfl
    | cons c r ih => rw [List.map_cons, ih]; rfl
  rw [e]
theorem wpList_buildAll {P : Program} {α : Type} [Enc α] {S E : TypeId} {z : Value} {bytes : Nat} (hS : Slot P α S E z bytes) {w : World} {ops : Array Oper} {rest : List Oper} {o : Oper} {a : Act} {Q : Exit → Act → World → Prop} (hg : Region.wanted o (yielded ops a.tmps) = true)
    (n : Nat) (parts : Array (Nat × Operand)) (hop : o.op = .buildSlice S n parts) (css : List (List Value)) (hn : css.length = n) (h0 : 0 < n) (hsm : n * Enc.size α ≤ 16777216) (hl : ∀ cs ∈ css, cs.length = Enc.size α)
    (hp : parts.toList.map (fun (i, x) => (i, a.eval x)) = ((css.map fun cs => Value.agg cs.toArray).zipIdx 0).map fun x => (x.2, x.1))
    (hK : wpList P ops Q rest (a.put o.dst (.slice (some ⟨w.heap.size, 0, none⟩) n n)) (w.alloc (.cells css.flatten.toArray E))) : wpList P ops Q (o :: rest) a w :=
  wpList_step fun _ hK2 => by
    rw [if_pos hg]
    have he : (parts.map fun (i, x) => (i, a.eval x)) = (((css.map fun cs => Value.agg cs.toArray).zipIdx 0).map fun x => (x.2, x.1)).toArray := by
      apply Array.ext'
      rw [Array.toList_map, hp]
    unfold Oper.wp execOp
    simp only [hop, he, Sem.run_bind, run_buildAll hS n css hn h0 hsm hl (css.map fun cs => Value.agg cs.toArray) (by rw [List.map_map]; rfl) w, Result.andThen_ok]
    exact hK2 _ _ hK
theorem cells_all {α : Type} [Enc α] {F : Nat → Prop} {w : World} {xs : List α} {css : List (List Value)} {E : TypeId} (h1 : css.length = xs.length) (h3 : ∀ (j : Nat) (x : α) (vs : List Value), xs[j]? = some x → css[j]? = some vs → Enc.rep F w x vs) :
    Cells F (w.alloc (.cells css.flatten.toArray E)) w.heap.size 0 xs := fun j x hx => by
  have hj := (List.getElem?_eq_some_iff.1 hx).1
  have hcj : css[j]? = some (css[j]'(by omega)) := List.getElem?_eq_getElem (by omega)
  have hr := h3 j x _ hx hcj
  refine ⟨_, Enc.bel hr (ext_alloc _ _), fun i v hv => ?_⟩
  have hi : i < Enc.size α := by rw [← Enc.len hr]; exact (List.getElem?_eq_some_iff.1 hv).1
  have hfl := flatten_at (rep_lens h1 h3) hcj hi
  rw [cell_of_row _ w.heap.size _ css.flatten.toArray E (0, 0) (heap_alloc_new w _), Nat.zero_add, List.getElem?_toArray, hfl, hv]
/-- A literal of things, just laid: it reads so. -/
theorem row_all {α : Type} [Enc α] {F : Nat → Prop} {w : World} {xs : List α} {css : List (List Value)} {E : TypeId} (h1 : css.length = xs.length) (h3 : ∀ (j : Nat) (x : α) (vs : List Value), xs[j]? = some x → css[j]? = some vs → Enc.rep F w x vs) :
    Row (fun b => b < w.heap.size + 1) (w.alloc (.cells css.flatten.toArray E)) (some ⟨w.heap.size, 0, none⟩) xs := fun _ =>
  ⟨w.heap.size, 0, rfl, Nat.lt_succ_self _, by simp, cells_all h1 fun j x vs hx hv => Enc.mono (h3 j x vs hx hv) fun b _ hl => Nat.lt_succ_of_lt hl⟩

/-- Slices in a new block. -/
def slvR {α : Type} (x : (Option Addr × Nat) × List α) : Value := .slice x.1.1 x.2.length x.1.2
theorem cells_slices {α : Type} (l : List ((Option Addr × Nat) × List α)) (w : World) (t : TypeId) (cs : Array Value) (h : cs = (l.map slvR).toArray) : ∀ j x, l[j]? = some x → (w.alloc (.cells cs t)).cell? ⟨w.heap.size, j, none⟩ = some (.slice x.1.1 x.2.length x.1.2) := fun j x hx => by
  subst h
  rw [cell_of_row _ w.heap.size j _ t (0, 0) (heap_alloc_new w _), List.getElem?_toArray, List.getElem?_map, hx]
  rfl
end Go.Proofs.Ytiogdenlaelkbaa
