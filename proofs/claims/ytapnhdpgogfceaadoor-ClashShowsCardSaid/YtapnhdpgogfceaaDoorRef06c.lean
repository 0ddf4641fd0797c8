/-
  The document's answers of layer 6: Twin, SameDigests.
-/
import Derived.Test.YtapnhdpgogfceaaDoorRef06a
import Derived.Test.YtapnhdpgogfceaaDoorBits
import Derived.Test.YtapnhdpgogfceaaDoorMem
namespace Go.Proofs.YtapnhdpgogfceaaDoor
open Go.RowKit
set_option linter.unusedVariables false
set_option linter.unusedSimpArgs false
set_option maxRecDepth 100000

theorem OwnQ.keptG {α : Type} [Enc α] {E : TypeId} {w w' : World} {B0 B g : Nat} {A : Option Addr} {c : Nat} {xs : List α} (h : OwnQ E w B0 B A c xs) (hk : ∀ b, b < w.heap.size → b ≠ g → w'.heap[b]? = w.heap[b]?) (h0 : g < B0) (h1 : g < B) : OwnQ E w' B0 B A c xs := by
  have hb := h.blk
  obtain ⟨F, k1, k2⟩ := h
  exact ⟨F, k1.kept (fun a ha hl => hk _ hl fun e => by have := (hb a ha).1; omega) (fun b hf hl => hk b hl fun e => by have := (k2 b hf).1; omega), fun b hf => ⟨(k2 b hf).1, (k2 b hf).2.kept (hk b (k2 b hf).2.lt fun e => by have := (k2 b hf).1; omega)⟩⟩
theorem rep_nd_own {E : TypeId} {w : World} {B : Nat} (x : Nd) {A : Option Addr} {c : Nat} (h : Own E w B A c x.v) (hl : I64 x.l) (hr : I64 x.r) : Enc.rep (fun b => ∃ a, A = some a ∧ b = a.block) w x (ndC x A c) :=
  rep_nd_mk x A c h.cap.1 h.cap.2 (h.rd.row fun a ha _ => ⟨a, ha, rfl⟩) hl hr
theorem nd_setR (x : Nd) (A A2 : Option Addr) (c c2 : Nat) : (ndC x A c).toArray.setIfInBounds 33 (.slice A2 x.v.length c2) = (ndC x A2 c2).toArray := by
  apply Array.ext'
  have hl : (x.k.1.map bv).length = 32 := by rw [List.length_map]; exact x.k.2
  simp only [Array.toList_setIfInBounds, ndC, List.cons_append, List.nil_append, List.set_cons_succ]
  rw [List.set_append_right _ _ (by omega), hl]
  rfl
theorem built_tr (root : Int) : Tryd.prog.built 34 [(1, .int .i64 root)] = some #[Value.slice none 0 0, .int .i64 root] := by kernel_rfl
theorem one_tr (A : Option Addr) (n c : Nat) (root : Int) : (#[Value.slice A n c, .int .i64 root] : Array Value).all (·.oneCell') = true := all_oneCell_toArray (cs := [Value.slice A n c, .int .i64 root]) fun u hu => by
  simp at hu
  rcases hu with rfl | rfl <;> rfl

theorem take_eq_succD {ps qs : List Dg} {j : Nat} (h1 : j < ps.length) (h2 : j < qs.length) (h : ps.take j = qs.take j) : ps.take (j + 1) = qs.take (j + 1) ↔ ps[j] = qs[j] := by
  rw [List.take_succ_eq_append_getElem h1, List.take_succ_eq_append_getElem h2, h]
  exact ⟨fun e => by have := List.append_cancel_left e; simpa using this, fun e => by rw [e]⟩
theorem row_dg {F : Nat → Prop} {w : World} {A : Option Addr} {xs : List Dg} (h : Row F w A xs) {j : Nat} (hj : j < xs.length) : ∃ b o, A = some ⟨b, o, none⟩ ∧ w.rangeAt b (o + j * 32) (xs[j].1.map bv) := by
  obtain ⟨b, o, rfl, _, _, h3⟩ := h (by omega)
  obtain ⟨vs, h1, h2⟩ := h3 j _ (List.getElem?_eq_getElem hj)
  have h1 : vs = xs[j].1.map bv := h1
  subst h1
  exact ⟨b, o, rfl, h2⟩
end Go.Proofs.YtapnhdpgogfceaaDoor
