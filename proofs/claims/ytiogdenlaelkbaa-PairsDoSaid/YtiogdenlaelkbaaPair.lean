/-
  Pairs in memory: a key's 32 bytes, then a slice: 33 cells. No program is named here.
-/
import Derived.Test.YtiogdenlaelkbaaEnc
namespace Go.Proofs.Ytiogdenlaelkbaa
open Go.RowKit
set_option linter.unusedVariables false

structure Pr where
  k : Dg
  v : List UInt8
  deriving DecidableEq
instance : Enc Pr := Enc.by_ fun p => (p.k, p.v)
theorem size_pr : Enc.size Pr = 33 := rfl

theorem rep_pr {F : Nat → Prop} {w : World} {p : Pr} {vs : List Value} (h : Enc.rep F w p vs) : ∃ A c, vs = p.k.1.map bv ++ [.slice A p.v.length c] ∧ p.v.length ≤ c ∧ c ≤ maxLen ∧ Row F w A p.v := by
  obtain ⟨us, ts, rfl, h1, A, c, rfl, h2⟩ := h
  have h1 : us = p.k.1.map bv := h1
  subst h1
  exact ⟨A, c, rfl, h2⟩
theorem rep_pr_mk {F : Nat → Prop} {w : World} (k : Dg) (v : List UInt8) (A : Option Addr) (c : Nat) (h1 : v.length ≤ c) (h2 : c ≤ maxLen) (h3 : Row F w A v) : Enc.rep F w (⟨k, v⟩ : Pr) (k.1.map bv ++ [.slice A v.length c]) :=
  ⟨_, _, rfl, rfl, A, c, rfl, h1, h2, h3⟩

/-- A pair whose value is the call's own. -/
theorem rep_pr_own {E : TypeId} {w : World} {B : Nat} {k : Dg} {v : List UInt8} {A : Option Addr} {c : Nat} (h : Own E w B A c v) : Enc.rep (fun b => ∃ a, A = some a ∧ b = a.block) w (⟨k, v⟩ : Pr) (k.1.map bv ++ [.slice A v.length c]) :=
  rep_pr_mk k v A c h.cap.1 h.cap.2 (h.rd.row fun a ha _ => ⟨a, ha, rfl⟩)
theorem len_pr (k : Dg) (x : Value) : (k.1.map bv ++ [x]).length = Enc.size Pr := by rw [List.length_append, List.length_map, k.2]; rfl
/-- The j-th pair of a row: its key's cells, its value's. -/
theorem cells_pr {F : Nat → Prop} {w : World} {b o : Nat} {ps : List Pr} (h : Cells F w b o ps) {j : Nat} (hj : j < ps.length) :
    w.rangeAt b (o + j * 33) (ps[j].k.1.map bv) ∧ ∃ A c, w.cell? ⟨b, o + j * 33 + 32, none⟩ = some (.slice A ps[j].v.length c) ∧ w.rangeAt b (o + j * 33) (ps[j].k.1.map bv ++ [.slice A ps[j].v.length c]) ∧ ps[j].v.length ≤ c ∧ c ≤ maxLen ∧ Row F w A ps[j].v := by
  obtain ⟨vs, h1, h2⟩ := h j _ (List.getElem?_eq_getElem hj)
  obtain ⟨A, c, rfl, h3, h4, h5⟩ := rep_pr h1
  rw [size_pr] at h2
  have hl : (ps[j].k.1.map bv).length = 32 := by rw [List.length_map]; exact ps[j].k.2
  refine ⟨fun i v hv => h2 i v ?_, A, c, ?_, h2, h3, h4, h5⟩
  · rw [List.getElem?_append_left (List.getElem?_eq_some_iff.1 hv).1]; exact hv
  · exact h2 32 _ (by rw [List.getElem?_append_right (by omega), hl]; rfl)
theorem row_pr {F : Nat → Prop} {w : World} {A : Option Addr} {ps : List Pr} (h : Row F w A ps) {j : Nat} (hj : j < ps.length) :
    ∃ b o, A = some ⟨b, o, none⟩ ∧ w.rangeAt b (o + j * 33) (ps[j].k.1.map bv) ∧ ∃ A' c', w.cell? ⟨b, o + j * 33 + 32, none⟩ = some (.slice A' ps[j].v.length c') ∧ w.rangeAt b (o + j * 33) (ps[j].k.1.map bv ++ [.slice A' ps[j].v.length c']) ∧ ps[j].v.length ≤ c' ∧ c' ≤ maxLen ∧ Row F w A' ps[j].v := by
  obtain ⟨b, o, rfl, _, _, h3⟩ := h (by omega)
  exact ⟨b, o, rfl, cells_pr h3 hj⟩

/-- Are pairs more than statements go through? -/
def greatP (ps : List Pr) (n : Nat) : Bool := decide (n < ps.length) || ps.any fun p => decide (100 < p.v.length)
end Go.Proofs.Ytiogdenlaelkbaa
