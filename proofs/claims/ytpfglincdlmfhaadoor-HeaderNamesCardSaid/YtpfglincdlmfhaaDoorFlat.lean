/-
  Structs whose cells are the cells of their fields, one behind the other: built, read, set, compared. No program is named here.
-/
import Derived.Test.YtpfglincdlmfhaaDoorTrN
import Derived.Test.YtpfglincdlmfhaaDoorEqS
namespace Go.Proofs.YtpfglincdlmfhaaDoor
open Go.RowKit
set_option linter.unusedVariables false

/-! ### built -/
def partsFrom : Nat → List Value → List (Nat × Value)
  | _, [] => []
  | k, v :: r => (k, v) :: partsFrom (k + 1) r
/-- Where fields stand, and how long they are. -/
def FitsAt (place : Nat → Option (Nat × Nat)) : Nat → Nat → List (List Value) → List Value → Prop
  | _, _, [], [] => True
  | k, off, z :: zs, v :: vs => place k = some (off, z.length) ∧ v.cells.size = z.length ∧ FitsAt place (k + 1) (off + z.length) zs vs
  | _, _, _, _ => False
theorem fill_all {place : Nat → Option (Nat × Nat)} : ∀ (zs : List (List Value)) (vs : List Value) (k : Nat) (pre : List Value), FitsAt place k pre.length zs vs →
    Instr.fill place (pre ++ zs.flatten).toArray (partsFrom k vs) = some (pre ++ (vs.map fun v => v.cells.toList).flatten).toArray
  | [], [], k, pre, _ => by simp [partsFrom, Instr.fill]
  | z :: zs, v :: vs, k, pre, h => by
    obtain ⟨h1, h2, h3⟩ := h
    have hv : v.cells.toList.length = z.length := by rw [Array.length_toList, h2]
    have ih := fill_all zs vs (k + 1) (pre ++ v.cells.toList) (by rw [List.length_append, hv]; exact h3)
    have hl := lay_mid pre z zs.flatten v.cells.toList hv
    show Instr.fill place (pre ++ (z :: zs).flatten).toArray ((k, v) :: partsFrom (k + 1) vs) = _
    rw [fill_cons (off := pre.length) (by rw [h1, h2]) (by rw [h2]; simp)]
    simp only [List.flatten_cons]
    rw [hl, ← List.append_assoc, ih]
    simp
  | [], _ :: _, _, _, h => h.elim
  | _ :: _, [], _, _, h => h.elim

/-! ### read and set -/
theorem range_seg {W : World} {g : Nat} : ∀ (segs : List (List Value)) (o i : Nat) (hi : i < segs.length), W.rangeAt g o segs.flatten → W.rangeAt g (o + ((segs.take i).flatten).length) segs[i]
  | s :: segs, o, 0, hi, h => by
    intro j v hv
    have hv : s[j]? = some v := hv
    have := h j v (by rw [List.flatten_cons, List.getElem?_append_left (List.getElem?_eq_some_iff.1 hv).1]; exact hv)
    simpa using this
  | s :: segs, o, i + 1, hi, h => by
    have h2 : W.rangeAt g (o + s.length) segs.flatten := fun j v hv => by
      have := h (s.length + j) v (by rw [List.flatten_cons, List.getElem?_append_right (by omega), Nat.add_sub_cancel_left]; exact hv)
      rw [Nat.add_assoc]
      exact this
    have ih := range_seg segs (o + s.length) i (Nat.lt_of_succ_lt_succ hi) h2
    simp only [List.take_succ_cons, List.flatten_cons, List.length_append, List.getElem_cons_succ]
    rw [← Nat.add_assoc]
    exact ih
  | [], _, _, hi, _ => absurd hi (by simp)
theorem setA_seg (a b c vs : List Value) (h : vs.length = b.length) : setA (a ++ (b ++ c)).toArray a.length vs = (a ++ (vs ++ c)).toArray := by
  have h1 := setA_lay vs a.length (a ++ (b ++ c)).toArray (by simp; omega)
  rw [List.toList_toArray, lay_mid a b c vs h] at h1
  rw [← h1]

/-! ### compared -/
def FitsK (P : Program) (d : Nat) : List Field → Nat → List (List Value) → List (List Lit) → Prop
  | [], _, [], [] => True
  | f :: fs, off, s :: segs, l :: lits => f.offset = off ∧ P.cellsOf f.type = s.length ∧ P.keyLits d f.type s = some l ∧ FitsK P d fs (off + s.length) segs lits
  | _, _, _, _ => False
theorem keyLits_all {P : Program} {d : Nat} : ∀ (fs : List Field) (pre : List Value) (segs : List (List Value)) (lits : List (List Lit)), FitsK P d fs pre.length segs lits →
    (fs.mapM fun f => P.keyLits d f.type (((pre ++ segs.flatten).drop f.offset).take (P.cellsOf f.type))) = some lits
  | [], pre, [], [], _ => rfl
  | f :: fs, pre, s :: segs, l :: lits, h => by
    obtain ⟨h1, h2, h3, h4⟩ := h
    have ih := keyLits_all fs (pre ++ s) segs lits (by rw [List.length_append]; exact h4)
    rw [List.append_assoc] at ih
    rw [List.mapM_cons, List.flatten_cons, ih, h1, h2, List.drop_left, List.take_left, h3]
    rfl
  | [], _, _ :: _, _, h => h.elim
  | [], _, [], _ :: _, h => h.elim
  | _ :: _, _, [], _, h => h.elim
  | _ :: _, _, _ :: _, [], h => h.elim
theorem keyLits_flat {P : Program} {t : TypeId} {fs : Array Field} (ht : P.underlying t = some (.struct fs)) (d : Nat) (segs : List (List Value)) (lits : List (List Lit)) (hl : segs.flatten.length = P.cellsOf t) (hn : fs.all (·.name != "_") = true) (h : FitsK P d fs.toList 0 segs lits) :
    P.keyLits (d + 1) t segs.flatten = some lits.flatten := by
  rw [keyLits_struct ht d _ hl hn]
  have := keyLits_all fs.toList [] segs lits h
  rw [List.nil_append] at this
  rw [this]
  rfl
theorem eq_flat {P : Program} {t : TypeId} {fs : Array Field} (ht : P.underlying t = some (.struct fs)) (m : Nat) (hk : P.keyTypeAt m t = true) (hm : m ≤ 10000) (d : Nat) (s1 s2 : List (List Value)) (l1 l2 : List (List Lit)) (h1 : s1.flatten.length = P.cellsOf t) (h2 : s2.flatten.length = P.cellsOf t) (hn : fs.all (·.name != "_") = true)
    (f1 : FitsK P d fs.toList 0 s1 l1) (f2 : FitsK P d fs.toList 0 s2 l2) (b : Bool) (h : b = true ↔ l1.flatten = l2.flatten) (w : World) :
    (Op.equalIn 10000 t (.agg s1.flatten.toArray) (.agg s2.flatten.toArray)).run P w = .ok b w := by
  have hf : ∀ s : List (List Value), s.flatten.length = P.cellsOf t → (Value.agg s.flatten.toArray).formed P t = true := fun s hs => by
    simp only [Value.formed, ht]
    simp [hs]
  exact eq_lits m hk hm (hf s1 h1) (hf s2 h2) (keyLits_flat ht d s1 l1 h1 hn f1) (keyLits_flat ht d s2 l2 h2 hn f2) b h w
end Go.Proofs.YtpfglincdlmfhaaDoor
