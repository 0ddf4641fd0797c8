/-
  Texts laid together: Ref05a, Ref05n, Ref05e.
-/
import Derived.Test.YtgmlmkhiflnhdaaDoorBits
import Derived.Test.YtgmlmkhiflnhdaaDoorMem
import Derived.Test.YtgmlmkhiflnhdaaDoorPlain
import Derived.IntWalk
set_option maxRecDepth 100000
/- (Ref05a)
  The document's answers of layer 5: Great, Value.
-/
namespace Go.Proofs.YtgmlmkhiflnhdaaDoor
open Go.RowKit
set_option linter.unusedVariables false

theorem ret_b {a b : Bool} (h : a = b) : Ending.returned (.bool a) = .returned (.bool b) := by rw [h]
theorem ret_i {k : IntKind} {a b : Int} (h : a = b) : Ending.returned (.int k a) = .returned (.int k b) := by rw [h]
def anyG (ps : List Pr) : Bool := ps.any fun p => decide (100 < p.v.length)
theorem anyG_take {ps : List Pr} {j : Nat} (hj : j < ps.length) : anyG (ps.take (j + 1)) = (anyG (ps.take j) || decide (100 < ps[j].v.length)) := by
  unfold anyG
  rw [List.take_succ_eq_append_getElem hj, List.any_append]; simp
theorem anyG_part {ps : List Pr} {j : Nat} (h : anyG (ps.take j) = true) : anyG ps = true := by
  unfold anyG at *
  rw [List.any_eq_true] at *
  obtain ⟨x, h1, h2⟩ := h
  exact ⟨x, List.mem_of_mem_take h1, h2⟩

end Go.Proofs.YtgmlmkhiflnhdaaDoor

/- (Ref05n)
  The document's answers of layer 5: Find.
-/
namespace Go.Proofs.YtgmlmkhiflnhdaaDoor
open Go.RowKit
set_option linter.unusedVariables false
set_option linter.unusedSimpArgs false

def fndI (ps : List Pr) (k : Dg) : Int := match ps.findIdx? fun p => decide (p.k = k) with
  | some j => (j : Int)
  | none => -1
theorem fndI_no {ps : List Pr} {k : Dg} (h : hasP ps k = false) : fndI ps k = -1 := by
  unfold fndI
  rw [List.findIdx?_eq_none_iff.2 (by rw [hasP_none] at h; simpa using h)]
theorem fndI_at {ps : List Pr} {k : Dg} {j : Nat} (hj : j < ps.length) (hk : ps[j].k = k) (hlt : ∀ i (h : i < j), (ps[i]'(by omega)).k ≠ k) : fndI ps k = j := by
  unfold fndI
  rw [List.findIdx?_eq_some_iff_getElem.2 ⟨hj, by simpa using hk, fun i hi => by simpa using hlt i hi⟩]
theorem fndI_has {ps : List Pr} {k : Dg} (h : hasP ps k = true) : ∃ (j : Nat) (hj : j < ps.length), fndI ps k = j ∧ ps[j].k = k := by
  unfold fndI
  cases hf : ps.findIdx? fun p => decide (p.k = k) with
  | none =>
    rw [List.findIdx?_eq_none_iff] at hf
    obtain ⟨p, hp, hk⟩ := hasP_mem.1 h
    have := hf p hp
    simp [hk] at this
  | some j =>
    obtain ⟨hj, hp, _⟩ := List.findIdx?_eq_some_iff_getElem.1 hf
    exact ⟨j, hj, rfl, by simpa using hp⟩
end Go.Proofs.YtgmlmkhiflnhdaaDoor

/- (Ref05e)
  The document's answers of layer 5: Same.
-/
namespace Go.Proofs.YtgmlmkhiflnhdaaDoor
open Go.RowKit
set_option linter.unusedVariables false
set_option linter.unusedSimpArgs false

theorem Same_is (A1 A2 : Option Addr) (c1 c2 : Nat) (l1 l2 : List UInt8) (b : Bool) (w : World) (h1 : Rd w A1 l1) (h2 : Rd w A2 l2) (he : decide (l1 = l2) = b) :
    Calls Tryd.prog 33 #[.slice A1 l1.length c1, .slice A2 l2.length c2] w fun e w' => e = .returned (.bool b) ∧ w = w' := by
  subst he
  by_cases h : l1 = l2
  · rw [decide_eq_true h]; exact Same_yes A1 A2 _ _ c1 c2 l1 l2 w h1 h2 rfl rfl h
  · rw [decide_eq_false h]; exact Same_no A1 A2 _ _ c1 c2 l1 l2 w h1 h2 rfl rfl h

theorem take_eq_succ {ps qs : List Pr} {j : Nat} (h1 : j < ps.length) (h2 : j < qs.length) (h : ps.take j = qs.take j) : ps.take (j + 1) = qs.take (j + 1) ↔ ps[j].k = qs[j].k ∧ ps[j].v = qs[j].v := by
  rw [List.take_succ_eq_append_getElem h1, List.take_succ_eq_append_getElem h2, h]
  constructor
  · intro e
    have := List.append_cancel_left e
    simp at this
    rw [this]; exact ⟨rfl, rfl⟩
  · rintro ⟨e1, e2⟩
    have : ps[j] = qs[j] := by
      cases hp : ps[j]; cases hq : qs[j]
      rw [hp, hq] at e1 e2
      simp at e1 e2
      rw [e1, e2]
    rw [this]

end Go.Proofs.YtgmlmkhiflnhdaaDoor
