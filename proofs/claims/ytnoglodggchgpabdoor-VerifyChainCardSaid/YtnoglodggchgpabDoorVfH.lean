/-
  What stands in a proof's inputs. No program is named here.
-/
import Derived.Test.YtnoglodggchgpabDoorVfS
namespace Go.Proofs.YtnoglodggchgpabDoor
open Go.RowKit
set_option linter.unusedVariables false

theorem inL_get (p : Pf) : ∀ (ss : List Dg) (i j : Nat) (h : j < ss.length), ∃ u, (inL p i ss)[j + 1]? = some u ∧ (inL p i ss)[j]? = some (forkI p.k (i + j) ss[j] (sha256 u))
  | [], i, j, h => absurd h (by simp)
  | s :: ss, i, 0, h => by
    obtain ⟨u, t, hu⟩ : ∃ u t, inL p (i + 1) ss = u :: t := by
      cases hq : inL p (i + 1) ss with
      | nil => exact absurd hq (inL_ne _ _ _)
      | cons u t => exact ⟨u, t, rfl⟩
    refine ⟨u, ?_, ?_⟩
    · rw [inL_cons, hu]; rfl
    · rw [inL_cons, hu]; rfl
  | s :: ss, i, j + 1, h => by
    obtain ⟨u, h1, h2⟩ := inL_get p ss (i + 1) j (by simpa using h)
    refine ⟨u, ?_, ?_⟩
    · rw [inL_cons, List.getElem?_cons_succ]; exact h1
    · rw [inL_cons, List.getElem?_cons_succ, h2, show i + 1 + j = i + (j + 1) by omega]; rfl
theorem inP_get (p : Pf) (j : Nat) (h : j < p.ss.length) : ∃ u, (inP p)[j + 1]? = some u ∧ (inP p)[j]? = some (forkI p.k j p.ss[j] (sha256 u)) := by
  obtain ⟨u, h1, h2⟩ := inL_get p p.ss 0 j h
  rw [Nat.zero_add] at h2
  exact ⟨u, h1, h2⟩
/-- A place's text: its kind and its two parts, in one order or the other. -/
theorem forkI_parts (k : Dg) (i : Nat) (s : Dg) (d : List UInt8) (hd : d.length = 32) : ∃ p0 p1, (p0 = d ∧ p1 = s.1 ∨ p0 = s.1 ∧ p1 = d) ∧ tagE (forkI k i s d) = 0 ∧ tagK (forkI k i s d) = 2 ∧ tagL (forkI k i s d) = [p0, p1] := by
  unfold forkI
  split
  · refine ⟨d, s.1, .inl ⟨rfl, rfl⟩, ?_⟩
    exact tag_back 2 [d, s.1] (by intro l hl; simp at hl; rcases hl with rfl | rfl; omega; rw [s.2]; omega)
  · refine ⟨s.1, d, .inr ⟨rfl, rfl⟩, ?_⟩
    exact tag_back 2 [s.1, d] (by intro l hl; simp at hl; rcases hl with rfl | rfl; rw [s.2]; omega; omega)
end Go.Proofs.YtnoglodggchgpabDoor
