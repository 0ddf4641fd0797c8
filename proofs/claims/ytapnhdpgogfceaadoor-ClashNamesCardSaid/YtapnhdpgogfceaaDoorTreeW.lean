/-
  Roads of right trees, and the digests beside them. No program is named here.
-/
import Derived.Test.YtapnhdpgogfceaaDoorNode
namespace Go.Proofs.YtapnhdpgogfceaaDoor
open Go.RowKit
set_option linter.unusedVariables false

theorem way_spec {ns : List Nd} {k : Dg} (ho : Ones ns) : ∀ (e : Nat) (n : Int) (b : Dg), e ≤ 256 → 0 ≤ n → n ≤ ns.length → 0 ≤ rgt ns e n b → Zr (256 - e) b →
    (0 ≤ (wayP ns k e n).1 ∧ (wayP ns k e n).1 ≤ ns.length ∧ ((wayP ns k e n).1 = 0 ∨ (ndAt ns (wayP ns k e n).1).leaf = true)) ∧ (wayP ns k e n).2.length ≤ e ∧
    ∀ (i : Nat) (o : Int), (wayP ns k e n).2[i]? = some o → 0 ≤ o ∧ o ≤ ns.length ∧ ∃ b', 0 ≤ rgt ns (e - 1 - i) o b' ∧ Zr (256 - (e - 1 - i)) b' := by
  intro e
  induction e with
  | zero =>
    intro n b he h0 hn hr hz
    by_cases h : n = 0
    · subst h
      rw [wayP_zero]
      exact ⟨⟨Int.le_refl _, by omega, .inl rfl⟩, by simp, fun i o h => by simp at h⟩
    · cases hl : (ndAt ns n).leaf with
      | true =>
        rw [wayP_leaf hl]
        exact ⟨⟨h0, hn, .inr hl⟩, by simp, fun i o h => by simp at h⟩
      | false => rw [rgt_end h hl] at hr; omega
  | succ e ih =>
    intro n b he h0 hn hr hz
    by_cases h : n = 0
    · subst h
      rw [wayP_zero]
      exact ⟨⟨Int.le_refl _, by omega, .inl rfl⟩, by simp, fun i o h => by simp at h⟩
    · cases hl : (ndAt ns n).leaf with
      | true =>
        rw [wayP_leaf hl]
        exact ⟨⟨h0, hn, .inr hl⟩, by simp, fun i o h => by simp at h⟩
      | false =>
        obtain ⟨f, hf, r1, r2, _, _⟩ := fork_parts h hl hr
        obtain rfl : e = f := by omega
        obtain ⟨j, hj, rfl, hx, hone⟩ := ones_at ho (by omega) hn
        obtain ⟨k1, k2, k3, k4, _⟩ := one_fork hone (by rw [← hx]; exact hl)
        rw [← hx] at k1 k2 k3 k4
        have hd : 256 - (e + 1) < 256 := by omega
        have hd1 : 256 - e = 256 - (e + 1) + 1 := by omega
        have hd2 : 255 - e = 256 - (e + 1) := by omega
        have z1 : Zr (256 - e) b := by rw [hd1]; exact zr_succ hz
        have z2 : Zr (256 - e) (turnD b (255 - e)) := by rw [hd1, hd2]; exact zr_turn hz hd
        rw [wayP_fork h hl]
        split
        · obtain ⟨a1, a2, a3⟩ := ih _ _ (by omega) k3 (by omega) r2 z2
          refine ⟨a1, by simp; omega, fun i o hi => ?_⟩
          rcases i with _ | i
          · simp at hi
            subst hi
            exact ⟨k1, by omega, b, by simpa using r1, by simpa using z1⟩
          · obtain ⟨c1, c2, c3⟩ := a3 i o (by simpa using hi)
            rw [show e + 1 - 1 - (i + 1) = e - 1 - i by omega]
            exact ⟨c1, c2, c3⟩
        · obtain ⟨a1, a2, a3⟩ := ih _ _ (by omega) k1 (by omega) r1 z1
          refine ⟨a1, by simp; omega, fun i o hi => ?_⟩
          rcases i with _ | i
          · simp at hi
            subst hi
            exact ⟨k3, by omega, _, by simpa using r2, by simpa using z2⟩
          · obtain ⟨c1, c2, c3⟩ := a3 i o (by simpa using hi)
            rw [show e + 1 - 1 - (i + 1) = e - 1 - i by omega]
            exact ⟨c1, c2, c3⟩
/-- The digests beside a road, from its first fork on. -/
def sideL (ns : List Nd) (os : List Int) : List Dg := os.zipIdx.map fun x => ⟨sumP ns (255 - x.2) x.1, sumP_length⟩
theorem sideL_length (ns : List Nd) (os : List Int) : (sideL ns os).length = os.length := by simp [sideL]
theorem sideL_at (ns : List Nd) (os : List Int) (i : Nat) (h : i < os.length) : (sideL ns os)[i]'(by rw [sideL_length]; exact h) = ⟨sumP ns (255 - i) os[i], sumP_length⟩ := by simp [sideL]
def endN (t : Tr) (k : Dg) : Nd := if mayT t = true then (if (wayP t.ns k 256 t.root).1 = 0 then nd0 else ndAt t.ns (wayP t.ns k 256 t.root).1) else nd0
def sidesM (t : Tr) (k : Dg) : List Dg := if mayT t = true then sideL t.ns (wayP t.ns k 256 t.root).2 else []
end Go.Proofs.YtapnhdpgogfceaaDoor
