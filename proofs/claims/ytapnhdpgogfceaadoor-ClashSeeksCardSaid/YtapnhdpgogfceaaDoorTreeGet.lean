/-
  What a right tree has for a key: where its road ends. No program is named here.
-/
import Derived.Test.YtapnhdpgogfceaaDoorTreePut
namespace Go.Proofs.YtapnhdpgogfceaaDoor
open Go.RowKit
set_option linter.unusedVariables false

def hasE (x : Nd) (k : Dg) : Bool := x.leaf && decide (x.k = k)
theorem way_has {ns : List Nd} {k : Dg} : ∀ (e : Nat) (n : Int) (b : Dg), e ≤ 256 → Zr (256 - e) b → 0 ≤ rgt ns e n b →
    (∀ p ∈ forP ns e n, p.k = k → (wayP ns k e n).1 ≠ 0 ∧ (ndAt ns (wayP ns k e n).1).leaf = true ∧ (ndAt ns (wayP ns k e n).1).k = k ∧ (ndAt ns (wayP ns k e n).1).v = p.v) ∧
    ((wayP ns k e n).1 ≠ 0 → (ndAt ns (wayP ns k e n).1).leaf = true → (ndAt ns (wayP ns k e n).1).k = k → ⟨k, (ndAt ns (wayP ns k e n).1).v⟩ ∈ forP ns e n) := by
  have leafC : ∀ (e : Nat) (n : Int), n ≠ 0 → (ndAt ns n).leaf = true → (∀ p ∈ forP ns e n, p.k = k → (wayP ns k e n).1 ≠ 0 ∧ (ndAt ns (wayP ns k e n).1).leaf = true ∧ (ndAt ns (wayP ns k e n).1).k = k ∧ (ndAt ns (wayP ns k e n).1).v = p.v) ∧
    ((wayP ns k e n).1 ≠ 0 → (ndAt ns (wayP ns k e n).1).leaf = true → (ndAt ns (wayP ns k e n).1).k = k → ⟨k, (ndAt ns (wayP ns k e n).1).v⟩ ∈ forP ns e n) := fun e n hz hl => by
    rw [forP_leaf hz hl, wayP_leaf hl]
    refine ⟨fun p hp hk => ?_, fun _ _ hk => ?_⟩
    · rw [List.mem_singleton] at hp
      subst hp
      exact ⟨hz, hl, hk, rfl⟩
    · dsimp only at hk ⊢
      rw [hk]
      exact List.mem_singleton.2 rfl
  intro e
  induction e with
  | zero =>
    intro n b _ hz hr
    by_cases h : n = 0
    · subst h
      rw [forP_zero, wayP_zero]
      exact ⟨fun p hp => by simp at hp, fun h => absurd rfl h⟩
    · cases hl : (ndAt ns n).leaf with
      | false => rw [rgt_end h hl] at hr; omega
      | true => exact leafC 0 n h hl
  | succ e ih =>
    intro n b he hz hr
    by_cases h : n = 0
    · subst h
      rw [forP_zero, wayP_zero]
      exact ⟨fun p hp => by simp at hp, fun h => absurd rfl h⟩
    · cases hl : (ndAt ns n).leaf with
      | true => exact leafC (e + 1) n h hl
      | false =>
        have hd : 255 - e < 256 := by omega
        have hz' : Zr (255 - e) b := by rw [show 255 - e = 256 - (e + 1) by omega]; exact hz
        obtain ⟨f, hf, rl, rr, _, _⟩ := fork_parts h hl hr
        obtain rfl : e = f := by omega
        have z1 : Zr (256 - e) b := by rw [show 256 - e = 255 - e + 1 by omega]; exact zr_succ hz'
        have z2 : Zr (256 - e) (turnD b (255 - e)) := by rw [show 256 - e = 255 - e + 1 by omega]; exact zr_turn hz' hd
        have u1 := (for_spec e (ndAt ns n).l b (by omega) z1 rl).1
        have u2 := (for_spec e (ndAt ns n).r (turnD b (255 - e)) (by omega) z2 rr).1
        rw [show 256 - e = 255 - e + 1 by omega] at u1 u2
        rw [forP_fork h hl, wayP_fork h hl]
        have hbit := kb_lt k.1 (255 - e)
        rcases (show kb k.1 (255 - e) = 0 ∨ kb k.1 (255 - e) = 1 by omega) with hb | hb
        · rw [if_neg (by omega)]
          obtain ⟨i1, i2⟩ := ih _ b (by omega) z1 rl
          refine ⟨fun p hp hk => ?_, fun a1 a2 a3 => List.mem_append.2 (.inl (i2 a1 a2 a3))⟩
          rcases List.mem_append.1 hp with hp | hp
          · exact i1 p hp hk
          · have := u2 p hp (255 - e) (by omega)
            rw [turn_self hz' hd, hk, hb] at this
            cases this
        · rw [if_pos hb]
          obtain ⟨i1, i2⟩ := ih _ _ (by omega) z2 rr
          refine ⟨fun p hp hk => ?_, fun a1 a2 a3 => List.mem_append.2 (.inr (i2 a1 a2 a3))⟩
          rcases List.mem_append.1 hp with hp | hp
          · have := u1 p hp (255 - e) (by omega)
            rw [hz' _ (Nat.le_refl _) hd, hk, hb] at this
            cases this
          · exact i1 p hp hk
theorem find_spec {t : Tr} (k : Dg) (h : mayT t = true) : hasE (endN t k) k = hasP (allT t) k ∧ (hasP (allT t) k = true → (endN t k).v = getV (allT t) k) := by
  obtain ⟨_, _, _, _, h5⟩ := mayT_iff.1 h
  obtain ⟨w1, w2⟩ := way_has (ns := t.ns) (k := k) 256 t.root z0 (Nat.le_refl _) zr_z0 h5
  have hs := (all_spec h).1
  have he : endN t k = if (wayP t.ns k 256 t.root).1 = 0 then nd0 else ndAt t.ns (wayP t.ns k 256 t.root).1 := by unfold endN; rw [if_pos h]
  have hv : hasP (allT t) k = true → (wayP t.ns k 256 t.root).1 ≠ 0 ∧ (ndAt t.ns (wayP t.ns k 256 t.root).1).leaf = true ∧ (ndAt t.ns (wayP t.ns k 256 t.root).1).k = k ∧ (ndAt t.ns (wayP t.ns k 256 t.root).1).v = getV (allT t) k := fun hh => by
    obtain ⟨p, hp, hk⟩ := hasP_mem.1 hh
    obtain ⟨a1, a2, a3, a4⟩ := w1 p hp hk
    refine ⟨a1, a2, a3, ?_⟩
    rw [a4, ← getV_mem hs hp, hk]
  constructor
  · rw [Bool.eq_iff_iff]
    constructor
    · intro hE
      unfold hasE at hE
      rw [he] at hE
      simp only [Bool.and_eq_true, decide_eq_true_eq] at hE
      by_cases hz : (wayP t.ns k 256 t.root).1 = 0
      · rw [if_pos hz] at hE; exact absurd hE.1 (by decide)
      · rw [if_neg hz] at hE
        exact hasP_mem.2 ⟨_, w2 hz hE.1 hE.2, rfl⟩
    · intro hh
      obtain ⟨a1, a2, a3, a4⟩ := hv hh
      unfold hasE
      rw [he, if_neg a1, a2, a3]
      simp
  · intro hh
    obtain ⟨a1, a2, a3, a4⟩ := hv hh
    rw [he, if_neg a1, a4]
/-- A node at which a road ends is short. -/
theorem end_short {t : Tr} (k : Dg) : (endN t k).v.length ≤ 64 := by
  unfold endN
  split
  · rename_i hm
    obtain ⟨_, m1, m2, ho, m3⟩ := mayT_iff.1 hm
    split
    · simp [nd0]
    · rename_i hz
      obtain ⟨⟨a1, a2, a3⟩, _⟩ := way_spec (k := k) ho 256 t.root z0 (Nat.le_refl _) m1 m2 m3 zr_z0
      obtain ⟨j, hj, hje, hx, hone1⟩ := ones_at ho (by omega) a2
      rcases a3 with h | h
      · exact absurd h hz
      · rw [hx] at h ⊢
        have := (one_leaf hone1 h).1
        unfold valB at this
        simp at this
        omega
  · simp [nd0]
end Go.Proofs.YtapnhdpgogfceaaDoor
