/-
  Texts laid together: VfP, VfT.
-/
import Derived.Test.YtapnhdpgogfceaaGreatDoorTrN
import Derived.Test.YtapnhdpgogfceaaGreatDoorPlain
import Derived.Test.YtapnhdpgogfceaaGreatDoorPfM
set_option maxRecDepth 100000
/- (VfP)
  What is digested on a proof's road, and its root. No program is named here.
-/
namespace Go.Proofs.YtapnhdpgogfceaaGreatDoor
open Go.RowKit
set_option linter.unusedVariables false

theorem shaLen (l : List UInt8) : (sha256 l).length = 32 := S8.bytes_len _
/-- What is digested where the road ends. -/
def endI (p : Pf) : List UInt8 := if p.e = 1 then tagB 1 [p.k.1, p.v] else if p.e = 2 then tagB 1 [p.o.1, p.v] else tagB 0 []
/-- What is digested at the place i: of the side there, and of the digest of what is behind. -/
def forkI (k : Dg) (i : Nat) (s : Dg) (d : List UInt8) : List UInt8 := if bitV k.1 i = 0 then tagB 2 [d, s.1] else tagB 2 [s.1, d]
/-- What is digested from the place i on, these sides being there. -/
def inL (p : Pf) : Nat → List Dg → List (List UInt8)
  | _, [] => [endI p]
  | i, s :: ss => forkI p.k i s (sha256 ((inL p (i + 1) ss).headD [])) :: inL p (i + 1) ss
def inP (p : Pf) : List (List UInt8) := inL p 0 p.ss
def rootV (p : Pf) : Dg := ⟨sha256 ((inP p).headD []), shaLen _⟩
theorem inL_length (p : Pf) : ∀ (i : Nat) (ss : List Dg), (inL p i ss).length = ss.length + 1
  | _, [] => rfl
  | i, s :: ss => by simp only [inL, List.length_cons, inL_length p (i + 1) ss]
theorem inL_cons (p : Pf) (i : Nat) (s : Dg) (ss : List Dg) : inL p i (s :: ss) = forkI p.k i s (sha256 ((inL p (i + 1) ss).headD [])) :: inL p (i + 1) ss := rfl
theorem inL_ne (p : Pf) (i : Nat) (ss : List Dg) : inL p i ss ≠ [] := fun h => by have := inL_length p i ss; rw [h] at this; simp at this
/-- At the place n - 1 - j of n. -/
theorem inL_drop (p : Pf) (i : Nat) (h : i < p.ss.length) : inL p i (p.ss.drop i) = forkI p.k i p.ss[i] (sha256 ((inL p (i + 1) (p.ss.drop (i + 1))).headD [])) :: inL p (i + 1) (p.ss.drop (i + 1)) := by
  rw [List.drop_eq_getElem_cons h, inL_cons]
theorem inL_end (p : Pf) : inL p p.ss.length (p.ss.drop p.ss.length) = [endI p] := by rw [List.drop_length]; rfl
theorem endI_le (p : Pf) (h : p.v.length ≤ 1000) : (endI p).length ≤ 3000 := by
  unfold endI
  split
  · refine Nat.le_trans (tagB_le 1 [p.k.1, p.v] 1000 fun l hl => ?_) (by simp)
    simp only [List.mem_cons, List.not_mem_nil, or_false] at hl
    rcases hl with rfl | rfl
    · rw [p.k.2]; omega
    · exact h
  · split
    · refine Nat.le_trans (tagB_le 1 [p.o.1, p.v] 1000 fun l hl => ?_) (by simp)
      simp only [List.mem_cons, List.not_mem_nil, or_false] at hl
      rcases hl with rfl | rfl
      · rw [p.o.2]; omega
      · exact h
    · simp [tagB_nil]
theorem forkI_le (k : Dg) (i : Nat) (s : Dg) (d : List UInt8) (h : d.length = 32) : (forkI k i s d).length ≤ 3000 := by
  unfold forkI
  split
  · refine Nat.le_trans (tagB_le 2 [d, s.1] 32 fun l hl => ?_) (by simp)
    simp only [List.mem_cons, List.not_mem_nil, or_false] at hl
    rcases hl with rfl | rfl
    · omega
    · rw [s.2]; omega
  · refine Nat.le_trans (tagB_le 2 [s.1, d] 32 fun l hl => ?_) (by simp)
    simp only [List.mem_cons, List.not_mem_nil, or_false] at hl
    rcases hl with rfl | rfl
    · rw [s.2]; omega
    · omega
theorem inL_le (p : Pf) (h : p.v.length ≤ 1000) : ∀ (i : Nat) (ss : List Dg), ∀ l ∈ inL p i ss, l.length ≤ 3000
  | _, [], l, hl => by
    simp only [inL, List.mem_singleton] at hl
    subst hl
    exact endI_le p h
  | i, s :: ss, l, hl => by
    rw [inL_cons] at hl
    rcases List.mem_cons.1 hl with e | hl
    · rw [e]
      exact forkI_le _ _ _ _ (shaLen _)
    · exact inL_le p h (i + 1) ss l hl
theorem headD_mem {α : Type} {l : List α} {d : α} (h : l ≠ []) : l.headD d ∈ l := by
  cases l with
  | nil => exact absurd rfl h
  | cons a l => simp
theorem inL_head_le (p : Pf) (h : p.v.length ≤ 1000) (i : Nat) (ss : List Dg) : ((inL p i ss).headD []).length ≤ 3000 := inL_le p h i ss _ (headD_mem (inL_ne p i ss))
end Go.Proofs.YtapnhdpgogfceaaGreatDoor

/- (VfT)
  The root of a proof that is made of a tree is its sum, and the proof may be. No program is named here.
-/
namespace Go.Proofs.YtapnhdpgogfceaaGreatDoor
open Go.RowKit
set_option linter.unusedVariables false

/-- A key that goes with a node's base shares with the leaf where its road ends all the bits gone by. -/
theorem way_share {ns : List Nd} {k : Dg} : ∀ (e : Nat) (n : Int) (b : Dg), e ≤ 256 → Zr (256 - e) b → 0 ≤ rgt ns e n b → (∀ i, i < 256 - e → kb k.1 i = kb b.1 i) →
    (wayP ns k e n).1 ≠ 0 → (wayP ns k e n).2.length ≤ e ∧ ∀ i, i < 256 - e + (wayP ns k e n).2.length → kb (ndAt ns (wayP ns k e n).1).k.1 i = kb k.1 i := by
  have leafC : ∀ (e : Nat) (n : Int) (b : Dg), 0 ≤ rgt ns e n b → (∀ i, i < 256 - e → kb k.1 i = kb b.1 i) → n ≠ 0 → (ndAt ns n).leaf = true → (wayP ns k e n).2.length ≤ e ∧ ∀ i, i < 256 - e + (wayP ns k e n).2.length → kb (ndAt ns (wayP ns k e n).1).k.1 i = kb k.1 i := fun e n b hr hk hz hl => by
    rw [wayP_leaf hl]
    rw [rgt_leaf hz hl] at hr
    refine ⟨by simp, fun i hi => ?_⟩
    simp only [List.length_nil, Nat.add_zero] at hi ⊢
    rw [hk i hi]
    refine shared_eq ?_
    split at hr
    · omega
    · omega
  intro e
  induction e with
  | zero =>
    intro n b _ hz hr hk hn
    by_cases h : n = 0
    · subst h
      rw [wayP_zero] at hn
      exact absurd rfl hn
    · cases hl : (ndAt ns n).leaf with
      | false => rw [rgt_end h hl] at hr; omega
      | true => exact leafC 0 n b hr hk h hl
  | succ e ih =>
    intro n b he hz hr hk hn
    by_cases h : n = 0
    · subst h
      rw [wayP_zero] at hn
      exact absurd rfl hn
    · cases hl : (ndAt ns n).leaf with
      | true => exact leafC (e + 1) n b hr hk h hl
      | false =>
        have hd : 255 - e < 256 := by omega
        have hz' : Zr (255 - e) b := by rw [show 255 - e = 256 - (e + 1) by omega]; exact hz
        obtain ⟨f, hf, rl, rr, _, _⟩ := fork_parts h hl hr
        obtain rfl : e = f := by omega
        have z1 : Zr (256 - e) b := by rw [show 256 - e = 255 - e + 1 by omega]; exact zr_succ hz'
        have z2 : Zr (256 - e) (turnD b (255 - e)) := by rw [show 256 - e = 255 - e + 1 by omega]; exact zr_turn hz' hd
        have hbit := kb_lt k.1 (255 - e)
        rw [wayP_fork h hl] at hn ⊢
        rcases (show kb k.1 (255 - e) = 0 ∨ kb k.1 (255 - e) = 1 by omega) with hb | hb
        · rw [if_neg (by omega)] at hn ⊢
          obtain ⟨i1, i2⟩ := ih _ b (by omega) z1 rl (fun i hi => by
            rcases Nat.lt_or_ge i (255 - e) with h1 | h1
            · exact hk i (by omega)
            · obtain rfl : i = 255 - e := by omega
              rw [hb, hz' _ (Nat.le_refl _) hd]) hn
          refine ⟨by simp only [List.length_cons]; omega, fun i hi => i2 i ?_⟩
          simp only [List.length_cons] at hi
          omega
        · rw [if_pos hb] at hn ⊢
          obtain ⟨i1, i2⟩ := ih _ _ (by omega) z2 rr (fun i hi => by
            rcases Nat.lt_or_ge i (255 - e) with h1 | h1
            · rw [turn_low hd h1]
              exact hk i (by omega)
            · obtain rfl : i = 255 - e := by omega
              rw [hb, turn_self hz' hd]) hn
          refine ⟨by simp only [List.length_cons]; omega, fun i hi => i2 i ?_⟩
          simp only [List.length_cons] at hi
          omega
/-- What is made may be. -/
theorem makeF_may {t : Tr} (k : Dg) (h : mayT t = true) : mayF (makeF t k) = true := by
  obtain ⟨-, m1, m2, ho, m3⟩ := mayT_iff.1 h
  obtain ⟨⟨w1, w2, w3⟩, w4, -⟩ := way_spec (k := k) ho 256 t.root z0 (Nat.le_refl _) m1 m2 m3 zr_z0
  have hs : (sidesM t k).length ≤ 256 := by unfold sidesM; rw [if_pos h, sideL_length]; exact w4
  by_cases hz : (wayP t.ns k 256 t.root).1 = 0
  · have hl : (endN t k).leaf = false := by unfold endN; rw [if_pos h, if_pos hz]; rfl
    rw [makeF_none h hl]
    unfold mayF endP
    simp only [hs, decide_true, Bool.true_and, if_true, Bool.and_true]
  · have hl := w3.resolve_left hz
    have he : endN t k = ndAt t.ns (wayP t.ns k 256 t.root).1 := by unfold endN; rw [if_pos h, if_neg hz]
    have hv : valB (endN t k).v = true := by
      rw [he]
      obtain ⟨hj, hx⟩ := ndAt_leaf hl
      rw [hx] at hl ⊢
      exact ones_val ho (List.getElem_mem hj) hl
    have hl2 : (endN t k).leaf = true := by rw [he]; exact hl
    by_cases hk : (endN t k).k = k
    · rw [makeF_own h hl2 hk]
      unfold mayF endP
      simp only [hs, hv, decide_true, Bool.true_and, if_true, Bool.and_true]
      rfl
    · rw [makeF_other h hl2 hk]
      obtain ⟨-, hsh⟩ := way_share (k := k) 256 t.root z0 (Nat.le_refl _) zr_z0 m3 (fun i hi => by omega) hz
      have hle : (sidesM t k).length ≤ shared (endN t k).k.1 k.1 := by
        unfold sidesM
        rw [if_pos h, sideL_length, he]
        rcases Nat.lt_or_ge (shared (ndAt t.ns (wayP t.ns k 256 t.root).1).k.1 k.1) (wayP t.ns k 256 t.root).2.length with h1 | h1
        · exact absurd (hsh _ (by omega)) (shared_ne (by omega))
        · exact h1
      unfold mayF endP
      simp only [hs, hv, hk, hle, decide_true, Bool.true_and, if_true, Bool.and_true, ne_eq, not_false_eq_true]
      rfl
end Go.Proofs.YtapnhdpgogfceaaGreatDoor
