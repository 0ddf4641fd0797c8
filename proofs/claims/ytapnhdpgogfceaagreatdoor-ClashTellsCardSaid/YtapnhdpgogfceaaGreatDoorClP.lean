/-
  The first unlike inputs of two proofs that tell unlike things. No program is named here.
-/
import Derived.Test.YtapnhdpgogfceaaGreatDoorVfS
namespace Go.Proofs.YtapnhdpgogfceaaGreatDoor
open Go.RowKit
set_option linter.unusedVariables false
set_option maxRecDepth 100000

/-- What a proof tells. -/
def tellV (p : Pf) : List UInt8 := if toldF p = true then p.v else []
def unlikeF (a b : Pf) : Bool := decide (a.k = b.k) && (decide (toldF a ≠ toldF b) || decide (tellV a ≠ tellV b))
/-- The first two that are unlike, or the last two that stand beside each other. -/
def firstI : List (List UInt8) → List (List UInt8) → List UInt8 × List UInt8
  | x :: l, y :: m => if x = y ∧ l ≠ [] ∧ m ≠ [] then firstI l m else (x, y)
  | _, _ => ([], [])
theorem tagB_inj {k j : UInt8} {ls ms : List (List UInt8)} (hl : ∀ l ∈ ls, l.length ≤ 4096) (hm : ∀ l ∈ ms, l.length ≤ 4096) (h : tagB k ls = tagB j ms) : k = j ∧ ls = ms := by
  obtain ⟨_, h1, h2⟩ := tag_back k ls hl
  obtain ⟨_, h3, h4⟩ := tag_back j ms hm
  rw [h] at h1 h2
  exact ⟨h1.symm.trans h3, h2.symm.trans h4⟩
theorem fork_inj {k : Dg} {i : Nat} {s t : Dg} {d e : List UInt8} (hd : d.length = 32) (he : e.length = 32) (h : forkI k i s d = forkI k i t e) : d = e := by
  have hs := s.2
  have ht := t.2
  unfold forkI at h
  split at h
  · have := (tagB_inj (by simp; omega) (by simp; omega) h).2
    simp at this
    exact this.1
  · have := (tagB_inj (by simp; omega) (by simp; omega) h).2
    simp at this
    exact this.2
theorem end_kind (p : Pf) (hv : p.v.length ≤ 64) : ∃ ls, endI p = tagB (if p.e = 1 ∨ p.e = 2 then 1 else 0) ls ∧ ∀ l ∈ ls, l.length ≤ 4096 := by
  have hk := p.k.2
  have ho := p.o.2
  unfold endI
  by_cases h1 : p.e = 1
  · rw [if_pos h1, if_pos (.inl h1)]
    exact ⟨_, rfl, by simp; omega⟩
  · rw [if_neg h1]
    by_cases h2 : p.e = 2
    · rw [if_pos h2, if_pos (.inr h2)]
      exact ⟨_, rfl, by simp; omega⟩
    · rw [if_neg h2, if_neg (by simp [h1, h2])]
      exact ⟨_, rfl, by simp⟩
theorem end_fork {p : Pf} (hv : p.v.length ≤ 64) {k : Dg} {i : Nat} {s : Dg} {d : List UInt8} (hd : d.length = 32) : endI p ≠ forkI k i s d := fun h => by
  have hs := s.2
  obtain ⟨ls, e, hl⟩ := end_kind p hv
  obtain ⟨q, hq, hq2⟩ : ∃ q : UInt8, (if p.e = 1 ∨ p.e = 2 then 1 else 0) = q ∧ q ≠ 2 := ⟨_, rfl, by split <;> decide⟩
  rw [e, hq] at h
  unfold forkI at h
  split at h
  · exact hq2 (tagB_inj (ms := [d, s.1]) hl (by simp; omega) h).1
  · exact hq2 (tagB_inj (ms := [s.1, d]) hl (by simp; omega) h).1
theorem may_v64 {a : Pf} (ha : mayF a = true) : a.v.length ≤ 64 := by
  unfold mayF endP at ha
  rw [Bool.and_eq_true] at ha
  obtain ⟨_, h⟩ := ha
  split at h
  · simp at h; rw [h.2]; simp
  · split at h
    · simp [valB] at h; omega
    · split at h
      · simp [valB] at h; omega
      · simp at h
/-- Two ends that are the same tell the same. -/
theorem end_same {a b : Pf} (ha : mayF a = true) (hb : mayF b = true) (hk : a.k = b.k) (h : endI a = endI b) : toldF a = toldF b ∧ tellV a = tellV b := by
  have va := may_v64 ha
  have vb := may_v64 hb
  have ka := a.k.2
  have kb := b.k.2
  have oa := a.o.2
  have ob := b.o.2
  have other : ∀ p : Pf, mayF p = true → p.e = 2 → p.o ≠ p.k := fun p hp he => by
    unfold mayF endP at hp
    rw [he] at hp
    simp at hp
    exact hp.2.1.1
  have tf : ∀ p : Pf, mayF p = true → toldF p = decide (p.e = 1) := fun p hp => by unfold toldF; rw [hp, Bool.true_and]
  unfold tellV
  rw [tf a ha, tf b hb]
  by_cases a1 : a.e = 1
  · by_cases b1 : b.e = 1
    · unfold endI at h
      rw [if_pos a1, if_pos b1] at h
      have := (tagB_inj (by simp; omega) (by simp; omega) h).2
      simp at this
      rw [a1, b1, this.2]
      exact ⟨rfl, rfl⟩
    · by_cases b2 : b.e = 2
      · unfold endI at h
        rw [if_pos a1, if_neg b1, if_pos b2] at h
        have := (tagB_inj (by simp; omega) (by simp; omega) h).2
        simp at this
        exact absurd ((Subtype.ext this.1.symm).trans hk) (other b hb b2)
      · unfold endI at h
        rw [if_pos a1, if_neg b1, if_neg b2] at h
        exact absurd (tagB_inj (by simp; omega) (by simp) h).1 (by decide)
  · by_cases b1 : b.e = 1
    · by_cases a2 : a.e = 2
      · unfold endI at h
        rw [if_neg a1, if_pos a2, if_pos b1] at h
        have := (tagB_inj (by simp; omega) (by simp; omega) h).2
        simp at this
        exact absurd ((Subtype.ext this.1).trans hk.symm) (other a ha a2)
      · unfold endI at h
        rw [if_neg a1, if_neg a2, if_pos b1] at h
        exact absurd (tagB_inj (by simp) (by simp; omega) h).1 (by decide)
    · simp [a1, b1]
theorem first_spec {a b : Pf} (ha : mayF a = true) (hb : mayF b = true) (hk : a.k = b.k) (hu : ¬ (toldF a = toldF b ∧ tellV a = tellV b)) : ∀ (ss ts : List Dg) (i : Nat),
    (firstI (inL a i ss) (inL b i ts)).1 ≠ (firstI (inL a i ss) (inL b i ts)).2 ∧
    (sha256 ((inL a i ss).headD []) = sha256 ((inL b i ts).headD []) → sha256 (firstI (inL a i ss) (inL b i ts)).1 = sha256 (firstI (inL a i ss) (inL b i ts)).2) := by
  have va := may_v64 ha
  have vb := may_v64 hb
  intro ss
  induction ss with
  | nil =>
    intro ts i
    cases ts with
    | nil =>
      have e : firstI (inL a i []) (inL b i []) = (endI a, endI b) := by simp [inL, firstI]
      rw [e]
      exact ⟨fun h => hu (end_same ha hb hk h), fun h => h⟩
    | cons t ts =>
      have e : firstI (inL a i []) (inL b i (t :: ts)) = (endI a, forkI b.k i t (sha256 ((inL b (i + 1) ts).headD []))) := by simp [inL, firstI]
      rw [e]
      exact ⟨fun h => end_fork va (shaLen _) h, fun h => h⟩
  | cons s ss ih =>
    intro ts i
    cases ts with
    | nil =>
      have e : firstI (inL a i (s :: ss)) (inL b i []) = (forkI a.k i s (sha256 ((inL a (i + 1) ss).headD [])), endI b) := by simp [inL, firstI]
      rw [e]
      exact ⟨fun h => end_fork vb (shaLen _) h.symm, fun h => h⟩
    | cons t ts =>
      rw [inL_cons, inL_cons]
      by_cases hh : forkI a.k i s (sha256 ((inL a (i + 1) ss).headD [])) = forkI b.k i t (sha256 ((inL b (i + 1) ts).headD []))
      · have e : firstI (forkI a.k i s (sha256 ((inL a (i + 1) ss).headD [])) :: inL a (i + 1) ss) (forkI b.k i t (sha256 ((inL b (i + 1) ts).headD [])) :: inL b (i + 1) ts) = firstI (inL a (i + 1) ss) (inL b (i + 1) ts) := by
          rw [firstI, if_pos ⟨hh, inL_ne _ _ _, inL_ne _ _ _⟩]
        rw [e]
        obtain ⟨h1, h2⟩ := ih ts (i + 1)
        refine ⟨h1, fun _ => h2 ?_⟩
        rw [hk] at hh
        exact fork_inj (shaLen _) (shaLen _) hh
      · have e : firstI (forkI a.k i s (sha256 ((inL a (i + 1) ss).headD [])) :: inL a (i + 1) ss) (forkI b.k i t (sha256 ((inL b (i + 1) ts).headD [])) :: inL b (i + 1) ts) = (forkI a.k i s (sha256 ((inL a (i + 1) ss).headD [])), forkI b.k i t (sha256 ((inL b (i + 1) ts).headD []))) := by
          rw [firstI, if_neg (fun q => hh q.1)]
        rw [e]
        exact ⟨hh, fun h => h⟩
/-- What is found is unlike; if the two have one root, it is a clash. -/
theorem clash_found {a b : Pf} (ha : mayF a = true) (hb : mayF b = true) (hu : unlikeF a b = true) :
    (firstI (inP a) (inP b)).1 ≠ (firstI (inP a) (inP b)).2 ∧ (rootV a = rootV b → sha256 (firstI (inP a) (inP b)).1 = sha256 (firstI (inP a) (inP b)).2) := by
  unfold unlikeF at hu
  simp only [Bool.and_eq_true, Bool.or_eq_true, decide_eq_true_eq] at hu
  obtain ⟨hk, hu⟩ := hu
  obtain ⟨h1, h2⟩ := first_spec ha hb hk (fun q => by rcases hu with h | h; exact h q.1; exact h q.2) a.ss b.ss 0
  exact ⟨h1, fun h => h2 (congrArg (·.1) h)⟩
end Go.Proofs.YtapnhdpgogfceaaGreatDoor
