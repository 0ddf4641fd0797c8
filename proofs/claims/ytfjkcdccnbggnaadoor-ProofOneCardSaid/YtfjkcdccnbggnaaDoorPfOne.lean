/-
  A proof hangs on what a tree stands for alone; a tree made anew pair by pair. No program is named here.
-/
import Derived.Test.YtfjkcdccnbggnaaDoorPfM
import Derived.Test.YtfjkcdccnbggnaaDoorTreeLp
import Derived.Test.YtfjkcdccnbggnaaDoorTreeLq
namespace Go.Proofs.YtfjkcdccnbggnaaDoor
open Go.RowKit
set_option linter.unusedVariables false
section
variable {ns ms : List Nd} {k : Dg}
/-- What a right number is, by how many pairs it stands for. -/
theorem kinds {e : Nat} {n : Int} {b : Dg} (he : e ≤ 256) (hz : Zr (256 - e) b) (hr : 0 ≤ rgt ns e n b) :
    (n = 0 ∧ (forP ns e n).length = 0) ∨ (n ≠ 0 ∧ (ndAt ns n).leaf = true ∧ (forP ns e n).length = 1) ∨ (n ≠ 0 ∧ (ndAt ns n).leaf = false ∧ 2 ≤ (forP ns e n).length) := by
  by_cases h : n = 0
  · subst h; rw [forP_zero]; exact .inl ⟨rfl, rfl⟩
  · cases hl : (ndAt ns n).leaf with
    | true => rw [forP_leaf h hl]; exact .inr (.inl ⟨h, rfl, rfl⟩)
    | false =>
      obtain ⟨f, hf, h1, h2, h3, h4⟩ := fork_parts h hl hr
      exact .inr (.inr ⟨h, rfl, (for_spec e n b he hz hr).2.2.2.2.1 h4⟩)
theorem zip_one (e : Nat) (f : Nat → Int → List UInt8) (os : List Int) : ((os.zipIdx 1).map fun x => f (e + 1 - 1 - x.2) x.1) = os.zipIdx.map fun x => f (e - 1 - x.2) x.1 := by
  rw [show (1 : Nat) = 0 + 1 from rfl, List.zipIdx_succ, List.map_map]
  refine List.map_congr_left fun x _ => ?_
  show f (e + 1 - 1 - (x.2 + 1)) x.1 = _
  rw [show e + 1 - 1 - (x.2 + 1) = e - 1 - x.2 by omega]
/-- Of the same pairs, the road's end and the sums at its sides are the same. -/
theorem way_all : ∀ (e : Nat) (n m : Int) (b : Dg), e ≤ 256 → Zr (256 - e) b → 0 ≤ rgt ns e n b → 0 ≤ rgt ms e m b → forP ns e n = forP ms e m →
    (((wayP ns k e n).1 = 0 ∧ (wayP ms k e m).1 = 0) ∨ ((wayP ns k e n).1 ≠ 0 ∧ (wayP ms k e m).1 ≠ 0 ∧ (ndAt ns (wayP ns k e n).1).leaf = true ∧ (ndAt ms (wayP ms k e m).1).leaf = true ∧ (ndAt ns (wayP ns k e n).1).k = (ndAt ms (wayP ms k e m).1).k ∧ (ndAt ns (wayP ns k e n).1).v = (ndAt ms (wayP ms k e m).1).v)) ∧
    ((wayP ns k e n).2.zipIdx.map fun x => sumP ns (e - 1 - x.2) x.1) = (wayP ms k e m).2.zipIdx.map fun x => sumP ms (e - 1 - x.2) x.1 := by
  have base : ∀ (e : Nat) (n m : Int) (b : Dg), e ≤ 256 → Zr (256 - e) b → 0 ≤ rgt ns e n b → 0 ≤ rgt ms e m b → forP ns e n = forP ms e m → (n = 0 ∨ (ndAt ns n).leaf = true) →
      (((wayP ns k e n).1 = 0 ∧ (wayP ms k e m).1 = 0) ∨ ((wayP ns k e n).1 ≠ 0 ∧ (wayP ms k e m).1 ≠ 0 ∧ (ndAt ns (wayP ns k e n).1).leaf = true ∧ (ndAt ms (wayP ms k e m).1).leaf = true ∧ (ndAt ns (wayP ns k e n).1).k = (ndAt ms (wayP ms k e m).1).k ∧ (ndAt ns (wayP ns k e n).1).v = (ndAt ms (wayP ms k e m).1).v)) ∧
      ((wayP ns k e n).2.zipIdx.map fun x => sumP ns (e - 1 - x.2) x.1) = (wayP ms k e m).2.zipIdx.map fun x => sumP ms (e - 1 - x.2) x.1 := by
    intro e n m b he hz h1 h2 hf hk
    rcases kinds he hz h1 with ⟨hn, l1⟩ | ⟨hn, hl, l1⟩ | ⟨hn, hl, l1⟩
    · rcases kinds he hz h2 with ⟨hm, l2⟩ | ⟨hm, hl2, l2⟩ | ⟨hm, hl2, l2⟩
      · subst hn hm
        rw [wayP_zero, wayP_zero]
        exact ⟨.inl ⟨rfl, rfl⟩, by simp⟩
      · rw [hf] at l1; omega
      · rw [hf] at l1; omega
    · rcases kinds he hz h2 with ⟨hm, l2⟩ | ⟨hm, hl2, l2⟩ | ⟨hm, hl2, l2⟩
      · rw [hf] at l1; omega
      · rw [wayP_leaf hl, wayP_leaf hl2]
        rw [forP_leaf hn hl, forP_leaf hm hl2] at hf
        simp only [List.cons.injEq, Pr.mk.injEq, and_true] at hf
        exact ⟨.inr ⟨hn, hm, hl, hl2, hf.1, hf.2⟩, by simp⟩
      · rw [hf] at l1; omega
    · rcases hk with hk | hk
      · exact absurd hk hn
      · rw [hk] at hl; cases hl
  intro e
  induction e with
  | zero =>
    intro n m b he hz h1 h2 hf
    refine base 0 n m b he hz h1 h2 hf ?_
    by_cases h : n = 0
    · exact .inl h
    · cases hl : (ndAt ns n).leaf with
      | true => exact .inr rfl
      | false => rw [rgt_end h hl] at h1; omega
  | succ e ih =>
    intro n m b he hz h1 h2 hf
    rcases kinds he hz h1 with ⟨hn, l1⟩ | ⟨hn, hl, l1⟩ | ⟨hn, hl, l1⟩
    · exact base _ n m b he hz h1 h2 hf (.inl hn)
    · exact base _ n m b he hz h1 h2 hf (.inr hl)
    · rcases kinds he hz h2 with ⟨hm, l2⟩ | ⟨hm, hl2, l2⟩ | ⟨hm, hl2, l2⟩
      · rw [hf] at l1; omega
      · rw [hf] at l1; omega
      · obtain ⟨f, hf1, a1, a2, _, _⟩ := fork_parts hn hl h1
        obtain rfl : e = f := by omega
        obtain ⟨f, hf2, c1, c2, _, _⟩ := fork_parts hm hl2 h2
        obtain rfl : e = f := by omega
        have hd : 255 - e < 256 := by omega
        have hz' : Zr (255 - e) b := by rw [show 255 - e = 256 - (e + 1) by omega]; exact hz
        have hd1 : 256 - e = 255 - e + 1 := by omega
        have z1 : Zr (256 - e) b := by rw [hd1]; exact zr_succ hz'
        have z2 : Zr (256 - e) (turnD b (255 - e)) := by rw [hd1]; exact zr_turn hz' hd
        have u1 := (for_spec e _ b (by omega) z1 a1).1
        have u2 := (for_spec e _ _ (by omega) z2 a2).1
        have v1 := (for_spec e _ b (by omega) z1 c1).1
        have v2 := (for_spec e _ _ (by omega) z2 c2).1
        rw [hd1] at u1 u2 v1 v2
        obtain ⟨t1, t2⟩ := zeros_two hd hz' u1 u2
        obtain ⟨s1, s2⟩ := zeros_two hd hz' v1 v2
        rw [forP_fork hn hl, forP_fork hm hl2] at hf
        rw [hf] at t1 t2
        have el : forP ns e (ndAt ns n).l = forP ms e (ndAt ms m).l := t1.symm.trans s1
        have er : forP ns e (ndAt ns n).r = forP ms e (ndAt ms m).r := t2.symm.trans s2
        have pl : sumP ns e (ndAt ns n).l = sumP ms e (ndAt ms m).l := by rw [sum_root e _ b (by omega) z1 a1, sum_root e _ b (by omega) z1 c1, el]
        have pr : sumP ns e (ndAt ns n).r = sumP ms e (ndAt ms m).r := by rw [sum_root e _ _ (by omega) z2 a2, sum_root e _ _ (by omega) z2 c2, er]
        obtain ⟨i1, i2⟩ := ih _ _ b (by omega) z1 a1 c1 el
        obtain ⟨j1, j2⟩ := ih _ _ _ (by omega) z2 a2 c2 er
        have sh := fun xs os => zip_one e (sumP xs) os
        rw [wayP_fork hn hl, wayP_fork hm hl2]
        by_cases hb : kb k.1 (255 - e) = 1
        · rw [if_pos hb, if_pos hb]
          refine ⟨j1, ?_⟩
          simp only [List.zipIdx_cons, List.map_cons, Nat.zero_add, sh]
          rw [j2, show e + 1 - 1 - 0 = e by omega, pl]
        · rw [if_neg hb, if_neg hb]
          refine ⟨i1, ?_⟩
          simp only [List.zipIdx_cons, List.map_cons, Nat.zero_add, sh]
          rw [i2, show e + 1 - 1 - 0 = e by omega, pr]
end
theorem makeF_all {t u : Tr} {k : Dg} (ht : mayT t = true) (hu : mayT u = true) (h : allT t = allT u) : makeF t k = makeF u k := by
  obtain ⟨h1, h2⟩ := way_all (k := k) 256 t.root u.root z0 (Nat.le_refl _) zr_z0 (mayT_iff.1 ht).2.2.2.2 (mayT_iff.1 hu).2.2.2.2 h
  have hs : sidesM t k = sidesM u k := by
    unfold sidesM sideL
    rw [if_pos ht, if_pos hu]
    have up : ∀ (l : List Dg) (l2 : List Dg), l.map (·.1) = l2.map (·.1) → l = l2 := fun l => by
      induction l with
      | nil => intro l2 h; cases l2 with
        | nil => rfl
        | cons _ _ => simp at h
      | cons x l ih => intro l2 h; cases l2 with
        | nil => simp at h
        | cons y l2 =>
          simp only [List.map_cons, List.cons.injEq] at h
          rw [Subtype.ext h.1, ih l2 h.2]
    apply up
    rw [List.map_map, List.map_map]
    exact h2
  unfold makeF endN
  rw [if_pos ht, if_pos hu, if_pos ht, if_pos hu, hs]
  rcases h1 with ⟨a, b⟩ | ⟨a, b, c, d, e, f⟩
  · rw [if_pos a, if_pos b]
  · rw [if_neg a, if_neg b, c, d, e, f]

theorem makeF_sl (t : Tr) (k : Dg) : (makeF t k).ss.length ≤ 256 := by
  have hs : (sidesM t k).length ≤ 256 := by
    unfold sidesM
    split
    · rename_i h
      obtain ⟨-, m1, m2, ho, m3⟩ := mayT_iff.1 h
      rw [sideL_length]
      exact (way_spec (k := k) ho 256 t.root z0 (Nat.le_refl _) m1 m2 m3 zr_z0).2.1
    · simp
  unfold makeF
  split
  · split
    · split <;> exact hs
    · exact hs
  · simp [pf0]
/-- A first pair put. -/
theorem with_first {p : Pr} {ps : List Pr} (h : Srt (p :: ps)) : withP ps p.k p.v = p :: ps := by
  have hne : ∀ q ∈ ps, ahead p.k.1 q.k.1 = true := (List.pairwise_cons.1 h).1
  have h1 : withoutP ps p.k = ps := List.filter_eq_self.2 fun q hq => by
    have : q.k ≠ p.k := fun e => by
      have := hne q hq
      rw [e] at this
      exact ahead_ne this rfl
    simpa using this
  have h2 : cnt ps p.k = 0 := by
    cases ps with
    | nil => rfl
    | cons q qs =>
      rw [cnt_cons, if_neg]
      rw [ahead_asymm (hne q (by simp))]
      decide
  unfold withP
  rw [h1, h2]
  rfl
/-- A tree made anew of pairs, the last one first, so many of them put. -/
theorem anew_put {t : Tr} {l : List Pr} {i n : Nat} (hs : Srt l) (hv : ∀ p ∈ l, valB p.v = true) (hi : i < l.length) (hn : t.ns.length ≤ n) (hn2 : n ≤ 261844) (hm : mayT t = true) (ha : allT t = l.drop (i + 1)) :
    tputE t l[i].v = 0 ∧ mayT (tputT t l[i].k l[i].v) = true ∧ allT (tputT t l[i].k l[i].v) = l.drop i ∧ (tputT t l[i].k l[i].v).ns.length ≤ n + 257 := by
  have hE : tputE t l[i].v = 0 := by
    unfold tputE
    rw [if_pos hm, if_pos (hv _ (List.getElem_mem hi)), if_neg (by omega)]
  obtain ⟨⟨m, e1, e2⟩, e3, e4⟩ := tputT_spec (k := l[i].k) hE
  refine ⟨hE, e3, ?_, by rw [e1, List.length_append]; omega⟩
  rw [e4, ha]
  have : l.drop i = l[i] :: l.drop (i + 1) := (List.drop_eq_getElem_cons hi)
  rw [this]
  refine with_first ?_
  rw [← this]
  exact List.Pairwise.sublist (List.drop_sublist i l) hs
end Go.Proofs.YtfjkcdccnbggnaaDoor
