/-
  Trees that are put to, and dropped from: the nodes that come behind, and what all then stands for. No program is named here.
-/
import Derived.Test.YtapnhdpgogfceaaDoorTreeW
import Derived.Test.YtapnhdpgogfceaaDoorPlain
namespace Go.Proofs.YtapnhdpgogfceaaDoor
open Go.RowKit
set_option linter.unusedVariables false

def forkN (l r : Int) : Nd := ⟨false, z0, [], l, r⟩
def leafN (k : Dg) (v : List UInt8) : Nd := ⟨true, k, v, 0, 0⟩
/-- Where a number's two roads lead, a leaf gone down by its key's bit at depth d. -/
def lftD (ns : List Nd) (d : Nat) (n : Int) : Int := if (ndAt ns n).leaf = true then (if kb (ndAt ns n).k.1 d = 1 then 0 else n) else (ndAt ns n).l
def rgtD (ns : List Nd) (d : Nat) (n : Int) : Int := if (ndAt ns n).leaf = true then (if kb (ndAt ns n).k.1 d = 1 then n else 0) else (ndAt ns n).r
/-- A leaf put among what a number stands for, at depth 256 - e. -/
def putN (ns : List Nd) (k : Dg) (v : List UInt8) : Nat → Int → List Nd × Int
  | e, n => if n = 0 ∨ ((ndAt ns n).leaf = true ∧ (ndAt ns n).k = k) then (ns ++ [leafN k v], (ns.length : Int) + 1) else match e with
    | 0 => (ns, 0)
    | e + 1 => if kb k.1 (255 - e) = 1 then ((putN ns k v e (rgtD ns (255 - e) n)).1 ++ [forkN (lftD ns (255 - e) n) (putN ns k v e (rgtD ns (255 - e) n)).2], ((putN ns k v e (rgtD ns (255 - e) n)).1.length : Int) + 1)
      else ((putN ns k v e (lftD ns (255 - e) n)).1 ++ [forkN (putN ns k v e (lftD ns (255 - e) n)).2 (rgtD ns (255 - e) n)], ((putN ns k v e (lftD ns (255 - e) n)).1.length : Int) + 1)
def leafQ (ns : List Nd) (n : Int) : Bool := decide (n ≠ 0) && (ndAt ns n).leaf
def singleQ (ns : List Nd) (a b : Int) : Int := if (leafQ ns a && decide (b = 0)) = true then a else if (leafQ ns b && decide (a = 0)) = true then b else 0
/-- A fork of two, but for a leaf that stands alone. -/
def joinN (ns : List Nd) (l r : Int) : List Nd × Int := if singleQ ns l r = 0 then (ns ++ [forkN l r], (ns.length : Int) + 1) else (ns, singleQ ns l r)
def dropN (ns : List Nd) (k : Dg) : Nat → Int → List Nd × Int
  | e, n => if (ndAt ns n).leaf = true then (ns, 0) else match e with
    | 0 => (ns, 0)
    | e + 1 => if kb k.1 (255 - e) = 1 then joinN (dropN ns k e (ndAt ns n).r).1 (ndAt ns n).l (dropN ns k e (ndAt ns n).r).2
      else joinN (dropN ns k e (ndAt ns n).l).1 (dropN ns k e (ndAt ns n).l).2 (ndAt ns n).r

section
variable {ns ms : List Nd} {e : Nat} {n : Int} {b k : Dg} {v : List UInt8}
theorem putN_end (h : n = 0 ∨ ((ndAt ns n).leaf = true ∧ (ndAt ns n).k = k)) : putN ns k v e n = (ns ++ [leafN k v], (ns.length : Int) + 1) := by cases e <;> simp [putN, h]
theorem putN_step (h : ¬ (n = 0 ∨ ((ndAt ns n).leaf = true ∧ (ndAt ns n).k = k))) : putN ns k v (e + 1) n = if kb k.1 (255 - e) = 1 then ((putN ns k v e (rgtD ns (255 - e) n)).1 ++ [forkN (lftD ns (255 - e) n) (putN ns k v e (rgtD ns (255 - e) n)).2], ((putN ns k v e (rgtD ns (255 - e) n)).1.length : Int) + 1)
      else ((putN ns k v e (lftD ns (255 - e) n)).1 ++ [forkN (putN ns k v e (lftD ns (255 - e) n)).2 (rgtD ns (255 - e) n)], ((putN ns k v e (lftD ns (255 - e) n)).1.length : Int) + 1) := by rw [putN, if_neg h]
theorem dropN_leaf (h : (ndAt ns n).leaf = true) : dropN ns k e n = (ns, 0) := by cases e <;> simp [dropN, h]
theorem dropN_fork (h : (ndAt ns n).leaf = false) : dropN ns k (e + 1) n = if kb k.1 (255 - e) = 1 then joinN (dropN ns k e (ndAt ns n).r).1 (ndAt ns n).l (dropN ns k e (ndAt ns n).r).2
      else joinN (dropN ns k e (ndAt ns n).l).1 (dropN ns k e (ndAt ns n).l).2 (ndAt ns n).r := by rw [dropN, if_neg (by rw [h]; decide)]

/-! ### numbers of old nodes never change -/
theorem ndAt_app (h0 : 0 < n) (hn : n ≤ ns.length) : ndAt (ns ++ ms) n = ndAt ns n := by
  unfold ndAt
  rw [List.getD_eq_getElem?_getD, List.getD_eq_getElem?_getD, List.getElem?_append_left (by omega)]
theorem ndAt_last (x : Nd) : ndAt (ns ++ [x]) ((ns.length : Int) + 1) = x := by
  unfold ndAt
  rw [show ((ns.length : Int) + 1).toNat - 1 = ns.length by omega, List.getD_eq_getElem?_getD, List.getElem?_append_right (Nat.le_refl _), Nat.sub_self]
  rfl
theorem ones_kids (ho : Ones ns) (h0 : 0 < n) (hn : n ≤ ns.length) (hl : (ndAt ns n).leaf = false) : (0 ≤ (ndAt ns n).l ∧ (ndAt ns n).l < n) ∧ (0 ≤ (ndAt ns n).r ∧ (ndAt ns n).r < n) ∧ ¬ ((ndAt ns n).l = 0 ∧ (ndAt ns n).r = 0) := by
  obtain ⟨j, hj, rfl, hx, hone⟩ := ones_at ho h0 hn
  obtain ⟨k1, k2, k3, k4, k5, _⟩ := one_fork hone (by rw [← hx]; exact hl)
  rw [hx]
  exact ⟨⟨k1, by omega⟩, ⟨k3, by omega⟩, k5⟩
theorem ones_app (ho : Ones ns) (hm : ∀ i (h : i < ms.length), oneN ms[i] (ns.length + i) = true) : Ones (ns ++ ms) := fun i hi => by
  rcases Nat.lt_or_ge i ns.length with h | h
  · rw [List.getElem_append_left h]; exact ho i h
  · rw [List.getElem_append_right h]
    have := hm (i - ns.length) (by rw [List.length_append] at hi; omega)
    rw [show ns.length + (i - ns.length) = i by omega] at this
    exact this
theorem ones_snoc {x : Nd} (ho : Ones ns) (hx : oneN x ns.length = true) : Ones (ns ++ [x]) := ones_app ho fun i hi => by
  obtain rfl : i = 0 := by simpa using hi
  exact hx
theorem rgt_app (ho : Ones ns) : ∀ (e : Nat) (n : Int) (b : Dg), 0 ≤ n → n ≤ ns.length → rgt (ns ++ ms) e n b = rgt ns e n b := by
  intro e
  induction e with
  | zero =>
    intro n b h0 hn
    by_cases hz : n = 0
    · subst hz; rw [rgt_zero, rgt_zero]
    · have ha := ndAt_app (ms := ms) (show 0 < n by omega) hn
      cases hl : (ndAt ns n).leaf with
      | true => rw [rgt_leaf hz hl, rgt_leaf hz (by rw [ha]; exact hl), ha]
      | false => rw [rgt_end hz hl, rgt_end hz (by rw [ha]; exact hl)]
  | succ e ih =>
    intro n b h0 hn
    by_cases hz : n = 0
    · subst hz; rw [rgt_zero, rgt_zero]
    · have ha := ndAt_app (ms := ms) (show 0 < n by omega) hn
      cases hl : (ndAt ns n).leaf with
      | true => rw [rgt_leaf hz hl, rgt_leaf hz (by rw [ha]; exact hl), ha]
      | false =>
        obtain ⟨k1, k2, _⟩ := ones_kids ho (by omega) hn hl
        rw [rgt_fork hz hl, rgt_fork hz (by rw [ha]; exact hl), ha, ih _ _ k1.1 (by omega), ih _ _ k2.1 (by omega)]
theorem forP_app (ho : Ones ns) : ∀ (e : Nat) (n : Int), 0 ≤ n → n ≤ ns.length → forP (ns ++ ms) e n = forP ns e n := by
  intro e
  induction e with
  | zero =>
    intro n h0 hn
    by_cases hz : n = 0
    · subst hz; rw [forP_zero, forP_zero]
    · have ha := ndAt_app (ms := ms) (show 0 < n by omega) hn
      cases hl : (ndAt ns n).leaf with
      | true => rw [forP_leaf hz hl, forP_leaf hz (by rw [ha]; exact hl), ha]
      | false => simp [forP, hz, hl, ha]
  | succ e ih =>
    intro n h0 hn
    by_cases hz : n = 0
    · subst hz; rw [forP_zero, forP_zero]
    · have ha := ndAt_app (ms := ms) (show 0 < n by omega) hn
      cases hl : (ndAt ns n).leaf with
      | true => rw [forP_leaf hz hl, forP_leaf hz (by rw [ha]; exact hl), ha]
      | false =>
        obtain ⟨k1, k2, _⟩ := ones_kids ho (by omega) hn hl
        rw [forP_fork hz hl, forP_fork hz (by rw [ha]; exact hl), ha, ih _ k1.1 (by omega), ih _ k2.1 (by omega)]

/-! ### a new fork -/
theorem one_forkN {l r : Int} {a : Nat} (l0 : 0 ≤ l) (la : l ≤ a) (r0 : 0 ≤ r) (ra : r ≤ a) (h : ¬ (l = 0 ∧ r = 0)) : oneN (forkN l r) a = true := by
  unfold oneN forkN
  simp only [Bool.false_eq_true, if_false]
  simp [l0, la, r0, ra]
  omega
theorem one_leafN {a : Nat} (hv : valB v = true) : oneN (leafN k v) a = true := by
  unfold oneN leafN
  simp [hv]
theorem rgt_two (he : e ≤ 256) (hz : Zr (256 - e) b) (hr : 0 ≤ rgt ns e n b) : (rgt ns e n b = 0 ↔ (forP ns e n).length = 0) ∧ (rgt ns e n b = 1 ↔ (forP ns e n).length = 1) ∧ (rgt ns e n b = 2 ↔ 2 ≤ (forP ns e n).length) := by
  obtain ⟨_, _, h0, h1, h2, _⟩ := for_spec e n b he hz hr
  have hle := @rgt_le ns e n b
  have a0 : rgt ns e n b = 0 → (forP ns e n).length = 0 := fun h => by rw [h0 h]; rfl
  generalize rgt ns e n b = q at *
  rcases (show q = 0 ∨ q = 1 ∨ q = 2 by omega) with rfl | rfl | rfl
  · have := a0 rfl; simp [this]
  · have := h1 rfl; simp [this]
  · have := h2 rfl; omega
/-- A fork of two that are right, and stand for two pairs at least. -/
theorem fork_right {l r : Int} (ho : Ones ns) (he : e + 1 ≤ 256) (hz : Zr (255 - e) b) (l0 : 0 ≤ l) (ln : l ≤ ns.length) (r0 : 0 ≤ r) (rn : r ≤ ns.length)
    (hl : 0 ≤ rgt ns e l b) (hr : 0 ≤ rgt ns e r (turnD b (255 - e))) (h2 : 2 ≤ (forP ns e l).length + (forP ns e r).length) :
    Ones (ns ++ [forkN l r]) ∧ 0 ≤ rgt (ns ++ [forkN l r]) (e + 1) ((ns.length : Int) + 1) b ∧ forP (ns ++ [forkN l r]) (e + 1) ((ns.length : Int) + 1) = forP ns e l ++ forP ns e r := by
  have hne : (ns.length : Int) + 1 ≠ 0 := by omega
  have ha : ndAt (ns ++ [forkN l r]) ((ns.length : Int) + 1) = forkN l r := ndAt_last _
  have hd : 255 - e < 256 := by omega
  have z1 : Zr (256 - e) b := by rw [show 256 - e = 255 - e + 1 by omega]; exact zr_succ hz
  have z2 : Zr (256 - e) (turnD b (255 - e)) := by rw [show 256 - e = 255 - e + 1 by omega]; exact zr_turn hz hd
  have q1 := rgt_two (by omega) z1 hl
  have q2 := rgt_two (by omega) z2 hr
  have hlr : ¬ (l = 0 ∧ r = 0) := by
    rintro ⟨rfl, rfl⟩
    rw [forP_zero] at h2
    simp at h2
  refine ⟨ones_snoc ho (one_forkN l0 ln r0 rn hlr), ?_, ?_⟩
  · rw [rgt_fork hne (by rw [ha]; rfl), ha]
    show 0 ≤ if rgt (ns ++ [forkN l r]) e l b < 0 then (-1 : Int) else if rgt (ns ++ [forkN l r]) e r (turnD b (255 - e)) < 0 ∨ rgt (ns ++ [forkN l r]) e l b + rgt (ns ++ [forkN l r]) e r (turnD b (255 - e)) < 2 then -1 else 2
    rw [rgt_app ho e l b l0 ln, rgt_app ho e r _ r0 rn]
    have w1 := @rgt_le ns e l b
    have w2 := @rgt_le ns e r (turnD b (255 - e))
    generalize rgt ns e l b = x at *
    generalize rgt ns e r (turnD b (255 - e)) = y at *
    rw [if_neg (by omega), if_neg (by omega)]
    decide
  · rw [forP_fork hne (by rw [ha]; rfl), ha]
    show forP (ns ++ [forkN l r]) e l ++ forP (ns ++ [forkN l r]) e r = _
    rw [forP_app ho e l l0 ln, forP_app ho e r r0 rn]

/-! ### maps in two halves -/
theorem with_left {l r : List Pr} {d : Nat} (hd : d < 256) (hz : Zr d b) (u1 : Und (d + 1) b l) (u2 : Und (d + 1) (turnD b d) r) (s1 : Srt l) (s2 : Srt r) (hk : ∀ i, i < d → kb k.1 i = kb b.1 i) (h0 : kb k.1 d = 0) : withP l k v ++ r = withP (l ++ r) k v := by
  have uk : Und (d + 1) b (withP l k v) := fun p hp i hi => by
    rcases with_mem.1 hp with rfl | ⟨h, _⟩
    · rcases Nat.lt_or_ge i d with h | h
      · exact hk i h
      · obtain rfl : i = d := by omega
        rw [h0, hz i (Nat.le_refl _) hd]
    · exact u1 p h i hi
  have hkr : ∀ p ∈ r, p.k ≠ k := fun p hp e => by
    have := u2 p hp d (by omega)
    rw [turn_self hz hd, e, h0] at this
    cases this
  refine srt_ext (srt_two hd hz (with_srt s1 k v) s2 uk u2) (with_srt (srt_two hd hz s1 s2 u1 u2) k v) fun p => ?_
  rw [List.mem_append, with_mem, with_mem, List.mem_append]
  constructor
  · rintro ((h | ⟨h, q⟩) | h)
    · exact .inl h
    · exact .inr ⟨.inl h, q⟩
    · exact .inr ⟨.inr h, hkr p h⟩
  · rintro (h | ⟨h | h, q⟩)
    · exact .inl (.inl h)
    · exact .inl (.inr ⟨h, q⟩)
    · exact .inr h
theorem with_right {l r : List Pr} {d : Nat} (hd : d < 256) (hz : Zr d b) (u1 : Und (d + 1) b l) (u2 : Und (d + 1) (turnD b d) r) (s1 : Srt l) (s2 : Srt r) (hk : ∀ i, i < d → kb k.1 i = kb b.1 i) (h1 : kb k.1 d = 1) : l ++ withP r k v = withP (l ++ r) k v := by
  have uk : Und (d + 1) (turnD b d) (withP r k v) := fun p hp i hi => by
    rcases with_mem.1 hp with rfl | ⟨h, _⟩
    · rcases Nat.lt_or_ge i d with h | h
      · rw [turn_low hd h]; exact hk i h
      · obtain rfl : i = d := by omega
        rw [turn_self hz hd]; exact h1
    · exact u2 p h i hi
  have hkl : ∀ p ∈ l, p.k ≠ k := fun p hp e => by
    have := u1 p hp d (by omega)
    rw [hz d (Nat.le_refl _) hd, e, h1] at this
    cases this
  refine srt_ext (srt_two hd hz s1 (with_srt s2 k v) u1 uk) (with_srt (srt_two hd hz s1 s2 u1 u2) k v) fun p => ?_
  rw [List.mem_append, with_mem, with_mem, List.mem_append]
  constructor
  · rintro (h | h | ⟨h, q⟩)
    · exact .inr ⟨.inl h, hkl p h⟩
    · exact .inl h
    · exact .inr ⟨.inr h, q⟩
  · rintro (h | ⟨h | h, q⟩)
    · exact .inr (.inl h)
    · exact .inl h
    · exact .inr (.inr ⟨h, q⟩)
theorem without_left {l r : List Pr} {d : Nat} (hd : d < 256) (hz : Zr d b) (u2 : Und (d + 1) (turnD b d) r) (h0 : kb k.1 d = 0) : withoutP l k ++ r = withoutP (l ++ r) k := by
  have hkr : ∀ p ∈ r, p.k ≠ k := fun p hp e => by
    have := u2 p hp d (by omega)
    rw [turn_self hz hd, e, h0] at this
    cases this
  unfold withoutP
  rw [List.filter_append]
  congr 1
  exact (List.filter_eq_self.2 fun p hp => decide_eq_true (hkr p hp)).symm
theorem without_right {l r : List Pr} {d : Nat} (hd : d < 256) (hz : Zr d b) (u1 : Und (d + 1) b l) (h1 : kb k.1 d = 1) : l ++ withoutP r k = withoutP (l ++ r) k := by
  have hkl : ∀ p ∈ l, p.k ≠ k := fun p hp e => by
    have := u1 p hp d (by omega)
    rw [hz d (Nat.le_refl _) hd, e, h1] at this
    cases this
  unfold withoutP
  rw [List.filter_append]
  congr 1
  exact (List.filter_eq_self.2 fun p hp => decide_eq_true (hkl p hp)).symm
theorem withP_nil : withP [] k v = [⟨k, v⟩] := by simp [withP, withoutP, cnt]
theorem with_same {u : List UInt8} : withP [⟨k, u⟩] k v = [⟨k, v⟩] := by
  refine srt_ext (with_srt (List.pairwise_singleton _ _) k v) (List.pairwise_singleton _ _) fun p => ?_
  rw [with_mem, List.mem_singleton, List.mem_singleton]
  constructor
  · rintro (h | ⟨rfl, h⟩)
    · exact h
    · exact absurd rfl h
  · exact .inl
theorem with_len_other {l : List Pr} (h : ∃ p ∈ l, p.k ≠ k) : 2 ≤ (withP l k v).length := by
  rw [with_length]
  obtain ⟨p, hp, hk⟩ := h
  have : p ∈ withoutP l k := List.mem_filter.2 ⟨hp, decide_eq_true hk⟩
  have := List.length_pos_of_mem this
  omega

/-! ### put -/
/-- What is left and right of a number that is right, a leaf gone down. -/
theorem down_parts (ho : Ones ns) (h0 : 0 < n) (hn : n ≤ ns.length) (he : e + 1 ≤ 256) (hz : Zr (255 - e) b) (hr : 0 ≤ rgt ns (e + 1) n b) :
    (0 ≤ lftD ns (255 - e) n ∧ lftD ns (255 - e) n ≤ ns.length) ∧ (0 ≤ rgtD ns (255 - e) n ∧ rgtD ns (255 - e) n ≤ ns.length) ∧
    0 ≤ rgt ns e (lftD ns (255 - e) n) b ∧ 0 ≤ rgt ns e (rgtD ns (255 - e) n) (turnD b (255 - e)) ∧ forP ns (e + 1) n = forP ns e (lftD ns (255 - e) n) ++ forP ns e (rgtD ns (255 - e) n) ∧
    1 ≤ (forP ns (e + 1) n).length := by
  have hz2 : Zr (256 - (e + 1)) b := by rw [show 256 - (e + 1) = 255 - e by omega]; exact hz
  have hd : 255 - e < 256 := by omega
  cases hl : (ndAt ns n).leaf with
  | false =>
    obtain ⟨k1, k2, _⟩ := ones_kids ho h0 hn hl
    obtain ⟨f, hf, r1, r2, r3, _⟩ := fork_parts (by omega) hl hr
    obtain rfl : e = f := by omega
    have q := (rgt_two he hz2 hr).2.2.1
    unfold lftD rgtD
    rw [hl]
    simp only [Bool.false_eq_true, if_false]
    refine ⟨⟨k1.1, by omega⟩, ⟨k2.1, by omega⟩, r1, r2, forP_fork (by omega) hl, ?_⟩
    obtain ⟨_, _, _, _, _, h5⟩ := fork_parts (by omega) hl hr
    have := q h5
    omega
  | true =>
    have hne : n ≠ 0 := by omega
    have hs := hr
    rw [rgt_leaf hne hl] at hs
    have hs : 256 - (e + 1) ≤ shared (ndAt ns n).k.1 b.1 := by
      split at hs
      · omega
      · omega
    unfold lftD rgtD
    rw [hl]
    simp only [if_true]
    have hbit := kb_lt (ndAt ns n).k.1 (255 - e)
    rcases (show kb (ndAt ns n).k.1 (255 - e) = 0 ∨ kb (ndAt ns n).k.1 (255 - e) = 1 by omega) with hb | hb
    · rw [if_neg (by omega), if_neg (by omega)]
      refine ⟨⟨by omega, hn⟩, ⟨Int.le_refl _, by omega⟩, ?_, by rw [rgt_zero]; decide, by rw [forP_leaf hne hl, forP_leaf hne hl, forP_zero]; rfl, by rw [forP_leaf hne hl]; exact Nat.le_refl 1⟩
      rw [rgt_leaf hne hl, if_neg]
      · decide
      · intro hlt
        have h1 : shared (ndAt ns n).k.1 b.1 = 255 - e := by omega
        have := shared_ne (a := (ndAt ns n).k.1) (b := b.1) (by omega)
        rw [h1, hb, hz _ (Nat.le_refl _) hd] at this
        exact this rfl
    · rw [if_pos hb, if_pos hb]
      refine ⟨⟨Int.le_refl _, by omega⟩, ⟨by omega, hn⟩, by rw [rgt_zero]; decide, ?_, by rw [forP_leaf hne hl, forP_leaf hne hl, forP_zero]; rfl, by rw [forP_leaf hne hl]; exact Nat.le_refl 1⟩
      rw [rgt_leaf hne hl, if_neg]
      · decide
      · intro hlt
        have h1 := shared_ne (a := (ndAt ns n).k.1) (b := (turnD b (255 - e)).1) (by omega)
        have h2 : shared (ndAt ns n).k.1 (turnD b (255 - e)).1 < 256 - e := hlt
        rcases Nat.lt_or_ge (shared (ndAt ns n).k.1 (turnD b (255 - e)).1) (255 - e) with h3 | h3
        · rw [turn_low hd h3] at h1
          exact h1 (shared_eq (by omega))
        · have h4 : shared (ndAt ns n).k.1 (turnD b (255 - e)).1 = 255 - e := by omega
          rw [h4, hb, turn_self hz hd] at h1
          exact h1 rfl
structure PutOk (ns : List Nd) (e : Nat) (b : Dg) (ps : List Pr) (r : List Nd × Int) : Prop where
  add : ∃ ms, r.1 = ns ++ ms ∧ ms.length ≤ e + 1
  ones : Ones r.1
  pos : 0 ≤ r.2
  le : r.2 ≤ r.1.length
  right : 0 ≤ rgt r.1 e r.2 b
  all : forP r.1 e r.2 = ps
theorem put_leaf (ho : Ones ns) (hv : valB v = true) (hz : Zr (256 - e) b) (hk : ∀ i, i < 256 - e → kb k.1 i = kb b.1 i) : PutOk ns e b [⟨k, v⟩] (ns ++ [leafN k v], (ns.length : Int) + 1) := by
  have hne : (ns.length : Int) + 1 ≠ 0 := by omega
  have ha : ndAt (ns ++ [leafN k v]) ((ns.length : Int) + 1) = leafN k v := ndAt_last _
  refine ⟨⟨_, rfl, by simp⟩, ones_snoc ho (one_leafN hv), by dsimp only; omega, by simp, ?_, ?_⟩
  · dsimp only
    rw [rgt_leaf hne (by rw [ha]; rfl), ha, if_neg]
    · decide
    · intro h
      have h2 : shared k.1 b.1 < 256 - e := h
      exact shared_ne (a := k.1) (b := b.1) (by omega) (hk _ h2)
  · dsimp only
    rw [forP_leaf hne (by rw [ha]; rfl), ha]
    rfl
theorem put_spec (ho : Ones ns) (hv : valB v = true) : ∀ (e : Nat) (n : Int) (b : Dg), e ≤ 256 → 0 ≤ n → n ≤ ns.length → Zr (256 - e) b → 0 ≤ rgt ns e n b → (∀ i, i < 256 - e → kb k.1 i = kb b.1 i) →
    PutOk ns e b (withP (forP ns e n) k v) (putN ns k v e n) := by
  intro e
  induction e with
  | zero =>
    intro n b _ h0 hn hz hr hk
    have hc : n = 0 ∨ ((ndAt ns n).leaf = true ∧ (ndAt ns n).k = k) := by
      by_cases h : n = 0
      · exact .inl h
      · cases hl : (ndAt ns n).leaf with
        | false => rw [rgt_end h hl] at hr; omega
        | true =>
          rw [rgt_leaf h hl] at hr
          refine .inr ⟨rfl, dg_ext (key_ext (ndAt ns n).k.2 k.2 fun i hi => ?_)⟩
          have : 256 ≤ shared (ndAt ns n).k.1 b.1 := by
            split at hr
            · omega
            · omega
          rw [shared_eq (a := (ndAt ns n).k.1) (b := b.1) (by omega), hk i (by omega)]
    rw [putN_end hc]
    have : withP (forP ns 0 n) k v = [⟨k, v⟩] := by
      rcases hc with rfl | ⟨h1, h2⟩
      · rw [forP_zero, withP_nil]
      · by_cases h : n = 0
        · subst h; rw [forP_zero, withP_nil]
        · rw [forP_leaf h h1, h2, with_same]
    rw [this]
    exact put_leaf ho hv hz hk
  | succ e ih =>
    intro n b he h0 hn hz hr hk
    by_cases hc : n = 0 ∨ ((ndAt ns n).leaf = true ∧ (ndAt ns n).k = k)
    · rw [putN_end hc]
      have : withP (forP ns (e + 1) n) k v = [⟨k, v⟩] := by
        rcases hc with rfl | ⟨h1, h2⟩
        · rw [forP_zero, withP_nil]
        · by_cases h : n = 0
          · subst h; rw [forP_zero, withP_nil]
          · rw [forP_leaf h h1, h2, with_same]
      rw [this]
      exact put_leaf ho hv hz hk
    · have hne : n ≠ 0 := fun h => hc (.inl h)
      have hnk : ¬ ((ndAt ns n).leaf = true ∧ (ndAt ns n).k = k) := fun h => hc (.inr h)
      have hd : 255 - e < 256 := by omega
      have hz' : Zr (255 - e) b := by rw [show 255 - e = 256 - (e + 1) by omega]; exact hz
      have hk' : ∀ i, i < 255 - e → kb k.1 i = kb b.1 i := fun i hi => hk i (by omega)
      have hbit := kb_lt k.1 (255 - e)
      obtain ⟨⟨l0, ln⟩, ⟨r0, rn⟩, rl, rr, hf, hp⟩ := down_parts ho (by omega) hn he hz' hr
      have hl2 : 2 ≤ (withP (forP ns (e + 1) n) k v).length := by
        cases hl : (ndAt ns n).leaf with
        | true =>
          rw [forP_leaf hne hl]
          exact with_len_other ⟨_, List.mem_singleton.2 rfl, fun h => hnk ⟨hl, h⟩⟩
        | false =>
          obtain ⟨_, hs, _, _, h2, _⟩ := for_spec (e + 1) n b he hz hr
          obtain ⟨_, _, _, _, _, h5⟩ := fork_parts hne hl hr
          have h6 := h2 h5
          by_cases hh : hasP (forP ns (e + 1) n) k = true
          · have := without_length hs hh
            rw [with_length]
            omega
          · rw [with_length, without_no (by simpa using hh)]
            omega
      generalize hL : lftD ns (255 - e) n = l at *
      generalize hR : rgtD ns (255 - e) n = r at *
      have z1 : Zr (256 - e) b := by rw [show 256 - e = 255 - e + 1 by omega]; exact zr_succ hz'
      have z2 : Zr (256 - e) (turnD b (255 - e)) := by rw [show 256 - e = 255 - e + 1 by omega]; exact zr_turn hz' hd
      obtain ⟨u1, s1, _, _, _, _⟩ := for_spec e l b (by omega) z1 rl
      obtain ⟨u2, s2, _, _, _, _⟩ := for_spec e r (turnD b (255 - e)) (by omega) z2 rr
      rw [show 256 - e = 255 - e + 1 by omega] at u1 u2
      rw [putN_step hc, hL, hR]
      rcases (show kb k.1 (255 - e) = 0 ∨ kb k.1 (255 - e) = 1 by omega) with hb | hb
      · rw [if_neg (by omega)]
        have I := ih l b (by omega) l0 ln z1 rl (fun i hi => by
          rcases Nat.lt_or_ge i (255 - e) with h | h
          · exact hk' i h
          · obtain rfl : i = 255 - e := by omega
            rw [hb, hz' _ (Nat.le_refl _) hd])
        have hall := with_left (v := v) hd hz' u1 u2 s1 s2 hk' hb
        rw [← hf] at hall
        generalize putN ns k v e l = q at *
        obtain ⟨ns2, m⟩ := q
        obtain ⟨⟨ms, rfl, hms⟩, o2, m0, m1, mr, ma⟩ := I
        dsimp only at *
        have hr1 := rgt_app (ms := ms) ho e r (turnD b (255 - e)) r0 rn
        have hr2 := forP_app (ms := ms) ho e r r0 rn
        have F := fork_right (l := m) (r := r) o2 he hz' m0 m1 r0 (by rw [List.length_append]; omega) mr (by rw [hr1]; exact rr) (by rw [ma, hr2, ← List.length_append, hall]; exact hl2)
        refine ⟨⟨ms ++ [forkN m r], by simp, by simp; omega⟩, F.1, by dsimp only; omega, by dsimp only; simp only [List.length_append, List.length_singleton]; omega, F.2.1, ?_⟩
        rw [F.2.2, ma, hr2, hall]
      · rw [if_pos hb]
        have I := ih r (turnD b (255 - e)) (by omega) r0 rn z2 rr (fun i hi => by
          rcases Nat.lt_or_ge i (255 - e) with h | h
          · rw [turn_low hd h]; exact hk' i h
          · obtain rfl : i = 255 - e := by omega
            rw [hb, turn_self hz' hd])
        have hall := with_right (v := v) hd hz' u1 u2 s1 s2 hk' hb
        rw [← hf] at hall
        generalize putN ns k v e r = q at *
        obtain ⟨ns2, m⟩ := q
        obtain ⟨⟨ms, rfl, hms⟩, o2, m0, m1, mr, ma⟩ := I
        dsimp only at *
        have hr1 := rgt_app (ms := ms) ho e l b l0 ln
        have hr2 := forP_app (ms := ms) ho e l l0 ln
        have F := fork_right (l := l) (r := m) o2 he hz' l0 (by rw [List.length_append]; omega) m0 m1 (by rw [hr1]; exact rl) mr (by rw [ma, hr2, ← List.length_append, hall]; exact hl2)
        refine ⟨⟨ms ++ [forkN l m], by simp, by simp; omega⟩, F.1, by dsimp only; omega, by dsimp only; simp only [List.length_append, List.length_singleton]; omega, F.2.1, ?_⟩
        rw [F.2.2, ma, hr2, hall]

/-! ### drop -/
theorem leafQ_kind {e : Nat} (h : 0 ≤ rgt ns e n b) : (n = 0 ∧ leafQ ns n = false ∧ (forP ns e n).length = 0) ∨ (n ≠ 0 ∧ leafQ ns n = true ∧ (forP ns e n).length = 1) ∨ (n ≠ 0 ∧ leafQ ns n = false ∧ rgt ns e n b = 2) := by
  by_cases hz : n = 0
  · subst hz; exact .inl ⟨rfl, by simp [leafQ], by rw [forP_zero]; rfl⟩
  · cases hl : (ndAt ns n).leaf with
    | true => exact .inr (.inl ⟨hz, by simp [leafQ, hz, hl], by rw [forP_leaf hz hl]; rfl⟩)
    | false =>
      obtain ⟨_, _, _, _, _, h5⟩ := fork_parts hz hl h
      exact .inr (.inr ⟨hz, by simp [leafQ, hl], h5⟩)
theorem drop_join {l r : Int} {e : Nat} (ho : Ones ns) (he : e + 1 ≤ 256) (hz : Zr (255 - e) b) (l0 : 0 ≤ l) (ln : l ≤ ns.length) (r0 : 0 ≤ r) (rn : r ≤ ns.length)
    (hl : 0 ≤ rgt ns e l b) (hr : 0 ≤ rgt ns e r (turnD b (255 - e))) (h1 : 1 ≤ (forP ns e l).length + (forP ns e r).length) {os : List Nd} {N : Nat} (hos : ∃ ms, ns = os ++ ms ∧ ms.length ≤ N) :
    (∃ ms, (joinN ns l r).1 = os ++ ms ∧ ms.length ≤ N + 1) ∧ Ones (joinN ns l r).1 ∧ 0 ≤ (joinN ns l r).2 ∧ (joinN ns l r).2 ≤ (joinN ns l r).1.length ∧ 0 ≤ rgt (joinN ns l r).1 (e + 1) (joinN ns l r).2 b ∧ forP (joinN ns l r).1 (e + 1) (joinN ns l r).2 = forP ns e l ++ forP ns e r := by
  have hd : 255 - e < 256 := by omega
  have z1 : Zr (256 - e) b := by rw [show 256 - e = 255 - e + 1 by omega]; exact zr_succ hz
  have z2 : Zr (256 - e) (turnD b (255 - e)) := by rw [show 256 - e = 255 - e + 1 by omega]; exact zr_turn hz hd
  have q1 := rgt_two (by omega) z1 hl
  have q2 := rgt_two (by omega) z2 hr
  obtain ⟨ms, rfl, hms⟩ := hos
  by_cases hs : singleQ (os ++ ms) l r = 0
  · have h2 : 2 ≤ (forP (os ++ ms) e l).length + (forP (os ++ ms) e r).length := by
      have k1 := leafQ_kind hl
      have k2 := leafQ_kind hr
      unfold singleQ at hs
      rcases k1 with ⟨a1, a2, a3⟩ | ⟨a1, a2, a3⟩ | ⟨a1, a2, a3⟩ <;> rcases k2 with ⟨c1, c2, c3⟩ | ⟨c1, c2, c3⟩ | ⟨c1, c2, c3⟩ <;> simp [a1, a2, c1, c2] at hs <;> omega
    have F := fork_right (l := l) (r := r) ho he hz l0 ln r0 rn hl hr h2
    have hj : joinN (os ++ ms) l r = (os ++ ms ++ [forkN l r], ((os ++ ms).length : Int) + 1) := by unfold joinN; rw [if_pos hs]
    rw [hj]
    exact ⟨⟨ms ++ [forkN l r], by simp, by simp; omega⟩, F.1, by dsimp only; omega, by dsimp only; simp only [List.length_append, List.length_singleton]; omega, F.2.1, F.2.2⟩
  · have hj : joinN (os ++ ms) l r = (os ++ ms, singleQ (os ++ ms) l r) := by unfold joinN; rw [if_neg hs]
    rw [hj]
    dsimp only
    have up : ∀ (m : Int) (b' : Dg), (∀ i, i < 255 - e → kb b'.1 i = kb b.1 i) → m ≠ 0 → (ndAt (os ++ ms) m).leaf = true → 0 ≤ rgt (os ++ ms) e m b' → 0 ≤ rgt (os ++ ms) (e + 1) m b := fun m b' hbb hm hlf h => by
      rw [rgt_leaf hm hlf] at h ⊢
      split at h
      · omega
      · rename_i h3
        rw [if_neg]
        · decide
        · intro h4
          refine shared_ne (a := (ndAt (os ++ ms) m).k.1) (b := b.1) (by omega) ?_
          rw [← hbb _ (by omega)]
          exact shared_eq (by omega)
    unfold singleQ at hs ⊢
    by_cases c1 : (leafQ (os ++ ms) l && decide (r = 0)) = true
    · rw [if_pos c1]
      simp only [Bool.and_eq_true, decide_eq_true_eq] at c1
      obtain ⟨c1, rfl⟩ := c1
      unfold leafQ at c1
      simp only [Bool.and_eq_true, decide_eq_true_eq] at c1
      exact ⟨⟨ms, rfl, by omega⟩, ho, l0, ln, up l b (fun _ _ => rfl) c1.1 c1.2 hl, by rw [forP_leaf c1.1 c1.2, forP_leaf c1.1 c1.2, forP_zero, List.append_nil]⟩
    · rw [if_neg c1] at hs ⊢
      by_cases c2 : (leafQ (os ++ ms) r && decide (l = 0)) = true
      · rw [if_pos c2]
        simp only [Bool.and_eq_true, decide_eq_true_eq] at c2
        obtain ⟨c2, rfl⟩ := c2
        unfold leafQ at c2
        simp only [Bool.and_eq_true, decide_eq_true_eq] at c2
        exact ⟨⟨ms, rfl, by omega⟩, ho, r0, rn, up r _ (fun i hi => turn_low hd hi) c2.1 c2.2 hr, by rw [forP_leaf c2.1 c2.2, forP_leaf c2.1 c2.2, forP_zero, List.nil_append]⟩
      · rw [if_neg c2] at hs
        exact absurd rfl hs
structure DropOk (ns : List Nd) (e : Nat) (b : Dg) (ps : List Pr) (r : List Nd × Int) : Prop where
  add : ∃ ms, r.1 = ns ++ ms ∧ ms.length ≤ e
  ones : Ones r.1
  pos : 0 ≤ r.2
  le : r.2 ≤ r.1.length
  right : 0 ≤ rgt r.1 e r.2 b
  all : forP r.1 e r.2 = ps
theorem drop_spec (ho : Ones ns) : ∀ (e : Nat) (n : Int) (b : Dg), e ≤ 256 → 0 ≤ n → n ≤ ns.length → Zr (256 - e) b → 0 ≤ rgt ns e n b → hasP (forP ns e n) k = true →
    DropOk ns e b (withoutP (forP ns e n) k) (dropN ns k e n) := by
  have leafC : ∀ (e : Nat) (n : Int) (b : Dg), n ≠ 0 → (ndAt ns n).leaf = true → hasP (forP ns e n) k = true → DropOk ns e b (withoutP (forP ns e n) k) (dropN ns k e n) := fun e n b hz hl hh => by
    rw [dropN_leaf hl]
    rw [forP_leaf hz hl] at hh ⊢
    have hk : (ndAt ns n).k = k := by simpa [hasP] using hh
    refine ⟨⟨[], by simp, Nat.zero_le _⟩, ho, Int.le_refl _, by dsimp only; omega, by dsimp only; rw [rgt_zero]; decide, ?_⟩
    dsimp only
    rw [forP_zero]
    simp [withoutP, hk]
  intro e
  induction e with
  | zero =>
    intro n b _ h0 hn hz hr hh
    by_cases h : n = 0
    · subst h; rw [forP_zero] at hh; cases hh
    · cases hl : (ndAt ns n).leaf with
      | false => rw [rgt_end h hl] at hr; omega
      | true => exact leafC 0 n b h hl hh
  | succ e ih =>
    intro n b he h0 hn hz hr hh
    by_cases h : n = 0
    · subst h; rw [forP_zero] at hh; cases hh
    · cases hl : (ndAt ns n).leaf with
      | true => exact leafC (e + 1) n b h hl hh
      | false =>
        have hd : 255 - e < 256 := by omega
        have hz' : Zr (255 - e) b := by rw [show 255 - e = 256 - (e + 1) by omega]; exact hz
        have hbit := kb_lt k.1 (255 - e)
        obtain ⟨k1, k2, _⟩ := ones_kids ho (by omega) hn hl
        obtain ⟨f, hf, rl, rr, r3, r4⟩ := fork_parts h hl hr
        obtain rfl : e = f := by omega
        have hlen := (rgt_two he hz hr).2.2.1 r4
        have hfk := forP_fork (e := e) h hl
        rw [hfk] at hlen hh ⊢
        rw [dropN_fork hl]
        have z1 : Zr (256 - e) b := by rw [show 256 - e = 255 - e + 1 by omega]; exact zr_succ hz'
        have z2 : Zr (256 - e) (turnD b (255 - e)) := by rw [show 256 - e = 255 - e + 1 by omega]; exact zr_turn hz' hd
        obtain ⟨u1, s1, _, _, _, _⟩ := for_spec e (ndAt ns n).l b (by omega) z1 rl
        obtain ⟨u2, s2, _, _, _, _⟩ := for_spec e (ndAt ns n).r (turnD b (255 - e)) (by omega) z2 rr
        rw [show 256 - e = 255 - e + 1 by omega] at u1 u2
        generalize (ndAt ns n).l = l at *
        generalize (ndAt ns n).r = r at *
        have hS := srt_two hd hz' s1 s2 u1 u2
        have hwl := without_length hS hh
        rcases (show kb k.1 (255 - e) = 0 ∨ kb k.1 (255 - e) = 1 by omega) with hb | hb
        · rw [if_neg (by omega)]
          have hall := without_left (l := forP ns e l) hd hz' u2 hb
          have hin : hasP (forP ns e l) k = true := by
            obtain ⟨p, hp, rfl⟩ := hasP_mem.1 hh
            rcases List.mem_append.1 hp with hp | hp
            · exact hasP_mem.2 ⟨p, hp, rfl⟩
            · have := u2 p hp (255 - e) (by omega)
              rw [turn_self hz' hd, hb] at this
              cases this
          have I := ih l b (by omega) k1.1 (by omega) z1 rl hin
          generalize dropN ns k e l = q at *
          obtain ⟨ns2, m⟩ := q
          obtain ⟨⟨ms, rfl, hms⟩, o2, m0, m1, mr, ma⟩ := I
          dsimp only at *
          have hr1 := rgt_app (ms := ms) ho e r (turnD b (255 - e)) k2.1 (by omega)
          have hr2 := forP_app (ms := ms) ho e r k2.1 (by omega)
          obtain ⟨a1, a2, a3, a4, a5, a6⟩ := drop_join (l := m) (r := r) (os := ns) (N := e) o2 he hz' m0 m1 k2.1 (by rw [List.length_append]; omega) mr (by rw [hr1]; exact rr) (by rw [ma, hr2, ← List.length_append, hall]; omega) ⟨ms, rfl, hms⟩
          exact ⟨a1, a2, a3, a4, a5, by rw [a6, ma, hr2, hall]⟩
        · rw [if_pos hb]
          have hall := without_right (r := forP ns e r) hd hz' u1 hb
          have hin : hasP (forP ns e r) k = true := by
            obtain ⟨p, hp, rfl⟩ := hasP_mem.1 hh
            rcases List.mem_append.1 hp with hp | hp
            · have := u1 p hp (255 - e) (by omega)
              rw [hz' _ (Nat.le_refl _) hd, hb] at this
              cases this
            · exact hasP_mem.2 ⟨p, hp, rfl⟩
          have I := ih r (turnD b (255 - e)) (by omega) k2.1 (by omega) z2 rr hin
          generalize dropN ns k e r = q at *
          obtain ⟨ns2, m⟩ := q
          obtain ⟨⟨ms, rfl, hms⟩, o2, m0, m1, mr, ma⟩ := I
          dsimp only at *
          have hr1 := rgt_app (ms := ms) ho e l b k1.1 (by omega)
          have hr2 := forP_app (ms := ms) ho e l k1.1 (by omega)
          obtain ⟨a1, a2, a3, a4, a5, a6⟩ := drop_join (l := l) (r := m) (os := ns) (N := e) o2 he hz' k1.1 (by rw [List.length_append]; omega) m0 m1 (by rw [hr1]; exact rl) mr (by rw [ma, hr2, ← List.length_append, hall]; omega) ⟨ms, rfl, hms⟩
          exact ⟨a1, a2, a3, a4, a5, by rw [a6, ma, hr2, hall]⟩
end
end Go.Proofs.YtapnhdpgogfceaaDoor
