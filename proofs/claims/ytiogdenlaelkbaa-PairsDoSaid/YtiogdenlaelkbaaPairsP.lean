/-
  Maps as lists of pairs: what may be one, a key's value, one with a pair more, or without one. No program is named here.
-/
import Derived.Test.YtiogdenlaelkbaaPair
import Derived.Test.YtiogdenlaelkbaaKeyP
namespace Go.Proofs.Ytiogdenlaelkbaa
set_option linter.unusedVariables false

def valB (v : List UInt8) : Bool := decide (1 ≤ v.length ∧ v.length ≤ 64)
def chain : List Pr → Bool
  | [] => true
  | [p] => valB p.v
  | p :: q :: r => valB p.v && ahead p.k.1 q.k.1 && chain (q :: r)
def mayP (ps : List Pr) : Bool := decide (ps.length ≤ 512) && chain ps

/-- What a loop over a map asks at a place. -/
def Good (ps : List Pr) (i : Nat) : Prop := ∀ h : i < ps.length, valB ps[i].v = true ∧ (0 < i → ahead (ps[i - 1]'(by omega)).k.1 ps[i].k.1 = true)
theorem chain_iff (ps : List Pr) : chain ps = true ↔ ∀ i, Good ps i := by
  match ps with
  | [] => simp [chain, Good]
  | [p] =>
    simp only [chain, Good]
    constructor
    · intro h i hi
      simp at hi
      subst hi
      exact ⟨h, fun h0 => absurd h0 (by omega)⟩
    · intro h
      exact (h 0 (by simp)).1
  | p :: q :: r =>
    have ih := chain_iff (q :: r)
    simp only [chain, Bool.and_eq_true, ih]
    constructor
    · rintro ⟨⟨h1, h2⟩, h3⟩ i hi
      rcases i with _ | i
      · exact ⟨h1, fun h0 => absurd h0 (by omega)⟩
      · obtain ⟨g1, g2⟩ := h3 i (by simpa using hi)
        refine ⟨g1, fun _ => ?_⟩
        rcases i with _ | i
        · exact h2
        · exact g2 (by omega)
    · intro h
      refine ⟨⟨(h 0 (by simp)).1, (h 1 (by simp)).2 (by omega)⟩, fun i hi => ?_⟩
      obtain ⟨g1, g2⟩ := h (i + 1) (by simpa using hi)
      refine ⟨g1, fun h0 => ?_⟩
      obtain ⟨j, rfl⟩ : ∃ j, i = j + 1 := ⟨i - 1, by omega⟩
      exact g2 (by omega)

/-- In order. -/
abbrev Srt (ps : List Pr) : Prop := ps.Pairwise fun p q => ahead p.k.1 q.k.1 = true
theorem chain_srt : ∀ ps : List Pr, chain ps = true → Srt ps ∧ ∀ p ∈ ps, valB p.v = true
  | [], _ => ⟨List.Pairwise.nil, by simp⟩
  | [p], h => ⟨by simp, by simpa [chain] using h⟩
  | p :: q :: r, h => by
    simp only [chain, Bool.and_eq_true] at h
    obtain ⟨h1, h2⟩ := chain_srt (q :: r) h.2
    refine ⟨List.Pairwise.cons ?_ h1, ?_⟩
    · intro x hx
      rcases List.mem_cons.1 hx with rfl | hx
      · exact h.1.2
      · exact ahead_trans h.1.2 ((List.pairwise_cons.1 h1).1 x hx)
    · intro x hx
      rcases List.mem_cons.1 hx with rfl | hx
      · exact h.1.1
      · exact h2 x hx
theorem srt_chain : ∀ ps : List Pr, Srt ps → (∀ p ∈ ps, valB p.v = true) → chain ps = true
  | [], _, _ => rfl
  | [p], _, h => by simpa [chain] using h
  | p :: q :: r, h1, h2 => by
    simp only [chain, Bool.and_eq_true]
    have h3 := List.pairwise_cons.1 h1
    exact ⟨⟨h2 p (by simp), h3.1 q (by simp)⟩, srt_chain (q :: r) h3.2 fun x hx => h2 x (by simp [hx])⟩
theorem chain_of {ps : List Pr} : chain ps = true ↔ Srt ps ∧ ∀ p ∈ ps, valB p.v = true := ⟨chain_srt ps, fun h => srt_chain ps h.1 h.2⟩

theorem dg_ext {a b : Dg} (h : a.1 = b.1) : a = b := Subtype.ext h
theorem ahead_ne {a b : Dg} (h : ahead a.1 b.1 = true) : a ≠ b := by
  rintro rfl
  rw [ahead_self] at h
  cases h
theorem ahead_tri (a b : Dg) : ahead a.1 b.1 = true ∨ a = b ∨ ahead b.1 a.1 = true := by
  by_cases h : a = b
  · exact .inr (.inl h)
  · rcases ahead_or a.2 b.2 (fun e => h (Subtype.ext e)) with h | h
    · exact .inl h
    · exact .inr (.inr h)

/-! ### places -/
def hasP (ps : List Pr) (k : Dg) : Bool := ps.any fun p => decide (p.k = k)
/-- How many, from the first one on, are ahead of a key. -/
def cnt (ps : List Pr) (k : Dg) : Nat := (ps.takeWhile fun p => ahead p.k.1 k.1).length
def getV (ps : List Pr) (k : Dg) : List UInt8 := ((ps.find? fun p => decide (p.k = k)).map (·.v)).getD []
def withoutP (ps : List Pr) (k : Dg) : List Pr := ps.filter fun p => decide (p.k ≠ k)
def withP (ps : List Pr) (k : Dg) (v : List UInt8) : List Pr :=
  (withoutP ps k).take (cnt (withoutP ps k) k) ++ ⟨k, v⟩ :: (withoutP ps k).drop (cnt (withoutP ps k) k)
theorem cnt_le (ps : List Pr) (k : Dg) : cnt ps k ≤ ps.length := (List.takeWhile_sublist _).length_le

theorem cnt_cons (p : Pr) (ps : List Pr) (k : Dg) : cnt (p :: ps) k = if ahead p.k.1 k.1 = true then cnt ps k + 1 else 0 := by
  unfold cnt
  rw [List.takeWhile_cons]
  split <;> simp
/-- Where a map is parted by a key. -/
theorem cnt_take {ps : List Pr} (k : Dg) : ∀ p ∈ ps.take (cnt ps k), ahead p.k.1 k.1 = true := by
  induction ps with
  | nil => simp
  | cons q ps ih =>
    rw [cnt_cons]
    split
    · rename_i h
      intro p hp
      rw [List.take_succ_cons] at hp
      rcases List.mem_cons.1 hp with rfl | hp
      · exact h
      · exact ih p hp
    · simp
theorem cnt_drop {ps : List Pr} (h : Srt ps) (k : Dg) : ∀ p ∈ ps.drop (cnt ps k), ahead p.k.1 k.1 = false := by
  induction ps with
  | nil => simp
  | cons q ps ih =>
    have h2 := List.pairwise_cons.1 h
    rw [cnt_cons]
    split
    · rw [List.drop_succ_cons]
      exact ih h2.2
    · rename_i hq
      intro p hp
      rw [List.drop_zero] at hp
      rcases List.mem_cons.1 hp with rfl | hp
      · simpa using hq
      · rcases hpk : ahead p.k.1 k.1 with _ | _
        · rfl
        · exact absurd (ahead_trans (h2.1 p hp) hpk) hq
/-- A place at which all ahead are ahead of the key, and none behind, is that. -/
theorem cnt_unique {ps : List Pr} {k : Dg} {n : Nat} (hn : n ≤ ps.length) (h1 : ∀ p ∈ ps.take n, ahead p.k.1 k.1 = true) (h2 : ∀ p ∈ ps.drop n, ahead p.k.1 k.1 = false) : cnt ps k = n := by
  induction ps generalizing n with
  | nil => simp at hn; subst hn; rfl
  | cons q ps ih =>
    rw [cnt_cons]
    rcases n with _ | n
    · rw [if_neg]
      rw [h2 q (by simp)]
      simp
    · rw [if_pos (h1 q (by simp))]
      rw [ih (by simpa using hn) (fun p hp => h1 p (by simp [hp])) (fun p hp => h2 p (by simpa using hp))]

theorem hasP_cons (p : Pr) (ps : List Pr) (k : Dg) : hasP (p :: ps) k = (decide (p.k = k) || hasP ps k) := rfl
theorem hasP_mem {ps : List Pr} {k : Dg} : hasP ps k = true ↔ ∃ p ∈ ps, p.k = k := by simp [hasP]
theorem hasP_none {ps : List Pr} {k : Dg} : hasP ps k = false ↔ ∀ p ∈ ps, p.k ≠ k := by simp [hasP]
/-- A key that a map has stands at its place. -/
theorem has_at {ps : List Pr} (h : Srt ps) (k : Dg) : hasP ps k = true ↔ ∃ hl : cnt ps k < ps.length, ps[cnt ps k].k = k := by
  rw [hasP_mem]
  constructor
  · rintro ⟨p, hp, rfl⟩
    have hp2 : p ∈ ps.take (cnt ps p.k) ++ ps.drop (cnt ps p.k) := by rw [List.take_append_drop]; exact hp
    rcases List.mem_append.1 hp2 with h1 | h1
    · have := cnt_take p.k p h1
      rw [ahead_self] at this; cases this
    · have hl : cnt ps p.k < ps.length := by
        rcases Nat.lt_or_ge (cnt ps p.k) ps.length with h3 | h3
        · exact h3
        · rw [List.drop_of_length_le h3] at h1; simp at h1
      refine ⟨hl, ?_⟩
      rw [List.drop_eq_getElem_cons hl] at h1
      rcases List.mem_cons.1 h1 with h2 | h2
      · rw [← h2]
      · have hs : Srt (ps.drop (cnt ps p.k)) := h.sublist (List.drop_sublist _ _)
        rw [List.drop_eq_getElem_cons hl] at hs
        have h3 := (List.pairwise_cons.1 hs).1 p h2
        have h4 := cnt_drop h p.k ps[cnt ps p.k] (by rw [List.drop_eq_getElem_cons hl]; exact List.mem_cons_self)
        rw [h3] at h4; cases h4
  · rintro ⟨hl, hk⟩
    exact ⟨_, List.getElem_mem hl, hk⟩
theorem getV_at {ps : List Pr} (h : Srt ps) {k : Dg} (hl : cnt ps k < ps.length) (hk : ps[cnt ps k].k = k) : getV ps k = ps[cnt ps k].v := by
  have : ps.find? (fun p => decide (p.k = k)) = some ps[cnt ps k] := by
    rw [List.find?_eq_some_iff_append]
    refine ⟨by simpa using hk, ps.take (cnt ps k), ps.drop (cnt ps k + 1), ?_, ?_⟩
    · rw [← List.drop_eq_getElem_cons hl, List.take_append_drop]
    · intro p hp
      have := ahead_ne (cnt_take k p hp)
      simpa using this
  unfold getV
  rw [this]
  rfl
theorem getV_no {ps : List Pr} {k : Dg} (h : hasP ps k = false) : getV ps k = [] := by
  rw [hasP_none] at h
  unfold getV
  rw [List.find?_eq_none.2 (by simpa using h)]
  rfl

theorem without_no {ps : List Pr} {k : Dg} (h : hasP ps k = false) : withoutP ps k = ps := by
  rw [hasP_none] at h
  unfold withoutP
  rw [List.filter_eq_self]
  simpa using h
theorem without_at {ps : List Pr} (h : Srt ps) {k : Dg} (hl : cnt ps k < ps.length) (hk : ps[cnt ps k].k = k) : withoutP ps k = ps.take (cnt ps k) ++ ps.drop (cnt ps k + 1) := by
  have e : ps = ps.take (cnt ps k) ++ ps[cnt ps k] :: ps.drop (cnt ps k + 1) := by rw [← List.drop_eq_getElem_cons hl, List.take_append_drop]
  have hs : Srt (ps.drop (cnt ps k)) := h.sublist (List.drop_sublist _ _)
  rw [List.drop_eq_getElem_cons hl] at hs
  have h3 := (List.pairwise_cons.1 hs).1
  unfold withoutP
  conv => lhs; rw [e]
  rw [List.filter_append, List.filter_cons]
  rw [if_neg (by simpa using hk)]
  congr 1
  · rw [List.filter_eq_self]
    intro p hp
    simpa using ahead_ne (cnt_take k p hp)
  · rw [List.filter_eq_self]
    intro p hp
    have h4 := h3 p hp
    rw [hk] at h4
    have := ahead_ne h4
    simpa using fun e => this e.symm
theorem cnt_without {ps : List Pr} (h : Srt ps) (k : Dg) : cnt (withoutP ps k) k = cnt ps k := by
  rcases hh : hasP ps k with _ | _
  · rw [without_no hh]
  · obtain ⟨hl, hk⟩ := (has_at h k).1 hh
    rw [without_at h hl hk]
    have hlt : (ps.take (cnt ps k)).length = cnt ps k := by rw [List.length_take]; omega
    refine cnt_unique (by rw [List.length_append]; omega) ?_ ?_
    · rw [List.take_append_of_le_length (by omega), List.take_of_length_le (by omega)]
      exact cnt_take k
    · rw [List.drop_append_of_le_length (by omega), List.drop_of_length_le (by omega), List.nil_append]
      intro p hp
      refine cnt_drop h k p ?_
      rw [List.drop_eq_getElem_cons hl]
      exact List.mem_cons_of_mem _ hp
theorem with_at {ps : List Pr} (h : Srt ps) {k : Dg} (v : List UInt8) (hl : cnt ps k < ps.length) (hk : ps[cnt ps k].k = k) : withP ps k v = ps.take (cnt ps k) ++ ⟨k, v⟩ :: ps.drop (cnt ps k + 1) := by
  unfold withP
  rw [cnt_without h, without_at h hl hk]
  have hlt : (ps.take (cnt ps k)).length = cnt ps k := by rw [List.length_take]; omega
  rw [List.take_append_of_le_length (by omega), List.take_of_length_le (by omega), List.drop_append_of_le_length (by omega), List.drop_of_length_le (by omega), List.nil_append]
theorem with_no {ps : List Pr} {k : Dg} (v : List UInt8) (h : hasP ps k = false) : withP ps k v = ps.take (cnt ps k) ++ ⟨k, v⟩ :: ps.drop (cnt ps k) := by
  unfold withP
  rw [without_no h]

/-! ### what follows -/
theorem without_srt {ps : List Pr} (h : Srt ps) (k : Dg) : Srt (withoutP ps k) := h.sublist List.filter_sublist
theorem with_srt {ps : List Pr} (h : Srt ps) (k : Dg) (v : List UInt8) : Srt (withP ps k v) := by
  have h1 := without_srt h k
  unfold withP
  have h2 := cnt_take (ps := withoutP ps k) k
  have h3 := cnt_drop h1 k
  have h4 : ∀ p ∈ (withoutP ps k).drop (cnt (withoutP ps k) k), ahead k.1 p.k.1 = true := by
    intro p hp
    have hne : p.k ≠ k := by
      have := List.mem_of_mem_drop hp
      simpa [withoutP] using (List.mem_filter.1 this).2
    rcases ahead_tri k p.k with h5 | h5 | h5
    · exact h5
    · exact absurd h5.symm hne
    · rw [h3 p hp] at h5; cases h5
  generalize cnt (withoutP ps k) k = n at *
  rw [Srt, List.pairwise_append]
  refine ⟨h1.sublist (List.take_sublist _ _), List.Pairwise.cons h4 (h1.sublist (List.drop_sublist _ _)), ?_⟩
  intro p hp q hq
  rcases List.mem_cons.1 hq with rfl | hq
  · exact h2 p hp
  · exact ahead_trans (h2 p hp) (h4 q hq)
theorem with_mem {ps : List Pr} {k : Dg} {v : List UInt8} {p : Pr} : p ∈ withP ps k v ↔ p = ⟨k, v⟩ ∨ (p ∈ ps ∧ p.k ≠ k) := by
  have e : p ∈ withoutP ps k ↔ p ∈ ps ∧ p.k ≠ k := by simp [withoutP]
  rw [← e]
  unfold withP
  conv => rhs; rw [← List.take_append_drop (cnt (withoutP ps k) k) (withoutP ps k)]
  simp only [List.mem_append, List.mem_cons]
  constructor
  · rintro (h | h | h)
    · exact .inr (.inl h)
    · exact .inl h
    · exact .inr (.inr h)
  · rintro (h | h | h)
    · exact .inr (.inl h)
    · exact .inl h
    · exact .inr (.inr h)
theorem with_length (ps : List Pr) (k : Dg) (v : List UInt8) : (withP ps k v).length = (withoutP ps k).length + 1 := by
  unfold withP
  rw [List.length_append, List.length_cons, List.length_take, List.length_drop]
  have := cnt_le (withoutP ps k) k
  omega
theorem without_length_le (ps : List Pr) (k : Dg) : (withoutP ps k).length ≤ ps.length := List.length_filter_le _ _
theorem without_length {ps : List Pr} (h : Srt ps) {k : Dg} (hh : hasP ps k = true) : (withoutP ps k).length + 1 = ps.length := by
  obtain ⟨hl, hk⟩ := (has_at h k).1 hh
  rw [without_at h hl hk, List.length_append, List.length_take, List.length_drop]
  omega
theorem with_chain {ps : List Pr} (h : chain ps = true) (k : Dg) (v : List UInt8) (hv : valB v = true) : chain (withP ps k v) = true := by
  rw [chain_of] at h ⊢
  refine ⟨with_srt h.1 k v, fun p hp => ?_⟩
  rcases with_mem.1 hp with rfl | ⟨hp, _⟩
  · exact hv
  · exact h.2 p hp
theorem without_chain {ps : List Pr} (h : chain ps = true) (k : Dg) : chain (withoutP ps k) = true := by
  rw [chain_of] at h ⊢
  exact ⟨without_srt h.1 k, fun p hp => h.2 p (List.mem_filter.1 hp).1⟩
/-- Two maps of the same pairs are the same. -/
theorem srt_ext : ∀ {ps qs : List Pr}, Srt ps → Srt qs → (∀ p, p ∈ ps ↔ p ∈ qs) → ps = qs
  | [], [], _, _, _ => rfl
  | [], q :: qs, _, _, h => absurd ((h q).2 (by simp)) (by simp)
  | p :: ps, [], _, _, h => absurd ((h p).1 (by simp)) (by simp)
  | p :: ps, q :: qs, h1, h2, h => by
    have a1 := List.pairwise_cons.1 h1
    have a2 := List.pairwise_cons.1 h2
    have e : p = q := by
      rcases List.mem_cons.1 ((h p).1 (by simp)) with e | e
      · exact e
      · rcases List.mem_cons.1 ((h q).2 (by simp)) with e2 | e2
        · exact e2.symm
        · have := ahead_asymm (a2.1 p e)
          rw [a1.1 q e2] at this; cases this
    subst e
    congr 1
    refine srt_ext a1.2 a2.2 fun x => ?_
    have hx := h x
    simp only [List.mem_cons] at hx
    constructor
    · intro hm
      rcases hx.1 (.inr hm) with rfl | h3
      · exact absurd rfl (ahead_ne (a1.1 x hm))
      · exact h3
    · intro hm
      rcases hx.2 (.inr hm) with rfl | h3
      · exact absurd rfl (ahead_ne (a2.1 x hm))
      · exact h3
theorem with_swap {ps : List Pr} (h : Srt ps) {a b : Dg} (v w : List UInt8) (hab : a ≠ b) : withP (withP ps a v) b w = withP (withP ps b w) a v := by
  refine srt_ext (with_srt (with_srt h _ _) _ _) (with_srt (with_srt h _ _) _ _) fun p => ?_
  simp only [with_mem]
  constructor
  · rintro (rfl | ⟨rfl | ⟨h1, h2⟩, h3⟩)
    · exact .inr ⟨.inl rfl, fun e => hab e.symm⟩
    · exact .inl rfl
    · exact .inr ⟨.inr ⟨h1, h3⟩, h2⟩
  · rintro (rfl | ⟨rfl | ⟨h1, h2⟩, h3⟩)
    · exact .inr ⟨.inl rfl, hab⟩
    · exact .inl rfl
    · exact .inr ⟨.inr ⟨h1, h3⟩, h2⟩
theorem hasP_with {ps : List Pr} {k o : Dg} {v : List UInt8} : hasP (withP ps k v) o = (decide (k = o) || hasP ps o) := by
  rw [Bool.eq_iff_iff, Bool.or_eq_true, decide_eq_true_eq, hasP_mem, hasP_mem]
  constructor
  · rintro ⟨p, hp, rfl⟩
    rcases with_mem.1 hp with rfl | ⟨h1, _⟩
    · exact .inl rfl
    · exact .inr ⟨p, h1, rfl⟩
  · intro h
    by_cases hk : k = o
    · subst hk
      exact ⟨⟨k, v⟩, with_mem.2 (.inl rfl), rfl⟩
    · rcases h with h | ⟨p, hp, rfl⟩
      · exact absurd h hk
      · exact ⟨p, with_mem.2 (.inr ⟨hp, fun e => hk e.symm⟩), rfl⟩
/-- The value of a key is that of the pair that has it. -/
theorem getV_mem {ps : List Pr} (h : Srt ps) {p : Pr} (hp : p ∈ ps) : getV ps p.k = p.v := by
  obtain ⟨hl, hk⟩ := (has_at h p.k).1 (hasP_mem.2 ⟨p, hp, rfl⟩)
  rw [getV_at h hl hk]
  have e : ps[cnt ps p.k] = p := by
    have hpw := h
    obtain ⟨i, hi, e⟩ := List.getElem_of_mem hp
    rcases Nat.lt_trichotomy i (cnt ps p.k) with h1 | h1 | h1
    · have := List.pairwise_iff_getElem.1 hpw i _ hi hl h1
      rw [e, hk, ahead_self] at this; cases this
    · subst h1; exact e
    · have := List.pairwise_iff_getElem.1 hpw _ i hl hi h1
      rw [e, hk, ahead_self] at this; cases this
  rw [e]
theorem getV_with_self {ps : List Pr} (h : Srt ps) (k : Dg) (v : List UInt8) : getV (withP ps k v) k = v := getV_mem (with_srt h k v) (p := ⟨k, v⟩) (with_mem.2 (.inl rfl))
theorem getV_with_other {ps : List Pr} (h : Srt ps) {k o : Dg} (v : List UInt8) (hne : k ≠ o) : getV (withP ps k v) o = getV ps o := by
  rcases hh : hasP ps o with _ | _
  · rw [getV_no hh, getV_no]
    rw [hasP_with, hh, decide_eq_false hne]; rfl
  · obtain ⟨p, hp, rfl⟩ := hasP_mem.1 hh
    rw [getV_mem h hp, getV_mem (with_srt h k v) (with_mem.2 (.inr ⟨hp, fun e => hne e.symm⟩))]
theorem without_with {ps : List Pr} (h : Srt ps) (k : Dg) (v : List UInt8) : withoutP (withP ps k v) k = withoutP ps k := by
  refine srt_ext (without_srt (with_srt h k v) k) (without_srt h k) fun p => ?_
  simp only [withoutP, List.mem_filter, decide_eq_true_eq, with_mem]
  constructor
  · rintro ⟨rfl | ⟨h1, h2⟩, h3⟩
    · exact absurd rfl h3
    · exact ⟨h1, h3⟩
  · rintro ⟨h1, h2⟩
    exact ⟨.inr ⟨h1, h2⟩, h2⟩

/-! ### the calls' answers -/
def mGetB (ps : List Pr) (k : Dg) : Bool := mayP ps && hasP ps k
def mGetL (ps : List Pr) (k : Dg) : List UInt8 := if mGetB ps k = true then getV ps k else []
def mPutE (ps : List Pr) (k : Dg) (v : List UInt8) : Int := if (mayP ps && valB v) = true then (if 512 < (withP ps k v).length then 9 else 0) else 8
def mPutL (ps : List Pr) (k : Dg) (v : List UInt8) : List Pr := if mPutE ps k v = 0 then withP ps k v else []
def mDropE (ps : List Pr) (k : Dg) : Int := if mayP ps = true then (if hasP ps k = true then 0 else 6) else 8
def mDropL (ps : List Pr) (k : Dg) : List Pr := if mDropE ps k = 0 then withoutP ps k else []
theorem mDrop_bad {ps : List Pr} {k : Dg} (h : mayP ps = false) : mDropE ps k = 8 ∧ mDropL ps k = [] := by
  have : mDropE ps k = 8 := by unfold mDropE; rw [h]; rfl
  exact ⟨this, by unfold mDropL; rw [this]; rfl⟩
theorem mDrop_none {ps : List Pr} {k : Dg} (h : mayP ps = true) (h2 : hasP ps k = false) : mDropE ps k = 6 ∧ mDropL ps k = [] := by
  have : mDropE ps k = 6 := by unfold mDropE; rw [h, h2]; rfl
  exact ⟨this, by unfold mDropL; rw [this]; rfl⟩
theorem mDrop_yes {ps : List Pr} {k : Dg} (h : mayP ps = true) (h2 : hasP ps k = true) : mDropE ps k = 0 ∧ mDropL ps k = withoutP ps k := by
  have : mDropE ps k = 0 := by unfold mDropE; rw [h, h2]; rfl
  exact ⟨this, by unfold mDropL; rw [this]; rfl⟩
theorem mPut_bad {ps : List Pr} {k : Dg} {v : List UInt8} (h : mayP ps = false ∨ valB v = false) : mPutE ps k v = 8 ∧ mPutL ps k v = [] := by
  have : mPutE ps k v = 8 := by
    unfold mPutE
    rw [if_neg]
    rcases h with h | h <;> rw [h]
    · simp
    · simp
  exact ⟨this, by unfold mPutL; rw [this]; rfl⟩
theorem mPut_full {ps : List Pr} {k : Dg} {v : List UInt8} (h : mayP ps = true) (h2 : valB v = true) (h3 : 512 < (withP ps k v).length) : mPutE ps k v = 9 ∧ mPutL ps k v = [] := by
  have : mPutE ps k v = 9 := by unfold mPutE; rw [h, h2, if_pos (show (true && true) = true from rfl), if_pos h3]
  exact ⟨this, by unfold mPutL; rw [this]; rfl⟩
theorem mPut_yes {ps : List Pr} {k : Dg} {v : List UInt8} (h : mayP ps = true) (h2 : valB v = true) (h3 : ¬ 512 < (withP ps k v).length) : mPutE ps k v = 0 ∧ mPutL ps k v = withP ps k v := by
  have : mPutE ps k v = 0 := by unfold mPutE; rw [h, h2, if_pos (show (true && true) = true from rfl), if_neg h3]
  exact ⟨this, by unfold mPutL; rw [this]; rfl⟩
end Go.Proofs.Ytiogdenlaelkbaa
