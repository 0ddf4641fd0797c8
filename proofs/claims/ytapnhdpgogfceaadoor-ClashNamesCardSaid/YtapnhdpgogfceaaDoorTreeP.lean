/-
  Trees as lists of nodes: what may be one, what a number stands for, its sum. No program is named here.
-/
import Derived.Test.YtapnhdpgogfceaaDoorPlain
namespace Go.Proofs.YtapnhdpgogfceaaDoor
open Go.RowKit
set_option linter.unusedVariables false

/-- A node. -/
structure Nd where
  leaf : Bool
  k : Dg
  v : List UInt8
  l : Int
  r : Int
  deriving DecidableEq
instance : Enc Nd := Enc.by_ fun x => (x.leaf, x.k, x.v, x.l, x.r)
theorem size_nd : Enc.size Nd = 36 := rfl
/-- A tree. -/
structure Tr where
  ns : List Nd
  root : Int
  deriving DecidableEq
instance : Enc Tr := Enc.by_ fun x => (x.ns, x.root)

def z0 : Dg := ⟨List.replicate 32 0, by simp⟩
def nd0 : Nd := ⟨false, z0, [], 0, 0⟩
/-- The node of the number n. -/
def ndAt (ns : List Nd) (n : Int) : Nd := ns.getD (n.toNat - 1) nd0
/-- May a node be, of so many ahead of it? -/
def oneN (x : Nd) (a : Nat) : Bool :=
  if x.leaf = true then valB x.v && decide (x.l = 0) && decide (x.r = 0)
  else decide (0 ≤ x.l ∧ x.l ≤ a ∧ 0 ≤ x.r ∧ x.r ≤ a ∧ ¬ (x.l = 0 ∧ x.r = 0)) && decide (x.k = z0) && decide (x.v = [])
def Ones (ns : List Nd) : Prop := ∀ i (h : i < ns.length), oneN ns[i] i = true
instance (ns : List Nd) : Decidable (Ones ns) := by unfold Ones; infer_instance
def turnD (k : Dg) (i : Nat) : Dg := ⟨turn k.1 i, by rw [turn_length]; exact k.2⟩
/-- How many pairs a number stands for, at most two; below 0: it is not right. At depth 256 - e. -/
def rgt (ns : List Nd) : Nat → Int → Dg → Int
  | e, n, b => if n = 0 then 0 else if (ndAt ns n).leaf = true then (if shared (ndAt ns n).k.1 b.1 < 256 - e then -1 else 1) else match e with
    | 0 => -1
    | e + 1 => if rgt ns e (ndAt ns n).l b < 0 then -1 else if rgt ns e (ndAt ns n).r (turnD b (255 - e)) < 0 ∨ rgt ns e (ndAt ns n).l b + rgt ns e (ndAt ns n).r (turnD b (255 - e)) < 2 then -1 else 2
/-- What it stands for. -/
def forP (ns : List Nd) : Nat → Int → List Pr
  | e, n => if n = 0 then [] else if (ndAt ns n).leaf = true then [⟨(ndAt ns n).k, (ndAt ns n).v⟩] else match e with
    | 0 => []
    | e + 1 => forP ns e (ndAt ns n).l ++ forP ns e (ndAt ns n).r
/-- Its root, gone by the nodes. -/
def sumP (ns : List Nd) : Nat → Int → List UInt8
  | e, n => if n = 0 then sha256 (tagB 0 []) else if (ndAt ns n).leaf = true then sha256 (tagB 1 [(ndAt ns n).k.1, (ndAt ns n).v]) else match e with
    | 0 => sha256 []
    | e + 1 => sha256 (tagB 2 [sumP ns e (ndAt ns n).l, sumP ns e (ndAt ns n).r])
/-- Where a key's road ends, and where the other roads on it lead. -/
def wayP (ns : List Nd) (k : Dg) : Nat → Int → Int × List Int
  | e, n => if n = 0 then (n, []) else if (ndAt ns n).leaf = true then (n, []) else match e with
    | 0 => (n, [])
    | e + 1 => if kb k.1 (255 - e) = 1 then ((wayP ns k e (ndAt ns n).r).1, (ndAt ns n).l :: (wayP ns k e (ndAt ns n).r).2)
      else ((wayP ns k e (ndAt ns n).l).1, (ndAt ns n).r :: (wayP ns k e (ndAt ns n).l).2)
section
variable {ns : List Nd} {e : Nat} {n : Int} {b k : Dg}
theorem rgt_zero : rgt ns e 0 b = 0 := by cases e <;> simp [rgt]
theorem rgt_leaf (h : n ≠ 0) (hl : (ndAt ns n).leaf = true) : rgt ns e n b = if shared (ndAt ns n).k.1 b.1 < 256 - e then -1 else 1 := by cases e <;> simp [rgt, h, hl]
theorem rgt_end (h : n ≠ 0) (hl : (ndAt ns n).leaf = false) : rgt ns 0 n b = -1 := by simp [rgt, h, hl]
theorem rgt_fork (h : n ≠ 0) (hl : (ndAt ns n).leaf = false) : rgt ns (e + 1) n b = if rgt ns e (ndAt ns n).l b < 0 then -1 else if rgt ns e (ndAt ns n).r (turnD b (255 - e)) < 0 ∨ rgt ns e (ndAt ns n).l b + rgt ns e (ndAt ns n).r (turnD b (255 - e)) < 2 then -1 else 2 := by simp [rgt, h, hl]
theorem forP_zero : forP ns e 0 = [] := by cases e <;> simp [forP]
theorem forP_leaf (h : n ≠ 0) (hl : (ndAt ns n).leaf = true) : forP ns e n = [⟨(ndAt ns n).k, (ndAt ns n).v⟩] := by cases e <;> simp [forP, h, hl]
theorem forP_fork (h : n ≠ 0) (hl : (ndAt ns n).leaf = false) : forP ns (e + 1) n = forP ns e (ndAt ns n).l ++ forP ns e (ndAt ns n).r := by simp [forP, h, hl]
theorem sumP_zero : sumP ns e 0 = sha256 (tagB 0 []) := by cases e <;> simp [sumP]
theorem sumP_leaf (h : n ≠ 0) (hl : (ndAt ns n).leaf = true) : sumP ns e n = sha256 (tagB 1 [(ndAt ns n).k.1, (ndAt ns n).v]) := by cases e <;> simp [sumP, h, hl]
theorem sumP_fork (h : n ≠ 0) (hl : (ndAt ns n).leaf = false) : sumP ns (e + 1) n = sha256 (tagB 2 [sumP ns e (ndAt ns n).l, sumP ns e (ndAt ns n).r]) := by simp [sumP, h, hl]
theorem sumP_length : (sumP ns e n).length = 32 := by
  cases e <;> unfold sumP <;> (repeat' split) <;> exact S8.bytes_len _
theorem wayP_zero : wayP ns k e 0 = (0, []) := by cases e <;> simp [wayP]
theorem wayP_leaf (hl : (ndAt ns n).leaf = true) : wayP ns k e n = (n, []) := by cases e <;> simp [wayP, hl]
theorem wayP_fork (h : n ≠ 0) (hl : (ndAt ns n).leaf = false) : wayP ns k (e + 1) n = if kb k.1 (255 - e) = 1 then ((wayP ns k e (ndAt ns n).r).1, (ndAt ns n).l :: (wayP ns k e (ndAt ns n).r).2)
      else ((wayP ns k e (ndAt ns n).l).1, (ndAt ns n).r :: (wayP ns k e (ndAt ns n).l).2) := by simp [wayP, h, hl]

/-- A right fork's parts. -/
theorem fork_parts (h : n ≠ 0) (hl : (ndAt ns n).leaf = false) (hr : 0 ≤ rgt ns e n b) : ∃ f, e = f + 1 ∧ 0 ≤ rgt ns f (ndAt ns n).l b ∧ 0 ≤ rgt ns f (ndAt ns n).r (turnD b (255 - f)) ∧ 2 ≤ rgt ns f (ndAt ns n).l b + rgt ns f (ndAt ns n).r (turnD b (255 - f)) ∧ rgt ns e n b = 2 := by
  cases e with
  | zero => rw [rgt_end h hl] at hr; omega
  | succ f =>
    refine ⟨f, rfl, ?_⟩
    rw [rgt_fork h hl] at hr ⊢
    split at hr
    · omega
    · rename_i h1
      split at hr
      · omega
      · rename_i h2
        rw [if_neg h1, if_neg h2]
        omega
theorem rgt_le : rgt ns e n b ≤ 2 := by
  by_cases h : n = 0
  · subst h; rw [rgt_zero]; decide
  · by_cases hl : (ndAt ns n).leaf = true
    · rw [rgt_leaf h hl]; split <;> decide
    · have hl : (ndAt ns n).leaf = false := by simpa using hl
      cases e with
      | zero => rw [rgt_end h hl]; decide
      | succ e => rw [rgt_fork h hl]; split; decide; split <;> decide
theorem ndAt_leaf (hl : (ndAt ns n).leaf = true) : ∃ h : n.toNat - 1 < ns.length, ndAt ns n = ns[n.toNat - 1] := by
  unfold ndAt at hl ⊢
  rcases Nat.lt_or_ge (n.toNat - 1) ns.length with h | h
  · exact ⟨h, by rw [List.getD_eq_getElem?_getD, List.getElem?_eq_getElem h]; rfl⟩
  · rw [List.getD_eq_getElem?_getD, List.getElem?_eq_none h] at hl
    cases hl
theorem ndAt_at {j : Nat} (h : j < ns.length) : ndAt ns ((j : Int) + 1) = ns[j] := by
  unfold ndAt
  rw [show ((j : Int) + 1).toNat - 1 = j by omega, List.getD_eq_getElem?_getD, List.getElem?_eq_getElem h]
  rfl

/-- Bits from d on are 0. -/
def Zr (d : Nat) (b : Dg) : Prop := ∀ i, d ≤ i → i < 256 → kb b.1 i = 0
theorem zr_z0 : Zr 0 z0 := fun i _ hi => by
  unfold kb z0
  rw [List.getD_eq_getElem?_getD, List.getElem?_replicate]
  split <;> simp
theorem zr_succ {d : Nat} (h : Zr d b) : Zr (d + 1) b := fun i h1 h2 => h i (by omega) h2
theorem zr_turn {d : Nat} (h : Zr d b) (hd : d < 256) : Zr (d + 1) (turnD b d) := fun i h1 h2 => by
  show kb (turn b.1 d) i = 0
  rw [turn_bit b.1 d i b.2 hd h2, if_neg (by omega)]
  exact h i (by omega) h2
theorem turn_low {d i : Nat} (hd : d < 256) (hi : i < d) : kb (turnD b d).1 i = kb b.1 i := by
  show kb (turn b.1 d) i = _
  rw [turn_bit b.1 d i b.2 hd (by omega), if_neg (by omega)]
theorem turn_self {d : Nat} (h : Zr d b) (hd : d < 256) : kb (turnD b d).1 d = 1 := by
  show kb (turn b.1 d) d = _
  rw [turn_bit b.1 d d b.2 hd hd, if_pos rfl, h d (Nat.le_refl _) hd]
/-- Each begins with the first d bits of a key. -/
def Und (d : Nat) (b : Dg) (ps : List Pr) : Prop := ∀ p ∈ ps, ∀ i, i < d → kb p.k.1 i = kb b.1 i
theorem Und.shr {d : Nat} {ps : List Pr} (h : Und d b ps) : Shr d ps := fun p hp q hq i hi => (h p hp i hi).trans (h q hq i hi).symm
theorem srt_two {d : Nat} {l r : List Pr} (hd : d < 256) (hz : Zr d b) (h1 : Srt l) (h2 : Srt r) (u1 : Und (d + 1) b l) (u2 : Und (d + 1) (turnD b d) r) : Srt (l ++ r) := by
  refine List.pairwise_append.2 ⟨h1, h2, fun p hp q hq => ahead_iff.2 ⟨d, hd, fun i hi => ?_, ?_⟩⟩
  · rw [u1 p hp i (by omega), u2 q hq i (by omega), turn_low hd hi]
  · rw [u1 p hp d (by omega), u2 q hq d (by omega), turn_self hz hd, hz d (Nat.le_refl _) hd]
    decide
theorem und_two {d : Nat} {l r : List Pr} (hd : d < 256) (u1 : Und (d + 1) b l) (u2 : Und (d + 1) (turnD b d) r) : Und d b (l ++ r) := fun p hp i hi => by
  rcases List.mem_append.1 hp with h | h
  · exact u1 p h i (by omega)
  · rw [u2 p h i (by omega), turn_low hd hi]
theorem zeros_two {d : Nat} {l r : List Pr} (hd : d < 256) (hz : Zr d b) (u1 : Und (d + 1) b l) (u2 : Und (d + 1) (turnD b d) r) : zeros d (l ++ r) = l ∧ ones d (l ++ r) = r := by
  have a1 : ∀ p ∈ l, oneP d p = false := fun p hp => by
    unfold oneP
    rw [u1 p hp d (by omega), hz d (Nat.le_refl _) hd]
    rfl
  have a2 : ∀ p ∈ r, oneP d p = true := fun p hp => by
    unfold oneP
    rw [u2 p hp d (by omega), turn_self hz hd]
    rfl
  unfold zeros ones
  rw [List.filter_append, List.filter_append]
  constructor
  · rw [List.filter_eq_self.2 fun p hp => by rw [a1 p hp]; rfl, List.filter_eq_nil_iff.2 fun p hp => by rw [a2 p hp]; decide, List.append_nil]
  · rw [List.filter_eq_nil_iff.2 fun p hp => by rw [a1 p hp]; decide, List.filter_eq_self.2 fun p hp => a2 p hp, List.nil_append]

/-- What a right number stands for: in order, its first bits as they should, so many. -/
theorem for_spec : ∀ (e : Nat) (n : Int) (b : Dg), e ≤ 256 → Zr (256 - e) b → 0 ≤ rgt ns e n b →
    Und (256 - e) b (forP ns e n) ∧ Srt (forP ns e n) ∧ (rgt ns e n b = 0 → forP ns e n = []) ∧ (rgt ns e n b = 1 → (forP ns e n).length = 1) ∧ (rgt ns e n b = 2 → 2 ≤ (forP ns e n).length) ∧
    (∀ p ∈ forP ns e n, ∃ x ∈ ns, x.leaf = true ∧ p = ⟨x.k, x.v⟩) := by
  intro e
  induction e with
  | zero =>
    intro n b _ hz hr
    by_cases h : n = 0
    · subst h
      rw [forP_zero, rgt_zero]
      exact ⟨fun p hp => by simp at hp, List.Pairwise.nil, fun _ => rfl, fun h => by omega, fun h => by omega, fun p hp => by simp at hp⟩
    · cases hl : (ndAt ns n).leaf with
      | false => rw [rgt_end h hl] at hr; omega
      | true =>
        obtain ⟨hj, hx⟩ := ndAt_leaf hl
        rw [rgt_leaf h hl] at hr ⊢
        rw [forP_leaf h hl]
        split at hr
        · omega
        · rename_i hs
          rw [if_neg hs]
          refine ⟨fun p hp i hi => ?_, List.pairwise_singleton _ _, fun h => by omega, fun _ => rfl, fun h => by omega, fun p hp => ⟨_, List.getElem_mem hj, by rw [← hx]; exact hl, by rw [← hx]; simpa using hp⟩⟩
          simp only [List.mem_singleton] at hp
          subst hp
          show kb (ndAt ns n).k.1 i = _
          exact shared_eq (by omega)
  | succ e ih =>
    intro n b he hz hr
    by_cases h : n = 0
    · subst h
      rw [forP_zero, rgt_zero]
      exact ⟨fun p hp => by simp at hp, List.Pairwise.nil, fun _ => rfl, fun h => by omega, fun h => by omega, fun p hp => by simp at hp⟩
    · cases hl : (ndAt ns n).leaf with
      | true =>
        obtain ⟨hj, hx⟩ := ndAt_leaf hl
        rw [rgt_leaf h hl] at hr ⊢
        rw [forP_leaf h hl]
        split at hr
        · omega
        · rename_i hs
          rw [if_neg hs]
          refine ⟨fun p hp i hi => ?_, List.pairwise_singleton _ _, fun h => by omega, fun _ => rfl, fun h => by omega, fun p hp => ⟨_, List.getElem_mem hj, by rw [← hx]; exact hl, by rw [← hx]; simpa using hp⟩⟩
          simp only [List.mem_singleton] at hp
          subst hp
          show kb (ndAt ns n).k.1 i = _
          exact shared_eq (by omega)
      | false =>
        obtain ⟨f, hf, h1, h2, h3, h4⟩ := fork_parts h hl hr
        obtain rfl : e = f := by omega
        have hd : 256 - (e + 1) < 256 := by omega
        have hd1 : 256 - e = 256 - (e + 1) + 1 := by omega
        have hd2 : 255 - e = 256 - (e + 1) := by omega
        rw [hd2] at h2 h3
        have I1 := ih (ndAt ns n).l b (by omega) (by rw [hd1]; exact zr_succ hz) h1
        have I2 := ih (ndAt ns n).r (turnD b (256 - (e + 1))) (by omega) (by rw [hd1]; exact zr_turn hz hd) h2
        rw [hd1] at I1 I2
        obtain ⟨u1, s1, a1, b1, c1, m1⟩ := I1
        obtain ⟨u2, s2, a2, b2, c2, m2⟩ := I2
        rw [forP_fork h hl, h4]
        refine ⟨und_two hd u1 u2, srt_two hd hz s1 s2 u1 u2, fun h => by omega, fun h => by omega, fun _ => ?_, fun p hp => ?_⟩
        · rw [List.length_append]
          have l1 := @rgt_le ns e (ndAt ns n).l b
          have l2 := @rgt_le ns e (ndAt ns n).r (turnD b (256 - (e + 1)))
          generalize rgt ns e (ndAt ns n).l b = x at *
          generalize rgt ns e (ndAt ns n).r (turnD b (256 - (e + 1))) = y at *
          rcases (show x = 2 ∨ y = 2 ∨ (x = 1 ∧ y = 1) by omega) with hx | hy | ⟨hx, hy⟩
          · have := c1 hx; omega
          · have := c2 hy; omega
          · have := b1 hx; have := b2 hy; omega
        · rcases List.mem_append.1 hp with h | h
          · exact m1 p h
          · exact m2 p h
/-- Gone by the nodes, the root is the definition's. -/
theorem sum_root : ∀ (e : Nat) (n : Int) (b : Dg), e ≤ 256 → Zr (256 - e) b → 0 ≤ rgt ns e n b → sumP ns e n = rootP e (forP ns e n) (256 - e) := by
  intro e
  induction e with
  | zero =>
    intro n b _ hz hr
    by_cases h : n = 0
    · subst h
      rw [forP_zero, sumP_zero, rootP_nil]
    · cases hl : (ndAt ns n).leaf with
      | false => rw [rgt_end h hl] at hr; omega
      | true => rw [forP_leaf h hl, sumP_leaf h hl, rootP_one]
  | succ e ih =>
    intro n b he hz hr
    by_cases h : n = 0
    · subst h
      rw [forP_zero, sumP_zero, rootP_nil]
    · cases hl : (ndAt ns n).leaf with
      | true => rw [forP_leaf h hl, sumP_leaf h hl, rootP_one]
      | false =>
        have hs := for_spec (e + 1) n b he hz hr
        obtain ⟨f, hf, h1, h2, h3, h4⟩ := fork_parts h hl hr
        obtain rfl : e = f := by omega
        have hd : 256 - (e + 1) < 256 := by omega
        have hd1 : 256 - e = 256 - (e + 1) + 1 := by omega
        have hd2 : 255 - e = 256 - (e + 1) := by omega
        rw [hd2] at h2
        have z1 : Zr (256 - e) b := by rw [hd1]; exact zr_succ hz
        have z2 : Zr (256 - e) (turnD b (256 - (e + 1))) := by rw [hd1]; exact zr_turn hz hd
        have u1 := (for_spec e _ b (by omega) z1 h1).1
        have u2 := (for_spec e _ _ (by omega) z2 h2).1
        rw [hd1] at u1 u2
        have hzz := zeros_two hd hz u1 u2
        rw [rootP_more _ _ (hs.2.2.2.2.1 h4), sumP_fork h hl, forP_fork h hl, hzz.1, hzz.2, ih _ b (by omega) z1 h1, ih _ _ (by omega) z2 h2, hd1]
/-- So many pairs as nodes, at most. -/
theorem nodup_len {α : Type} [DecidableEq α] : ∀ l m : List α, l.Nodup → (∀ x ∈ l, x ∈ m) → l.length ≤ m.length
  | [], m, _, _ => by simp
  | x :: l, m, hn, hs => by
    have hx := hs x (by simp)
    have hn2 := List.nodup_cons.1 hn
    have := nodup_len l (m.erase x) hn2.2 fun y hy => (List.mem_erase_of_ne (fun e => hn2.1 (by rw [← e]; exact hy))).2 (hs y (by simp [hy]))
    rw [List.length_erase_of_mem hx] at this
    have := List.length_pos_of_mem hx
    simp only [List.length_cons]
    omega
theorem for_length (he : e ≤ 256) (hz : Zr (256 - e) b) (hr : 0 ≤ rgt ns e n b) : (forP ns e n).length ≤ ns.length := by
  obtain ⟨_, hs, _, _, _, hm⟩ := for_spec e n b he hz hr
  have h1 : ((forP ns e n).map (·.k)).Nodup := by
    rw [List.Nodup, List.pairwise_map]
    exact hs.imp fun {p q} h => ahead_ne h
  have h2 := nodup_len _ (ns.map (·.k)) h1 fun k hk => by
    obtain ⟨p, hp, rfl⟩ := List.mem_map.1 hk
    obtain ⟨x, hx, _, rfl⟩ := hm p hp
    exact List.mem_map.2 ⟨x, hx, rfl⟩
  simpa using h2
theorem ones_val (ho : Ones ns) {x : Nd} (hx : x ∈ ns) (hl : x.leaf = true) : valB x.v = true := by
  obtain ⟨i, hi, rfl⟩ := List.getElem_of_mem hx
  have := ho i hi
  unfold oneN at this
  rw [if_pos hl] at this
  simp only [Bool.and_eq_true] at this
  exact this.1.1
end

def mayT (t : Tr) : Bool := decide (t.ns.length ≤ 262144 ∧ 0 ≤ t.root ∧ t.root ≤ t.ns.length ∧ Ones t.ns ∧ 0 ≤ rgt t.ns 256 t.root z0)
theorem mayT_iff {t : Tr} : mayT t = true ↔ t.ns.length ≤ 262144 ∧ 0 ≤ t.root ∧ t.root ≤ t.ns.length ∧ Ones t.ns ∧ 0 ≤ rgt t.ns 256 t.root z0 := by unfold mayT; rw [decide_eq_true_eq]
def allT (t : Tr) : List Pr := forP t.ns 256 t.root
/-- What a tree that may be stands for. -/
theorem all_spec {t : Tr} (h : mayT t = true) : Srt (allT t) ∧ (∀ p ∈ allT t, valB p.v = true) ∧ (allT t).length ≤ t.ns.length ∧ sumP t.ns 256 t.root = rootP 256 (allT t) 0 := by
  obtain ⟨h1, h2, h3, h4, h5⟩ := mayT_iff.1 h
  obtain ⟨_, hs, _, _, _, hm⟩ := for_spec 256 t.root z0 (Nat.le_refl _) zr_z0 h5
  refine ⟨hs, fun p hp => ?_, for_length (Nat.le_refl _) zr_z0 h5, sum_root 256 t.root z0 (Nat.le_refl _) zr_z0 h5⟩
  obtain ⟨x, hx, hl, rfl⟩ := hm p hp
  exact ones_val h4 hx hl
end Go.Proofs.YtapnhdpgogfceaaDoor
