/-
  Keys, as lists of 32 bytes: their bits, what two share, which is ahead, a bit turned. No program is named here.
-/
import Derived.Test.YtiogdenlaelkbaaBy
namespace Go.Proofs.Ytiogdenlaelkbaa
open Go.RowKit
set_option linter.unusedVariables false

/-- Bit i of a key. -/
def kb (l : List UInt8) (i : Nat) : Nat := (l.getD (i / 8) 0).toNat / 2 ^ (7 - i % 8) % 2
theorem kb_lt (l : List UInt8) (i : Nat) : kb l i < 2 := Nat.mod_lt _ (by omega)
def shFrom (a b : List UInt8) : Nat → Nat → Nat
  | 0, n => n
  | f + 1, n => if kb a n = kb b n then shFrom a b f (n + 1) else n
/-- How many bits two share. -/
def shared (a b : List UInt8) : Nat := shFrom a b 256 0
theorem shFrom_spec (a b : List UInt8) : ∀ f n : Nat, n ≤ shFrom a b f n ∧ shFrom a b f n ≤ n + f ∧ (∀ i, n ≤ i → i < shFrom a b f n → kb a i = kb b i) ∧ (shFrom a b f n < n + f → kb a (shFrom a b f n) ≠ kb b (shFrom a b f n)) := by
  intro f
  induction f with
  | zero => intro n; exact ⟨Nat.le_refl _, Nat.le_refl _, fun i h1 h2 => by simp only [shFrom] at h2; omega, fun h => by simp only [shFrom] at h; omega⟩
  | succ f ih =>
    intro n
    unfold shFrom
    by_cases h : kb a n = kb b n
    · rw [if_pos h]
      obtain ⟨h1, h2, h3, h4⟩ := ih (n + 1)
      refine ⟨by omega, by omega, fun i hi1 hi2 => ?_, fun hlt => h4 (by omega)⟩
      by_cases he : i = n
      · rw [he]; exact h
      · exact h3 i (by omega) hi2
    · rw [if_neg h]
      exact ⟨Nat.le_refl _, by omega, fun i h1 h2 => by omega, fun _ => h⟩
theorem shared_le (a b : List UInt8) : shared a b ≤ 256 := by have := (shFrom_spec a b 256 0).2.1; unfold shared; omega
theorem shared_eq {a b : List UInt8} {i : Nat} (h : i < shared a b) : kb a i = kb b i := (shFrom_spec a b 256 0).2.2.1 i (Nat.zero_le _) h
theorem shared_ne {a b : List UInt8} (h : shared a b < 256) : kb a (shared a b) ≠ kb b (shared a b) := (shFrom_spec a b 256 0).2.2.2 (by unfold shared at h; omega)
theorem shared_unique {a b : List UInt8} {n : Nat} (hn : n ≤ 256) (h1 : ∀ i, i < n → kb a i = kb b i) (h2 : n < 256 → kb a n ≠ kb b n) : shared a b = n := by
  have hl := shared_le a b
  rcases Nat.lt_trichotomy (shared a b) n with h | h | h
  · exact absurd (h1 _ h) (shared_ne (by omega))
  · exact h
  · exact absurd (shared_eq h) (h2 (by omega))
theorem shared_comm (a b : List UInt8) : shared a b = shared b a :=
  shared_unique (shared_le _ _) (fun i h => (shared_eq h).symm) (fun h => (shared_ne h).symm)
theorem shared_min (a b c : List UInt8) : min (shared a b) (shared b c) ≤ shared a c := by
  rcases Nat.lt_or_ge (shared a c) (min (shared a b) (shared b c)) with h | h
  · have h1 : shared a c < 256 := by have := shared_le a b; omega
    exact absurd ((shared_eq (a := a) (b := b) (by omega)).trans (shared_eq (a := b) (b := c) (by omega))) (shared_ne h1)
  · exact h
theorem byte_ext {x y : UInt8} (h : ∀ p, p < 8 → x.toNat / 2 ^ (7 - p) % 2 = y.toNat / 2 ^ (7 - p) % 2) : x = y := by
  have h0 := h 0 (by omega); have h1 := h 1 (by omega); have h2 := h 2 (by omega); have h3 := h 3 (by omega)
  have h4 := h 4 (by omega); have h5 := h 5 (by omega); have h6 := h 6 (by omega); have h7 := h 7 (by omega)
  have hx := x.toNat_lt
  have hy := y.toNat_lt
  simp only [Nat.reduceSub, Nat.reducePow] at h0 h1 h2 h3 h4 h5 h6 h7 hx hy
  apply UInt8.toNat_inj.1
  omega
theorem key_ext {a b : List UInt8} (ha : a.length = 32) (hb : b.length = 32) (h : ∀ i, i < 256 → kb a i = kb b i) : a = b := by
  apply List.ext_getElem (by omega)
  intro m h1 h2
  apply byte_ext
  intro p hp
  have h3 := h (8 * m + p) (by omega)
  unfold kb at h3
  rw [show (8 * m + p) / 8 = m by omega, show (8 * m + p) % 8 = p by omega] at h3
  simpa [List.getD, h1, h2] using h3
theorem shared_all {a b : List UInt8} (ha : a.length = 32) (hb : b.length = 32) : shared a b = 256 ↔ a = b := by
  constructor
  · intro h
    exact key_ext ha hb fun i hi => shared_eq (by omega)
  · rintro rfl
    exact shared_unique (Nat.le_refl _) (fun _ _ => rfl) (fun h => by omega)

/-- Is a ahead of b? -/
def ahead (a b : List UInt8) : Bool := decide (shared a b < 256 ∧ kb a (shared a b) < kb b (shared a b))
theorem ahead_iff {a b : List UInt8} : ahead a b = true ↔ ∃ n, n < 256 ∧ (∀ i, i < n → kb a i = kb b i) ∧ kb a n < kb b n := by
  unfold ahead
  rw [decide_eq_true_eq]
  constructor
  · intro ⟨h1, h2⟩
    exact ⟨_, h1, fun i hi => shared_eq hi, h2⟩
  · intro ⟨n, h1, h2, h3⟩
    have e : shared a b = n := shared_unique (by omega) h2 (fun _ => by omega)
    rw [e]
    exact ⟨h1, h3⟩
theorem ahead_self (a : List UInt8) : ahead a a = false := by
  unfold ahead
  rw [decide_eq_false_iff_not]
  omega
theorem ahead_asymm {a b : List UInt8} (h : ahead a b = true) : ahead b a = false := by
  obtain ⟨n, h1, h2, h3⟩ := ahead_iff.1 h
  have e : shared b a = n := shared_unique (by omega) (fun i hi => (h2 i hi).symm) (fun _ => by omega)
  unfold ahead
  rw [decide_eq_false_iff_not, e]
  omega
theorem ahead_or {a b : List UInt8} (ha : a.length = 32) (hb : b.length = 32) (h : a ≠ b) : ahead a b = true ∨ ahead b a = true := by
  have h1 : shared a b < 256 := by
    rcases Nat.lt_or_ge (shared a b) 256 with h1 | h1
    · exact h1
    · exact absurd ((shared_all ha hb).1 (by have := shared_le a b; omega)) h
  have h2 := shared_ne h1
  rcases Nat.lt_or_gt_of_ne h2 with h3 | h3
  · exact .inl (ahead_iff.2 ⟨_, h1, fun i hi => shared_eq hi, h3⟩)
  · exact .inr (ahead_iff.2 ⟨_, h1, fun i hi => (shared_eq hi).symm, h3⟩)
theorem ahead_trans {a b c : List UInt8} (h : ahead a b = true) (k : ahead b c = true) : ahead a c = true := by
  obtain ⟨n, h1, h2, h3⟩ := ahead_iff.1 h
  obtain ⟨m, k1, k2, k3⟩ := ahead_iff.1 k
  rw [ahead_iff]
  have la := kb_lt a n
  have lb := kb_lt b n
  have lb2 := kb_lt b m
  have lc := kb_lt c m
  rcases Nat.lt_trichotomy n m with hh | hh | hh
  · exact ⟨n, h1, fun i hi => (h2 i hi).trans (k2 i (by omega)), by rw [← k2 n hh]; exact h3⟩
  · subst hh; omega
  · exact ⟨m, k1, fun i hi => (h2 i (by omega)).trans (k2 i hi), by rw [h2 m hh]; exact k3⟩

/-! ### a bit turned -/
def tbyte (c : UInt8) (p : Nat) : UInt8 := if c.toNat / 2 ^ (7 - p) % 2 = 1 then UInt8.ofNat (c.toNat - 2 ^ (7 - p)) else UInt8.ofNat (c.toNat + 2 ^ (7 - p))
def turn (l : List UInt8) (i : Nat) : List UInt8 := l.set (i / 8) (tbyte (l.getD (i / 8) 0) (i % 8))
theorem turn_length (l : List UInt8) (i : Nat) : (turn l i).length = l.length := by simp [turn]
theorem tbyte_bits : ∀ c : Fin 256, ∀ p q : Fin 8, (tbyte (UInt8.ofNat c.val) p.val).toNat / 2 ^ (7 - q.val) % 2 = if q = p then 1 - c.val / 2 ^ (7 - p.val) % 2 else c.val / 2 ^ (7 - q.val) % 2 := by decide +kernel
theorem tbyte_bit (c : UInt8) (p q : Nat) (hp : p < 8) (hq : q < 8) : (tbyte c p).toNat / 2 ^ (7 - q) % 2 = if q = p then 1 - c.toNat / 2 ^ (7 - p) % 2 else c.toNat / 2 ^ (7 - q) % 2 := by
  have h := tbyte_bits ⟨c.toNat, c.toNat_lt⟩ ⟨p, hp⟩ ⟨q, hq⟩
  simp only [UInt8.ofNat_toNat, Fin.mk.injEq] at h
  exact h
theorem turn_bit (l : List UInt8) (i j : Nat) (hl : l.length = 32) (hi : i < 256) (hj : j < 256) : kb (turn l i) j = if j = i then 1 - kb l i else kb l j := by
  unfold kb turn
  by_cases h : i / 8 = j / 8
  · have e : (l.set (i / 8) (tbyte (l.getD (i / 8) 0) (i % 8))).getD (j / 8) 0 = tbyte (l.getD (i / 8) 0) (i % 8) := by
      rw [List.getD_eq_getElem?_getD, List.getElem?_set, if_pos h, if_pos (by omega)]; rfl
    rw [e, tbyte_bit _ _ _ (Nat.mod_lt _ (by omega)) (Nat.mod_lt _ (by omega)), ← h]
    by_cases h2 : j % 8 = i % 8
    · rw [if_pos h2, if_pos (by omega)]
    · rw [if_neg h2, if_neg (by intro h3; rw [h3] at h2; exact h2 rfl)]
  · have e : (l.set (i / 8) (tbyte (l.getD (i / 8) 0) (i % 8))).getD (j / 8) 0 = l.getD (j / 8) 0 := by
      rw [List.getD_eq_getElem?_getD, List.getElem?_set, if_neg h, ← List.getD_eq_getElem?_getD]
    rw [e, if_neg (by intro h3; rw [h3] at h; exact h rfl)]
theorem turn_turn (l : List UInt8) (i : Nat) (hl : l.length = 32) (hi : i < 256) : turn (turn l i) i = l := by
  have h1 : (turn l i).length = 32 := by rw [turn_length, hl]
  refine key_ext (by rw [turn_length, h1]) hl fun j hj => ?_
  rw [turn_bit _ _ _ h1 hi hj, turn_bit _ _ _ hl hi hi, turn_bit _ _ _ hl hi hj, if_pos rfl]
  have := kb_lt l i
  split
  · rename_i h; subst h; omega
  · rfl
theorem turn_shared (l : List UInt8) (i : Nat) (hl : l.length = 32) (hi : i < 256) : shared l (turn l i) = i := by
  refine shared_unique (by omega) (fun j hj => ?_) (fun _ => ?_)
  · rw [turn_bit _ _ _ hl hi (by omega), if_neg (by omega)]
  · rw [turn_bit _ _ _ hl hi hi, if_pos rfl]
    have := kb_lt l i
    omega
theorem turn_ahead (l : List UInt8) (i : Nat) (hl : l.length = 32) (hi : i < 256) : ahead l (turn l i) = decide (kb l i = 0) := by
  unfold ahead
  rw [turn_shared l i hl hi, turn_bit _ _ _ hl hi hi, if_pos rfl]
  have := kb_lt l i
  apply decide_eq_decide.2
  omega

/-- What Bit and Turn answer. -/
def bitE (i : Int) : Int := if 0 ≤ i ∧ i < 256 then 0 else 2
def bitV (l : List UInt8) (i : Int) : Nat := if 0 ≤ i ∧ i < 256 then kb l i.toNat else 0
def turnV (l : List UInt8) (i : Int) : List UInt8 := if 0 ≤ i ∧ i < 256 then turn l i.toNat else List.replicate 32 0
theorem turnV_length (l : List UInt8) (i : Int) (hl : l.length = 32) : (turnV l i).length = 32 := by
  unfold turnV
  split
  · rw [turn_length, hl]
  · simp

/-! ### a key put together of its bits -/
/-- What is put together of the first j bits. -/
def asm (l : List UInt8) (j : Nat) : List UInt8 := (List.range 32).map fun m => UInt8.ofNat ((l.getD m 0).toNat / 2 ^ (8 - min 8 (j - 8 * m)))
theorem asm_length (l : List UInt8) (j : Nat) : (asm l j).length = 32 := by simp [asm]
theorem asm_get (l : List UInt8) (j m : Nat) (hm : m < 32) : (asm l j).getD m 0 = UInt8.ofNat ((l.getD m 0).toNat / 2 ^ (8 - min 8 (j - 8 * m))) := by
  unfold asm
  rw [List.getD_eq_getElem?_getD, List.getElem?_map, List.getElem?_range hm]
  rfl
theorem ext32 {a b : List UInt8} (ha : a.length = 32) (hb : b.length = 32) (h : ∀ m, m < 32 → a.getD m 0 = b.getD m 0) : a = b := by
  apply List.ext_getElem (by omega)
  intro m h1 h2
  have h3 := h m (by omega)
  simpa [List.getD, h1, h2] using h3
theorem asm_zero (l : List UInt8) : asm l 0 = List.replicate 32 0 := by
  refine ext32 (asm_length _ _) (by simp) fun m hm => ?_
  rw [asm_get l 0 m hm]
  have := (l.getD m 0).toNat_lt
  rw [show 8 - min 8 (0 - 8 * m) = 8 by omega, Nat.div_eq_of_lt (by omega), List.getD_eq_getElem?_getD, List.getElem?_eq_getElem (by simpa using hm), List.getElem_replicate]
  rfl
theorem asm_all (l : List UInt8) (hl : l.length = 32) : asm l 256 = l := by
  refine ext32 (asm_length _ _) hl fun m hm => ?_
  rw [asm_get l 256 m hm, show 8 - min 8 (256 - 8 * m) = 0 by omega, Nat.pow_zero, Nat.div_one, UInt8.ofNat_toNat]
theorem asm_step (l : List UInt8) (j : Nat) (hj : j < 256) : (asm l j).set (j / 8) (UInt8.ofNat (2 * ((asm l j).getD (j / 8) 0).toNat + kb l j)) = asm l (j + 1) := by
  apply List.ext_getElem (by rw [List.length_set, asm_length, asm_length])
  intro m h1 h2
  rw [asm_length] at h2
  rw [List.getElem_set]
  have g2 : (asm l (j + 1))[m]'(by rw [asm_length]; exact h2) = (asm l (j + 1)).getD m 0 := by rw [List.getD_eq_getElem?_getD, List.getElem?_eq_getElem]; rfl
  rw [g2, asm_get l (j + 1) m h2]
  by_cases he : j / 8 = m
  · rw [if_pos he, he, asm_get l j m h2]
    have hx := (l.getD m 0).toNat_lt
    unfold kb
    rw [he]
    generalize (l.getD m 0).toNat = x at *
    have e1 : min 8 (j - 8 * m) = j % 8 := by omega
    have e2 : min 8 (j + 1 - 8 * m) = j % 8 + 1 := by omega
    rw [e1, e2]
    have h8 : j % 8 < 8 := Nat.mod_lt _ (by omega)
    generalize j % 8 = p at *
    have hb : x / 2 ^ (8 - p) < 256 := Nat.lt_of_le_of_lt (Nat.div_le_self _ _) hx
    rw [UInt8.toNat_ofNat', Nat.mod_eq_of_lt (by simpa using hb)]
    congr 1
    rw [show 8 - (p + 1) = 7 - p by omega, show 8 - p = (7 - p) + 1 by omega, Nat.pow_succ, ← Nat.div_div_eq_div_mul]
    omega
  · rw [if_neg he]
    have g1 : (asm l j)[m]'(by rw [asm_length]; exact h2) = (asm l j).getD m 0 := by rw [List.getD_eq_getElem?_getD, List.getElem?_eq_getElem]; rfl
    rw [g1, asm_get l j m h2]
    congr 3
    omega
end Go.Proofs.Ytiogdenlaelkbaa
