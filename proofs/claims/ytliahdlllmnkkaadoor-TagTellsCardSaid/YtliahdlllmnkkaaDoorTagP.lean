/-
  Layer 3's plain answers: what is digested of a kind and parts; what is read of bytes. No program is named here.
-/
import Derived.Test.YtliahdlllmnkkaaDoorBy
namespace Go.Proofs.YtliahdlllmnkkaaDoor
open Go.RowKit
set_option linter.unusedVariables false

/-- A part with the number of its bytes ahead. -/
def partB (l : List UInt8) : List UInt8 := be 4 (l.length % 4294967296) ++ l
def tagB (k : UInt8) (ls : List (List UInt8)) : List UInt8 := k :: (ls.map partB).flatten
theorem tagB_nil (k : UInt8) : tagB k [] = [k] := rfl
theorem tagB_take_succ (k : UInt8) (ls : List (List UInt8)) (j : Nat) (h : j < ls.length) : tagB k (ls.take (j + 1)) = (tagB k (ls.take j) ++ be 4 (ls[j].length % 4294967296)) ++ ls[j] := by
  unfold tagB partB
  rw [List.take_succ_eq_append_getElem h, List.map_append, List.flatten_append, List.map_cons, List.map_nil, List.flatten_cons, List.flatten_nil, List.append_nil]
  simp [List.append_assoc]
theorem tagB_take_le (k : UInt8) (ls : List (List UInt8)) (j : Nat) : (tagB k (ls.take j)).length ≤ (tagB k ls).length := by
  have h : tagB k ls = tagB k (ls.take j) ++ ((ls.drop j).map partB).flatten := by
    have e : ls.map partB = (ls.take j).map partB ++ (ls.drop j).map partB := by rw [← List.map_append, List.take_append_drop]
    unfold tagB
    rw [e, List.flatten_append, List.cons_append]
  rw [h, List.length_append]
  omega
theorem tagB_le (k : UInt8) (ls : List (List UInt8)) (m : Nat) (h : ∀ l ∈ ls, l.length ≤ m) : (tagB k ls).length ≤ 1 + ls.length * (m + 4) := by
  unfold tagB
  rw [List.length_cons]
  suffices ((ls.map partB).flatten).length ≤ ls.length * (m + 4) by omega
  induction ls with
  | nil => simp
  | cons l ls ih =>
    have h1 := h l (by simp)
    have h2 := ih fun x hx => h x (by simp [hx])
    rw [List.map_cons, List.flatten_cons, List.length_append, List.length_cons, Nat.succ_mul]
    have h3 : (partB l).length = 4 + l.length := by unfold partB; rw [List.length_append, be_length]
    omega

/-! ### reading on -/
/-- The next part of r, if r is not empty: the error, the part, what is left. -/
def stepE (r : List UInt8) : Int := if r.length < 4 then 10 else if 4096 < num (r.take 4) then 4 else if r.length - 4 < num (r.take 4) then 10 else 0
def stepP (r : List UInt8) : List UInt8 := (r.drop 4).take (num (r.take 4))
def stepR (r : List UInt8) : List UInt8 := r.drop (4 + num (r.take 4))
def pgE : Nat → List UInt8 → Int
  | 0, _ => 0
  | f + 1, r => if r = [] then 0 else if stepE r = 0 then pgE f (stepR r) else stepE r
def pgL : Nat → List UInt8 → List (List UInt8)
  | 0, _ => []
  | f + 1, r => if r = [] then [] else stepP r :: pgL f (stepR r)
theorem stepR_lt (r : List UInt8) (h : r ≠ []) : (stepR r).length < r.length := by
  have : 0 < r.length := List.length_pos_iff.2 h
  unfold stepR
  rw [List.length_drop]
  omega
theorem pgE_fuel (r : List UInt8) : ∀ f : Nat, r.length ≤ f → pgE f r = pgE r.length r := by
  suffices ∀ n : Nat, ∀ r : List UInt8, r.length ≤ n → ∀ f : Nat, r.length ≤ f → pgE f r = pgE n r by
    intro f hf
    exact this r.length r (Nat.le_refl _) f hf
  intro n
  induction n with
  | zero =>
    intro r hr f _
    obtain rfl : r = [] := List.eq_nil_of_length_eq_zero (by omega)
    cases f <;> simp [pgE]
  | succ n ih =>
    intro r hr f hf
    rcases f with _ | f
    · obtain rfl : r = [] := List.eq_nil_of_length_eq_zero (by omega)
      simp [pgE]
    · by_cases h0 : r = []
      · subst h0; simp [pgE]
      · have h1 := stepR_lt r h0
        simp only [pgE, if_neg h0]
        split
        · exact ih (stepR r) (by omega) f (by omega)
        · rfl
theorem pgL_fuel (r : List UInt8) : ∀ f : Nat, r.length ≤ f → pgL f r = pgL r.length r := by
  suffices ∀ n : Nat, ∀ r : List UInt8, r.length ≤ n → ∀ f : Nat, r.length ≤ f → pgL f r = pgL n r by
    intro f hf
    exact this r.length r (Nat.le_refl _) f hf
  intro n
  induction n with
  | zero =>
    intro r hr f _
    obtain rfl : r = [] := List.eq_nil_of_length_eq_zero (by omega)
    cases f <;> simp [pgL]
  | succ n ih =>
    intro r hr f hf
    rcases f with _ | f
    · obtain rfl : r = [] := List.eq_nil_of_length_eq_zero (by omega)
      simp [pgL]
    · by_cases h0 : r = []
      · subst h0; simp [pgL]
      · have h1 := stepR_lt r h0
        simp only [pgL, if_neg h0]
        rw [ih (stepR r) (by omega) f (by omega)]
/-- What is read of r as a whole. -/
def rE (r : List UInt8) : Int := pgE r.length r
def rL (r : List UInt8) : List (List UInt8) := pgL r.length r
theorem rE_nil : rE [] = 0 := rfl
theorem rL_nil : rL [] = [] := rfl
theorem rE_cons (r : List UInt8) (h : r ≠ []) : rE r = if stepE r = 0 then rE (stepR r) else stepE r := by
  have h1 := stepR_lt r h
  obtain ⟨n, hn⟩ : ∃ n, r.length = n + 1 := ⟨r.length - 1, by omega⟩
  unfold rE
  rw [hn, pgE, if_neg h, pgE_fuel (stepR r) n (by omega)]
theorem rL_cons (r : List UInt8) (h : r ≠ []) : rL r = stepP r :: rL (stepR r) := by
  have h1 := stepR_lt r h
  obtain ⟨n, hn⟩ : ∃ n, r.length = n + 1 := ⟨r.length - 1, by omega⟩
  unfold rL
  rw [hn, pgL, if_neg h, pgL_fuel (stepR r) n (by omega)]

/-- Parts: the error, the kind, the parts. -/
def tagE (b : List UInt8) : Int := if b = [] then 10 else rE (b.drop 1)
def tagK (b : List UInt8) : UInt8 := if tagE b = 0 then b.getD 0 0 else 0
def tagL (b : List UInt8) : List (List UInt8) := if tagE b = 0 then rL (b.drop 1) else []

/-! ### what is digested is read, and what is read is digested -/
theorem step_part (l r : List UInt8) (h : l.length ≤ 4096) : stepE (partB l ++ r) = 0 ∧ stepP (partB l ++ r) = l ∧ stepR (partB l ++ r) = r ∧ partB l ++ r ≠ [] := by
  have hm : l.length % 4294967296 = l.length := Nat.mod_eq_of_lt (by omega)
  have hb : (be 4 l.length).length = 4 := be_length 4 _
  have ht : (partB l ++ r).take 4 = be 4 l.length := by
    unfold partB
    rw [hm, List.append_assoc, List.take_append_of_le_length (by omega), List.take_of_length_le (by omega)]
  have hn : num ((partB l ++ r).take 4) = l.length := by rw [ht, num_be]; omega
  have hd : (partB l ++ r).drop 4 = l ++ r := by
    unfold partB
    rw [hm, List.append_assoc, List.drop_append, hb, Nat.sub_self, List.drop_of_length_le (by omega)]
    rfl
  have hlen : (partB l ++ r).length = 4 + l.length + r.length := by
    unfold partB
    rw [List.length_append, List.length_append, be_length]
  refine ⟨?_, ?_, ?_, ?_⟩
  · unfold stepE
    rw [if_neg (by omega), hn, if_neg (by omega), if_neg (by omega)]
  · unfold stepP
    rw [hn, hd, List.take_append_of_le_length (by omega), List.take_of_length_le (by omega)]
  · unfold stepR
    rw [hn, ← List.drop_drop, hd, List.drop_append_of_le_length (by omega), List.drop_of_length_le (by omega)]
    rfl
  · intro he
    rw [he] at hlen
    have h0 : ([] : List UInt8).length = 0 := rfl
    omega
theorem read_parts (ls : List (List UInt8)) (h : ∀ l ∈ ls, l.length ≤ 4096) : rE (ls.map partB).flatten = 0 ∧ rL (ls.map partB).flatten = ls := by
  induction ls with
  | nil => exact ⟨rfl, rfl⟩
  | cons l ls ih =>
    obtain ⟨i1, i2⟩ := ih fun x hx => h x (by simp [hx])
    obtain ⟨s1, s2, s3, s4⟩ := step_part l (ls.map partB).flatten (h l (by simp))
    rw [List.map_cons, List.flatten_cons, rE_cons _ s4, rL_cons _ s4, if_pos s1, s2, s3, i1, i2]
    exact ⟨rfl, rfl⟩
theorem tag_back (k : UInt8) (ls : List (List UInt8)) (h : ∀ l ∈ ls, l.length ≤ 4096) : tagE (tagB k ls) = 0 ∧ tagK (tagB k ls) = k ∧ tagL (tagB k ls) = ls := by
  obtain ⟨h1, h2⟩ := read_parts ls h
  have e1 : tagE (tagB k ls) = 0 := by
    unfold tagE
    rw [if_neg (by simp [tagB])]
    exact h1
  refine ⟨e1, ?_, ?_⟩
  · unfold tagK; rw [if_pos e1]; rfl
  · unfold tagL; rw [if_pos e1]; exact h2
theorem part_step (r : List UInt8) (h : stepE r = 0) : partB (stepP r) ++ stepR r = r ∧ (stepP r).length ≤ 4096 := by
  unfold stepE at h
  split at h
  · cases h
  · split at h
    · cases h
    · split at h
      · cases h
      · rename_i h1 h2 h3
        have hl : (stepP r).length = num (r.take 4) := by
          unfold stepP
          rw [List.length_take, List.length_drop]
          omega
        refine ⟨?_, by omega⟩
        have ht : (r.take 4).length = 4 := by rw [List.length_take]; omega
        have hb := be_num (r.take 4)
        rw [ht] at hb
        unfold partB
        rw [hl, Nat.mod_eq_of_lt (by omega), hb]
        unfold stepP stepR
        rw [← List.drop_drop, List.append_assoc, List.take_append_drop, List.take_append_drop]
theorem parts_read : ∀ n : Nat, ∀ r : List UInt8, r.length ≤ n → rE r = 0 → ((rL r).map partB).flatten = r := by
  intro n
  induction n with
  | zero =>
    intro r hr _
    obtain rfl : r = [] := List.eq_nil_of_length_eq_zero (by omega)
    rfl
  | succ n ih =>
    intro r hr h
    by_cases h0 : r = []
    · subst h0; rfl
    · rw [rE_cons r h0] at h
      rw [rL_cons r h0, List.map_cons, List.flatten_cons]
      by_cases hs : stepE r = 0
      · rw [if_pos hs] at h
        rw [ih (stepR r) (by have := stepR_lt r h0; omega) h]
        exact (part_step r hs).1
      · rw [if_neg hs] at h
        exact absurd h hs
theorem tag_forth (b : List UInt8) (h : tagE b = 0) : tagB (tagK b) (tagL b) = b := by
  have hk : tagK b = b.getD 0 0 := by unfold tagK; rw [if_pos h]
  have hl : tagL b = rL (b.drop 1) := by unfold tagL; rw [if_pos h]
  unfold tagE at h
  split at h
  · cases h
  · rename_i h0
    unfold tagB
    rw [hk, hl, parts_read _ (b.drop 1) (Nat.le_refl _) h]
    cases b with
    | nil => exact absurd rfl h0
    | cons x b => rfl
end Go.Proofs.YtliahdlllmnkkaaDoor
