/-
  Layer 13, plain: the forks about a row, the sides by them, what is climbed. No program is named here.
-/
import Derived.Test.YtgmlmkhiflnhdaaDoorRwP
namespace Go.Proofs.YtgmlmkhiflnhdaaDoor
open Go.RowKit
set_option linter.unusedVariables false

structure Fk where
  f : Nat
  t : Nat
  l : Bool
/-- The forks about the place i of the part from f to t (k: more than there are), from it on up. -/
def forksF : Nat → Nat → Nat → Nat → List Fk
  | 0, _, _, _ => []
  | k + 1, f, t, i => if 2 ≤ t - f then
      if i < f + firstN (t - f) then forksF k f (f + firstN (t - f)) i ++ [⟨f + firstN (t - f), t, false⟩]
      else forksF k (f + firstN (t - f)) t i ++ [⟨f, f + firstN (t - f), true⟩]
    else []
def forksP (f t i : Nat) : List Fk := forksF (t - f + 1) f t i
theorem forksF_enough : ∀ (k j f t i : Nat), t - f < k → t - f < j → forksF k f t i = forksF j f t i
  | 0, _, _, _, _, h, _ => by omega
  | _ + 1, 0, _, _, _, _, h => by omega
  | k + 1, j + 1, f, t, i, h1, h2 => by
    unfold forksF
    by_cases hl : 2 ≤ t - f
    · have f1 := firstN_pos (t - f)
      have f2 := firstN_lt hl
      rw [if_pos hl, if_pos hl, forksF_enough k j f (f + firstN (t - f)) i (by omega) (by omega), forksF_enough k j (f + firstN (t - f)) t i (by omega) (by omega)]
    · rw [if_neg hl, if_neg hl]
theorem forksP_one {f t : Nat} (h : ¬ 2 ≤ t - f) (i : Nat) : forksP f t i = [] := by
  unfold forksP forksF
  rw [if_neg h]
theorem forksP_left {f t i : Nat} (h : 2 ≤ t - f) (hi : i < f + firstN (t - f)) : forksP f t i = forksP f (f + firstN (t - f)) i ++ [⟨f + firstN (t - f), t, false⟩] := by
  have f1 := firstN_pos (t - f)
  have f2 := firstN_lt h
  conv => lhs; unfold forksP forksF
  rw [if_pos h, if_pos hi, forksF_enough (t - f) (f + firstN (t - f) - f + 1) _ _ _ (by omega) (by omega)]
  rfl
theorem forksP_right {f t i : Nat} (h : 2 ≤ t - f) (hi : ¬ i < f + firstN (t - f)) : forksP f t i = forksP (f + firstN (t - f)) t i ++ [⟨f, f + firstN (t - f), true⟩] := by
  have f1 := firstN_pos (t - f)
  have f2 := firstN_lt h
  conv => lhs; unfold forksP forksF
  rw [if_pos h, if_neg hi, forksF_enough (t - f) (t - (f + firstN (t - f)) + 1) _ _ _ (by omega) (by omega)]
  rfl
theorem forksP_in : ∀ (k f t i : Nat), t - f < k → ∀ x ∈ forksP f t i, f ≤ x.f ∧ x.f < x.t ∧ x.t ≤ t
  | 0, _, _, _, h => by omega
  | k + 1, f, t, i, hk => by
    by_cases hl : 2 ≤ t - f
    · have f1 := firstN_pos (t - f)
      have f2 := firstN_lt hl
      intro x hx
      by_cases hi : i < f + firstN (t - f)
      · rw [forksP_left hl hi] at hx
        rcases List.mem_append.1 hx with h | h
        · have := forksP_in k f (f + firstN (t - f)) i (by omega) x h
          omega
        · rw [List.mem_singleton.1 h]
          exact ⟨by show f ≤ f + _; omega, by show f + _ < t; omega, Nat.le_refl _⟩
      · rw [forksP_right hl hi] at hx
        rcases List.mem_append.1 hx with h | h
        · have := forksP_in k (f + firstN (t - f)) t i (by omega) x h
          omega
        · rw [List.mem_singleton.1 h]
          exact ⟨Nat.le_refl _, by show f < f + _; omega, by show f + _ ≤ t; omega⟩
    · rw [forksP_one hl]
      intro x hx
      cases hx
theorem forksP_len : ∀ (k f t i : Nat), t - f < k → (forksP f t i).length ≤ t - f
  | 0, _, _, _, h => by omega
  | k + 1, f, t, i, hk => by
    by_cases hl : 2 ≤ t - f
    · have f1 := firstN_pos (t - f)
      have f2 := firstN_lt hl
      by_cases hi : i < f + firstN (t - f)
      · rw [forksP_left hl hi, List.length_append]
        have := forksP_len k f (f + firstN (t - f)) i (by omega)
        simp
        omega
      · rw [forksP_right hl hi, List.length_append]
        have := forksP_len k (f + firstN (t - f)) t i (by omega)
        simp
        omega
    · rw [forksP_one hl]
      simp
/-- The rows from f to t. -/
def cutR (l : List (List UInt8)) (f t : Nat) : List (List UInt8) := (l.drop f).take (t - f)
theorem cutR_len {l : List (List UInt8)} {f t : Nat} (h : t ≤ l.length) : (cutR l f t).length = t - f := by
  unfold cutR
  rw [List.length_take, List.length_drop]
  omega
theorem cutR_all (l : List (List UInt8)) : cutR l 0 l.length = l := by
  unfold cutR
  rw [List.drop_zero, Nat.sub_zero, List.take_length]
theorem cutR_take {l : List (List UInt8)} {f t n : Nat} (h : n ≤ t - f) : (cutR l f t).take n = cutR l f (f + n) := by
  unfold cutR
  rw [List.take_take, Nat.min_eq_left h, Nat.add_sub_cancel_left]
theorem cutR_drop {l : List (List UInt8)} {f t n : Nat} (h : n ≤ t - f) : (cutR l f t).drop n = cutR l (f + n) t := by
  unfold cutR
  rw [List.drop_take, List.drop_drop, Nat.sub_sub]
theorem cutR_mem {l : List (List UInt8)} {f t : Nat} : ∀ x ∈ cutR l f t, x ∈ l := fun x h => List.drop_subset _ _ (List.take_subset _ _ h)
/-- A row's sides, by its forks. -/
theorem sides_forks : ∀ (k f t i : Nat) (l : List (List UInt8)), t ≤ l.length → f ≤ i → i < t → t - f < k → sidesR (cutR l f t) (i - f) = (forksP f t i).map fun x => rootR (cutR l x.f x.t)
  | 0, _, _, _, _, _, _, _, h => by omega
  | k + 1, f, t, i, l, ht, hf, hi, hk => by
    have hn := cutR_len (f := f) ht
    by_cases hl : 2 ≤ t - f
    · have f1 := firstN_pos (t - f)
      have f2 := firstN_lt hl
      by_cases h : i < f + firstN (t - f)
      · rw [forksP_left hl h, sidesR_left (by rw [hn]; exact hl) (by rw [hn]; omega), hn, cutR_take (by omega), cutR_drop (by omega),
          sides_forks k f (f + firstN (t - f)) i l (by omega) hf h (by omega), List.map_append]
        rfl
      · rw [forksP_right hl h, sidesR_right (by rw [hn]; exact hl) (by rw [hn]; omega), hn, cutR_take (by omega), cutR_drop (by omega), Nat.sub_sub,
          sides_forks k (f + firstN (t - f)) t i l ht (by omega) hi (by omega), List.map_append]
        rfl
    · rw [forksP_one hl, sidesR_one (by rw [hn]; exact hl)]
      rfl
theorem sides_all {l : List (List UInt8)} {i : Nat} (hi : i < l.length) : sidesR l i = (forksP 0 l.length i).map fun x => rootR (cutR l x.f x.t) := by
  have h := sides_forks (l.length + 1) 0 l.length i l (Nat.le_refl _) (Nat.zero_le _) hi (by omega)
  rw [cutR_all] at h
  exact h
/-- One step up. -/
def upR (x : Fk) (d s : Dg) : Dg := if x.l = true then forkR s d else forkR d s
def climbP (d : Dg) : List Fk → List Dg → Dg
  | x :: fs, s :: ss => climbP (upR x d s) fs ss
  | _, _ => d
theorem climbP_concat : ∀ (fs : List Fk) (ss : List Dg) (d : Dg) (x : Fk) (s : Dg), fs.length = ss.length → climbP d (fs ++ [x]) (ss ++ [s]) = upR x (climbP d fs ss) s
  | [], [], _, _, _, _ => rfl
  | [], _ :: _, _, _, _, h => by simp at h
  | _ :: _, [], _, _, _, h => by simp at h
  | y :: fs, r :: ss, d, x, s, h => climbP_concat fs ss (upR y d r) x s (by simpa using h)
theorem climbP_take {fs : List Fk} {ss : List Dg} {d : Dg} {j : Nat} (h : fs.length = ss.length) (hj : j < fs.length) :
    climbP d (fs.take (j + 1)) (ss.take (j + 1)) = upR fs[j] (climbP d (fs.take j) (ss.take j)) (ss[j]'(by omega)) := by
  rw [List.take_succ_eq_append_getElem hj, List.take_succ_eq_append_getElem (by omega : j < ss.length)]
  exact climbP_concat _ _ _ _ _ (by simp [h])
/-- What sides make is what is climbed. -/
theorem made_climb : ∀ (k f t i : Nat) (x : List UInt8) (ss : List Dg), f ≤ i → i < t → t - f < k → madeR (t - f) (i - f) x ss = if ss.length = (forksP f t i).length then some (climbP (leafR x) (forksP f t i) ss) else none
  | 0, _, _, _, _, _, _, _, h => by omega
  | k + 1, f, t, i, x, ss, hf, hi, hk => by
    by_cases hl : 2 ≤ t - f
    · have f1 := firstN_pos (t - f)
      have f2 := firstN_lt hl
      rcases List.eq_nil_or_concat ss with rfl | ⟨q, s, rfl⟩
      · rw [madeR_nil hl, if_neg]
        by_cases h : i < f + firstN (t - f)
        · rw [forksP_left hl h]; simp
        · rw [forksP_right hl h]; simp
      · rw [List.concat_eq_append]
        by_cases h : i < f + firstN (t - f)
        · have ih := made_climb k f (f + firstN (t - f)) i x q hf h (by omega)
          rw [Nat.add_sub_cancel_left] at ih
          rw [forksP_left hl h, madeR_left hl (by omega), ih]
          by_cases hq : q.length = (forksP f (f + firstN (t - f)) i).length
          · rw [if_pos hq, if_pos (by simp [hq]), climbP_concat _ _ _ _ _ hq.symm]
            rfl
          · rw [if_neg hq, if_neg (by simpa using hq)]
            rfl
        · have ih := made_climb k (f + firstN (t - f)) t i x q (by omega) hi (by omega)
          rw [← Nat.sub_sub, ← Nat.sub_sub] at ih
          rw [forksP_right hl h, madeR_right hl (by omega), ih]
          by_cases hq : q.length = (forksP (f + firstN (t - f)) t i).length
          · rw [if_pos hq, if_pos (by simp [hq]), climbP_concat _ _ _ _ _ hq.symm]
            rfl
          · rw [if_neg hq, if_neg (by simpa using hq)]
            rfl
    · have h1 : t - f = 1 := by omega
      rw [forksP_one hl, h1, madeR_one]
      cases ss with
      | nil => rfl
      | cons a m => rw [if_neg (by simp), if_neg (by simp)]
theorem made_all {n i : Nat} (hi : i < n) (x : List UInt8) (ss : List Dg) : madeR n i x ss = if ss.length = (forksP 0 n i).length then some (climbP (leafR x) (forksP 0 n i) ss) else none :=
  made_climb (n + 1) 0 n i x ss (Nat.zero_le _) hi (by omega)
end Go.Proofs.YtgmlmkhiflnhdaaDoor
