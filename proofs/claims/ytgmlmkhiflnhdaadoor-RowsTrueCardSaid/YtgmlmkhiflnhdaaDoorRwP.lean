/-
  Layer 13, plain: lists of rows, their roots, a row's sides, what sides make. No program is named here.
-/
import Derived.Test.YtgmlmkhiflnhdaaDoorPlain
import Derived.Test.YtgmlmkhiflnhdaaDoorMem
namespace Go.Proofs.YtgmlmkhiflnhdaaDoor
open Go.RowKit
set_option linter.unusedVariables false

/-- How many of so many stand in the first part: the greatest power of 2 that is less. -/
def firstN (n : Nat) : Nat := 2 ^ Nat.log2 (n - 1)
theorem firstN_pos (n : Nat) : 0 < firstN n := Nat.two_pow_pos _
theorem firstN_lt {n : Nat} (h : 2 ≤ n) : firstN n < n := by
  have := Nat.log2_self_le (n := n - 1) (by omega)
  unfold firstN
  omega
theorem firstN_le {n : Nat} (h : 2 ≤ n) : n ≤ 2 * firstN n := by
  have := Nat.lt_log2_self (n := n - 1)
  unfold firstN
  rw [Nat.pow_succ] at this
  omega
/-- Any power of 2 that is less, and not less than the half, is that. -/
theorem firstN_of {n j : Nat} (h1 : 2 ^ j < n) (h2 : n ≤ 2 ^ (j + 1)) : firstN n = 2 ^ j := by
  unfold firstN
  congr 1
  have h0 : n - 1 ≠ 0 := by have := Nat.two_pow_pos j; omega
  exact (Nat.log2_eq_iff h0).2 ⟨by omega, by omega⟩
def leafR (x : List UInt8) : Dg := ⟨sha256 (tagB 7 [x]), S8.bytes_len _⟩
def forkR (a b : Dg) : Dg := ⟨sha256 (tagB 8 [a.1, b.1]), S8.bytes_len _⟩
def noneR : Dg := ⟨sha256 [0], S8.bytes_len _⟩
/-- The root of rows (k: more than there are). -/
def rootF : Nat → List (List UInt8) → Dg
  | 0, _ => noneR
  | k + 1, l => match l with
    | [] => noneR
    | [x] => leafR x
    | l => forkR (rootF k (l.take (firstN l.length))) (rootF k (l.drop (firstN l.length)))
def rootR (l : List (List UInt8)) : Dg := rootF (l.length + 1) l
theorem rootF_more {l : List (List UInt8)} (k : Nat) (h : 2 ≤ l.length) : rootF (k + 1) l = forkR (rootF k (l.take (firstN l.length))) (rootF k (l.drop (firstN l.length))) := by
  match l, h with
  | x :: y :: m, _ => rfl
theorem rootF_enough : ∀ (k j : Nat) (l : List (List UInt8)), l.length < k → l.length < j → rootF k l = rootF j l
  | 0, _, _, h, _ => by omega
  | _ + 1, 0, _, _, h => by omega
  | k + 1, j + 1, [], _, _ => rfl
  | k + 1, j + 1, [x], _, _ => rfl
  | k + 1, j + 1, x :: y :: m, h1, h2 => by
    have hl : 2 ≤ (x :: y :: m).length := by simp
    have f1 := firstN_pos (x :: y :: m).length
    have f2 := firstN_lt hl
    rw [rootF_more k hl, rootF_more j hl]
    rw [rootF_enough k j ((x :: y :: m).take (firstN (x :: y :: m).length)) (by rw [List.length_take]; omega) (by rw [List.length_take]; omega),
      rootF_enough k j ((x :: y :: m).drop (firstN (x :: y :: m).length)) (by rw [List.length_drop]; omega) (by rw [List.length_drop]; omega)]
theorem rootR_nil : rootR [] = noneR := rfl
theorem rootR_one (x : List UInt8) : rootR [x] = leafR x := rfl
theorem rootR_more {l : List (List UInt8)} (h : 2 ≤ l.length) : rootR l = forkR (rootR (l.take (firstN l.length))) (rootR (l.drop (firstN l.length))) := by
  have f1 := firstN_pos l.length
  have f2 := firstN_lt h
  unfold rootR
  rw [rootF_more _ h, rootF_enough l.length ((l.take (firstN l.length)).length + 1) (l.take (firstN l.length)) (by rw [List.length_take]; omega) (by omega),
    rootF_enough l.length ((l.drop (firstN l.length)).length + 1) (l.drop (firstN l.length)) (by rw [List.length_drop]; omega) (by omega)]
/-- Two lists under one root. -/
theorem rootR_join {l o : List (List UInt8)} {j : Nat} (hl : l.length = 2 ^ j) (h1 : 0 < o.length) (h2 : o.length ≤ l.length) : rootR (l ++ o) = forkR (rootR l) (rootR o) := by
  have hp := Nat.two_pow_pos j
  have hf : firstN (l ++ o).length = l.length := by
    rw [hl]
    refine firstN_of ?_ ?_
    · rw [List.length_append]; omega
    · rw [List.length_append, Nat.pow_succ]; omega
  rw [rootR_more (by rw [List.length_append]; omega), hf, List.take_left' rfl, List.drop_left' rfl]

/-- A row's sides. -/
def sidesF : Nat → List (List UInt8) → Nat → List Dg
  | 0, _, _ => []
  | k + 1, l, i => if 2 ≤ l.length then
      if i < firstN l.length then sidesF k (l.take (firstN l.length)) i ++ [rootR (l.drop (firstN l.length))]
      else sidesF k (l.drop (firstN l.length)) (i - firstN l.length) ++ [rootR (l.take (firstN l.length))]
    else []
def sidesR (l : List (List UInt8)) (i : Nat) : List Dg := sidesF (l.length + 1) l i
theorem sidesF_enough : ∀ (k j : Nat) (l : List (List UInt8)) (i : Nat), l.length < k → l.length < j → sidesF k l i = sidesF j l i
  | 0, _, _, _, h, _ => by omega
  | _ + 1, 0, _, _, _, h => by omega
  | k + 1, j + 1, l, i, h1, h2 => by
    unfold sidesF
    by_cases hl : 2 ≤ l.length
    · have f1 := firstN_pos l.length
      have f2 := firstN_lt hl
      rw [if_pos hl, if_pos hl, sidesF_enough k j (l.take (firstN l.length)) i (by rw [List.length_take]; omega) (by rw [List.length_take]; omega),
        sidesF_enough k j (l.drop (firstN l.length)) (i - firstN l.length) (by rw [List.length_drop]; omega) (by rw [List.length_drop]; omega)]
    · rw [if_neg hl, if_neg hl]
theorem sidesR_one {l : List (List UInt8)} (h : ¬ 2 ≤ l.length) (i : Nat) : sidesR l i = [] := by
  unfold sidesR sidesF
  rw [if_neg h]
theorem sidesR_left {l : List (List UInt8)} {i : Nat} (h : 2 ≤ l.length) (hi : i < firstN l.length) : sidesR l i = sidesR (l.take (firstN l.length)) i ++ [rootR (l.drop (firstN l.length))] := by
  have f1 := firstN_pos l.length
  have f2 := firstN_lt h
  conv => lhs; unfold sidesR sidesF
  rw [if_pos h, if_pos hi, sidesF_enough l.length ((l.take (firstN l.length)).length + 1) _ _ (by rw [List.length_take]; omega) (by omega)]
  rfl
theorem sidesR_right {l : List (List UInt8)} {i : Nat} (h : 2 ≤ l.length) (hi : ¬ i < firstN l.length) : sidesR l i = sidesR (l.drop (firstN l.length)) (i - firstN l.length) ++ [rootR (l.take (firstN l.length))] := by
  have f1 := firstN_pos l.length
  have f2 := firstN_lt h
  conv => lhs; unfold sidesR sidesF
  rw [if_pos h, if_neg hi, sidesF_enough l.length ((l.drop (firstN l.length)).length + 1) _ _ (by rw [List.length_drop]; omega) (by omega)]
  rfl
theorem sidesR_len : ∀ (d : Nat) (l : List (List UInt8)) (i : Nat), l.length ≤ 2 ^ d → (sidesR l i).length ≤ d := by
  intro d
  induction d with
  | zero =>
    intro l i h
    rw [sidesR_one (by simp at h; omega)]
    simp
  | succ d ih =>
    intro l i h
    by_cases hl : 2 ≤ l.length
    · have f1 := firstN_pos l.length
      have f2 := firstN_lt hl
      have f3 := firstN_le hl
      have f4 : firstN l.length ≤ 2 ^ d := by
        unfold firstN
        refine Nat.pow_le_pow_right (by decide) ?_
        have : l.length - 1 < 2 ^ (d + 1) := by have := Nat.two_pow_pos (d + 1); omega
        have h0 : l.length - 1 ≠ 0 := by omega
        have := (Nat.log2_lt h0).2 this
        omega
      by_cases hi : i < firstN l.length
      · rw [sidesR_left hl hi, List.length_append]
        have := ih (l.take (firstN l.length)) i (by rw [List.length_take]; omega)
        simp
        omega
      · rw [sidesR_right hl hi, List.length_append]
        have := ih (l.drop (firstN l.length)) (i - firstN l.length) (by rw [List.length_drop]; omega)
        simp
        omega
    · rw [sidesR_one hl]
      simp

/-- What sides make of a row (told from the last one on): none, if they are too few or too many. -/
def madeF : Nat → Nat → Nat → List UInt8 → List Dg → Option Dg
  | 0, _, _, _, _ => none
  | k + 1, n, i, x, ss => if n = 1 then (if ss = [] then some (leafR x) else none)
    else match ss.getLast? with
      | none => none
      | some s => if i < firstN n then (madeF k (firstN n) i x ss.dropLast).map fun d => forkR d s else (madeF k (n - firstN n) (i - firstN n) x ss.dropLast).map fun d => forkR s d
def madeR (n i : Nat) (x : List UInt8) (ss : List Dg) : Option Dg := madeF (n + 1) n i x ss
theorem madeF_enough : ∀ (k j n i : Nat) (x : List UInt8) (ss : List Dg), 0 < n → n < k → n < j → madeF k n i x ss = madeF j n i x ss
  | 0, _, _, _, _, _, _, h, _ => by omega
  | _ + 1, 0, _, _, _, _, _, _, h => by omega
  | k + 1, j + 1, n, i, x, ss, h0, h1, h2 => by
    unfold madeF
    by_cases hn : n = 1
    · rw [if_pos hn, if_pos hn]
    · rw [if_neg hn, if_neg hn]
      have f1 := firstN_pos n
      have f2 := firstN_lt (n := n) (by omega)
      cases ss.getLast? with
      | none => rfl
      | some s => dsimp only; rw [madeF_enough k j (firstN n) i x _ f1 (by omega) (by omega), madeF_enough k j (n - firstN n) (i - firstN n) x _ (by omega) (by omega) (by omega)]
theorem madeR_one (i : Nat) (x : List UInt8) (ss : List Dg) : madeR 1 i x ss = if ss = [] then some (leafR x) else none := rfl
theorem madeR_nil {n : Nat} (hn : 2 ≤ n) (i : Nat) (x : List UInt8) : madeR n i x [] = none := by
  unfold madeR madeF
  rw [if_neg (by omega)]
  rfl
theorem madeR_left {n i : Nat} (hn : 2 ≤ n) (hi : i < firstN n) (x : List UInt8) (ss : List Dg) (s : Dg) : madeR n i x (ss ++ [s]) = (madeR (firstN n) i x ss).map fun d => forkR d s := by
  have f1 := firstN_pos n
  have f2 := firstN_lt hn
  conv => lhs; unfold madeR madeF
  rw [if_neg (by omega), List.getLast?_concat, List.dropLast_concat]
  dsimp only
  rw [if_pos hi, madeF_enough n (firstN n + 1) _ _ _ _ f1 (by omega) (by omega)]
  rfl
theorem madeR_right {n i : Nat} (hn : 2 ≤ n) (hi : ¬ i < firstN n) (x : List UInt8) (ss : List Dg) (s : Dg) : madeR n i x (ss ++ [s]) = (madeR (n - firstN n) (i - firstN n) x ss).map fun d => forkR s d := by
  have f1 := firstN_pos n
  have f2 := firstN_lt hn
  conv => lhs; unfold madeR madeF
  rw [if_neg (by omega), List.getLast?_concat, List.dropLast_concat]
  dsimp only
  rw [if_neg hi, madeF_enough n (n - firstN n + 1) _ _ _ _ (by omega) (by omega) (by omega)]
  rfl
/-- A row's sides fit its list's root, at its place. -/
theorem made_sides : ∀ (k : Nat) (l : List (List UInt8)) (i : Nat) (hi : i < l.length), l.length < k → madeR l.length i l[i] (sidesR l i) = some (rootR l)
  | 0, _, _, _, h => by omega
  | k + 1, l, i, hi, hk => by
    by_cases hl : 2 ≤ l.length
    · have f1 := firstN_pos l.length
      have f2 := firstN_lt hl
      have l1 : (l.take (firstN l.length)).length = firstN l.length := by rw [List.length_take]; omega
      have l2 : (l.drop (firstN l.length)).length = l.length - firstN l.length := by rw [List.length_drop]
      by_cases h : i < firstN l.length
      · have ih := made_sides k (l.take (firstN l.length)) i (by omega) (by omega)
        have e : (l.take (firstN l.length))[i]'(by omega) = l[i] := by rw [List.getElem_take]
        rw [e, l1] at ih
        rw [sidesR_left hl h, madeR_left hl h, ih, rootR_more hl]
        rfl
      · have ih := made_sides k (l.drop (firstN l.length)) (i - firstN l.length) (by omega) (by omega)
        have e : (l.drop (firstN l.length))[i - firstN l.length]'(by omega) = l[i] := by
          rw [List.getElem_drop]
          congr 1
          omega
        rw [e, l2] at ih
        rw [sidesR_right hl h, madeR_right hl h, ih, rootR_more hl]
        rfl
    · match l, hi, hl with
      | [x], hi, _ =>
        have h0 : i = 0 := by simpa using hi
        subst h0
        rw [sidesR_one (by simp), rootR_one]
        rfl
      | x :: y :: m, _, hl => exact absurd (by simp) hl
def listR (l : List (List UInt8)) : Bool := decide (l.length ≤ 256) && l.all fun x => decide (x.length ≤ 4096)
end Go.Proofs.YtgmlmkhiflnhdaaDoor
