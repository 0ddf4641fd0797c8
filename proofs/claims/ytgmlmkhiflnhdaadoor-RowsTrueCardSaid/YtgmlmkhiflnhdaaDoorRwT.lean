/-
  Layer 13, plain: a row's sides fit; lists joined.
-/
import Derived.Test.YtgmlmkhiflnhdaaDoorRef13d
import Derived.Test.YtgmlmkhiflnhdaaDoorRwF
namespace Go.Proofs.YtgmlmkhiflnhdaaDoor
open Go.RowKit
set_option linter.unusedVariables false
set_option linter.unusedSimpArgs false

theorem fits_sides {ls : List (List UInt8)} {n : Nat} (hm : listR ls = true) (hn : n < ls.length) : fitsR (rootR ls) (ls.length : Int) (n : Int) ls[n] (sidesR ls n) = true := by
  have hl : ls.length ≤ 256 ∧ ∀ x ∈ ls, x.length ≤ 4096 := by
    unfold listR at hm
    simp only [Bool.and_eq_true, decide_eq_true_eq, List.all_eq_true] at hm
    exact hm
  have h4 := hl.2 _ (List.getElem_mem hn)
  have hB : badR (ls.length : Int) (n : Int) ls[n] = false := by
    unfold badR
    rw [decide_eq_false (by omega), decide_eq_false (by omega), decide_eq_false (by omega), decide_eq_false (by omega)]
    rfl
  unfold fitsR
  rw [hB, Int.toNat_natCast, Int.toNat_natCast, made_sides (ls.length + 1) ls n hn (by omega)]
  simp [fitM]
theorem sides_le8 {ls : List (List UInt8)} (hm : listR ls = true) (n : Nat) : (sidesR ls n).length ≤ 8 := by
  refine sidesR_len 8 ls n ?_
  unfold listR at hm
  simp only [Bool.and_eq_true, decide_eq_true_eq] at hm
  exact hm.1
theorem great_list {ls : List (List UInt8)} {m : Int} (h : greatR ls m = false) (hm : m ≤ 1000) : ls.length ≤ 1000 ∧ ∀ x ∈ ls, x.length ≤ 1000000 := by
  obtain ⟨h1, h2⟩ := greatR_no h
  exact ⟨by omega, fun x hx => Nat.le_trans (bigR_le (h2 x hx)) (by decide)⟩
/-- Two lists that are joined are one, if both are lists (of so few rows). -/
theorem listR_app {l o : List (List UInt8)} (h1 : l.length ≤ 16) (h2 : o.length ≤ 16) : listR (l ++ o) = (listR l && listR o) := by
  unfold listR
  rw [List.all_append, decide_eq_true (show (l ++ o).length ≤ 256 by rw [List.length_append]; omega), decide_eq_true (show l.length ≤ 256 by omega), decide_eq_true (show o.length ≤ 256 by omega)]
  rfl
end Go.Proofs.YtgmlmkhiflnhdaaDoor
