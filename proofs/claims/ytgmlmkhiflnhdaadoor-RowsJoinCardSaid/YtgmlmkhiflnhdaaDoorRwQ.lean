/-
  Lists of rows cut.
-/
import Derived.Test.YtgmlmkhiflnhdaaDoorRwP
import Derived.Test.YtgmlmkhiflnhdaaDoorMem
namespace Go.Proofs.YtgmlmkhiflnhdaaDoor
open Go.RowKit
set_option linter.unusedVariables false

theorem Rds.take {w : World} {A : Option Addr} {ls : List (List UInt8)} (h : Rds w A ls) (k : Nat) : Rds w A (ls.take k) := fun hn => by
  obtain ⟨b, o, rfl, hc⟩ := h (by rw [List.length_take] at hn; omega)
  refine ⟨b, o, rfl, fun j l hl => hc j l ?_⟩
  rw [List.getElem?_take] at hl
  split at hl
  · exact hl
  · cases hl
theorem Rds.cutA {w : World} {A : Option Addr} {ls : List (List UInt8)} (h : Rds w A ls) (k c : Nat) (hk : k ≤ ls.length) (hc : ls.length ≤ c) : Rds w (cutA A c k 1) (ls.drop k) := fun hn => by
  rw [List.length_drop] at hn
  obtain ⟨b, o, rfl, hh⟩ := h (by omega)
  refine ⟨b, o + k * 1, ?_, fun j l hl => ?_⟩
  · unfold Go.Proofs.YtgmlmkhiflnhdaaDoor.cutA
    rw [if_neg (by omega), Option.map_some, Addr.add_lit]
  · rw [List.getElem?_drop] at hl
    obtain ⟨A', c', e, r⟩ := hh (k + j) l hl
    exact ⟨A', c', by rw [show o + k * 1 + j = o + (k + j) by omega]; exact e, r⟩
/-- The loop that seeks the first part's length. -/
theorem firstN_loop {n j : Nat} (hn : 2 ≤ n) (h1 : 2 ^ j < n) (h2 : ¬ 2 * 2 ^ j < n) : 2 ^ j = firstN n := (firstN_of h1 (by rw [Nat.pow_succ]; omega)).symm
end Go.Proofs.YtgmlmkhiflnhdaaDoor
