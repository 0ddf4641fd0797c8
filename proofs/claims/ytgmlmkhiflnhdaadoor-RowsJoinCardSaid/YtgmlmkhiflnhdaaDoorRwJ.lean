/-
  Lists of rows put one behind the other: an empty literal, what lay before as a source.
-/
import Derived.Test.YtgmlmkhiflnhdaaDoorInW
import Derived.Test.YtgmlmkhiflnhdaaDoorSls
namespace Go.Proofs.YtgmlmkhiflnhdaaDoor
open Go.RowKit
set_option linter.unusedVariables false
set_option linter.unusedSimpArgs false
set_option maxRecDepth 100000

theorem rds_row {w : World} {A : Option Addr} {ls : List (List UInt8)} (h : Rds w A ls) : Row (fun b => b < w.heap.size) w A ls := fun hn => by
  obtain ⟨b, o, rfl, hc⟩ := h hn
  have hlt : b < w.heap.size := by
    obtain ⟨A', c', e, -⟩ := hc 0 _ (List.getElem?_eq_getElem hn)
    exact World.block_lt_of_cell? _ _ e
  refine ⟨b, o, rfl, hlt, hlt, fun j x hx => ?_⟩
  obtain ⟨A', c', e, hr, h1, h2⟩ := hc j x hx
  refine ⟨[.slice A' x.length c'], ⟨A', c', rfl, h1, h2, hr.row fun a ha h0 => ?_⟩, fun i v hv => ?_⟩
  · obtain ⟨b2, o2, hA, hc2⟩ := hr h0
    rw [ha] at hA
    injection hA with hA
    subst hA
    exact World.block_lt_of_cell? _ _ (hc2 0 _ (List.getElem?_eq_getElem h0))
  · rcases i with _ | i
    · simp at hv
      subst hv
      rw [show Enc.size (List UInt8) = 1 from rfl, Nat.mul_one, Nat.add_zero]
      exact e
    · simp at hv
theorem rowO_build0 {α : Type} [Enc α] {E : TypeId} {F : Nat → Prop} (w : World) (B : Nat) (hB : B ≤ w.heap.size) (hF : ¬ F w.heap.size) : RowO E F (w.alloc (.cells #[] E)) B (some ⟨w.heap.size, 0, none⟩) 0 ([] : List α) := by
  refine ⟨[], rfl, ⟨by simp, .inr ⟨w.heap.size, 0, #[], rfl, hB, heap_alloc_new w _, Nat.le_refl _, Nat.zero_le _, by simp, by simp⟩⟩, fun j x vs h => by simp at h, fun a ha => by injection ha with ha; subst ha; exact hF⟩
end Go.Proofs.YtgmlmkhiflnhdaaDoor
