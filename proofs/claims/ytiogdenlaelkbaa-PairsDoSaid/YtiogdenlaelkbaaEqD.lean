/-
  Equal digests are equal.
-/
import Derived.Test.YtiogdenlaelkbaaDig
import Derived.ChangeKeysEq
namespace Go.Proofs.Ytiogdenlaelkbaa
open Go.RowKit
set_option linter.unusedVariables false

section
variable {P : Program}
theorem run_part_byte (E : TypeId) (he : P.underlying E = some (.int .u8)) (l : List UInt8) (i : Nat) (hi : i < l.length) (w : World) : (part E (l.map bv).toArray i).run P w = .ok (bv l[i]) w := by
  simp [part, isAgg, run_underlying he, hi]
theorem run_eqItems_bytes (d : Nat) (E : TypeId) (he : P.underlying E = some (.int .u8)) (l : List UInt8) (w : World) : ∀ is : List Nat, (∀ i ∈ is, i < l.length) → (Op.eqItems (d + 1) E 1 (l.map bv).toArray (l.map bv).toArray is).run P w = .ok true w := by
  intro is
  induction is with
  | nil => intro _; simp [Op.eqItems]
  | cons i is ih =>
    intro h
    have hi := h i (by simp)
    have h2 := ih fun j hj => h j (by simp [hj])
    have h3 : (Op.equalIn (d + 1) E (bv l[i]) (bv l[i])).run P w = .ok true w := by
      unfold bv
      rw [run_equalIn_int w d E .u8 .u8 _ _ he]
      simp
    simp only [Op.eqItems, Nat.mul_one, Sem.run_bind, run_part_byte E he l i hi w, Result.andThen_ok, h3, Bool.not_true, Bool.false_eq_true, if_false]
    exact h2
end
theorem cellsU8 : Try.prog.cellsOf 5 = 1 := by kernel_rfl
theorem eq_dig (l : List UInt8) (hl : l.length = 32) (w : World) : (Op.equalIn 10000 24 (.agg (l.map bv).toArray) (.agg (l.map bv).toArray)).run Try.prog w = .ok true w := by
  obtain ⟨i0, hi0, hz0, hz1, hz2⟩ := info_parts infoU8
  have h := run_equalIn_array (P := Try.prog) w 9999 (l.map bv).toArray (l.map bv).toArray Try.underlying24 hi0
  rw [h, cellsU8]
  exact run_eqItems_bytes 9998 5 underU8 l w _ (by intro i hi; rw [List.mem_range] at hi; omega)
end Go.Proofs.Ytiogdenlaelkbaa
