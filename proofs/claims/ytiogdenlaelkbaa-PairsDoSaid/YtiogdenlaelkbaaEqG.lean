/-
  Whether two digests are equal, whatever they are.
-/
import Derived.Test.YtiogdenlaelkbaaEqD
namespace Go.Proofs.Ytiogdenlaelkbaa
open Go.RowKit
set_option linter.unusedVariables false

section
variable {P : Program}
theorem run_eqItems_two (d : Nat) (E : TypeId) (he : P.underlying E = some (.int .u8)) (l m : List UInt8) (w : World) : ∀ is : List Nat, (∀ i ∈ is, i < l.length ∧ i < m.length) →
    (Op.eqItems (d + 1) E 1 (l.map bv).toArray (m.map bv).toArray is).run P w = .ok (is.all fun i => l.getD i 0 == m.getD i 0) w := by
  intro is
  induction is with
  | nil => intro _; simp [Op.eqItems]
  | cons i is ih =>
    intro h
    obtain ⟨hi, hi2⟩ := h i (by simp)
    have h2 := ih fun j hj => h j (by simp [hj])
    have e1 : l.getD i 0 = l[i] := by simp [List.getD, hi]
    have e2 : m.getD i 0 = m[i] := by simp [List.getD, hi2]
    have h3 : (Op.equalIn (d + 1) E (bv l[i]) (bv m[i])).run P w = .ok (l[i] == m[i]) w := by
      unfold bv
      rw [run_equalIn_int w d E .u8 .u8 _ _ he]
      congr 1
      rw [Bool.eq_iff_iff, beq_iff_eq]
      simp [← UInt8.toNat_inj, Int.natCast_inj]
    simp only [Op.eqItems, Nat.mul_one, Sem.run_bind, run_part_byte E he l i hi w, run_part_byte E he m i hi2 w, Result.andThen_ok, h3, List.all_cons, e1, e2]
    cases hb : (l[i] == m[i])
    · simp
    · simp only [Bool.not_true, Bool.false_eq_true, if_false, Bool.true_and]
      exact h2
end
theorem eq_dig2 (l m : List UInt8) (hl : l.length = 32) (hm : m.length = 32) (w : World) : (Op.equalIn 10000 24 (.agg (l.map bv).toArray) (.agg (m.map bv).toArray)).run Try.prog w = .ok (decide (l = m)) w := by
  obtain ⟨i0, hi0, hz0, hz1, hz2⟩ := info_parts infoU8
  have h := run_equalIn_array (P := Try.prog) w 9999 (l.map bv).toArray (m.map bv).toArray Try.underlying24 hi0
  rw [h, cellsU8]
  have h2 := run_eqItems_two 9998 5 underU8 l m w (List.range 32) (by intro i hi; rw [List.mem_range] at hi; omega)
  refine h2.trans ?_
  congr 1
  rw [Bool.eq_iff_iff, List.all_eq_true, decide_eq_true_eq]
  constructor
  · intro h
    apply List.ext_getElem (by omega)
    intro i h1 h2
    have := h i (List.mem_range.2 (by omega))
    simpa [List.getD, h1, h2] using this
  · rintro rfl i _
    simp
end Go.Proofs.Ytiogdenlaelkbaa
