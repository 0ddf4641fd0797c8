/-
  The document's answers of layer 10: Held, In, Sum.
-/
import Derived.Test.YtcifncmfjlbhjaaDoorRef10a
import Derived.Test.YtcifncmfjlbhjaaDoorRefE
namespace Go.Proofs.YtcifncmfjlbhjaaDoor
open Go.RowKit
set_option linter.unusedVariables false
set_option linter.unusedSimpArgs false
set_option maxRecDepth 100000

theorem held_step {ps : List Pr} {j : Nat} (hj : j < ps.length) : heldP (ps.take (j + 1)) = (heldP (ps.take j) && decide (acE ps[j].v = 0)) := by
  unfold heldP
  rw [List.take_succ_eq_append_getElem hj, List.all_append]
  simp
theorem held_no {ps : List Pr} {j : Nat} (hj : j < ps.length) (h : acE ps[j].v ≠ 0) : heldP ps = false := by
  refine Bool.eq_false_iff.2 fun q => h (held_iff.1 q _ (List.getElem_mem hj))
theorem read_codes (l : List UInt8) : acE l = 10 ∨ acE l = 11 ∨ acE l = 8 ∨ acE l = 0 := by
  unfold acE
  split
  · exact .inl rfl
  · split
    · exact .inr (.inl rfl)
    · split
      · exact .inr (.inr (.inl rfl))
      · exact .inr (.inr (.inr rfl))
theorem acC0 (a : Ac) : (acC a).toArray.size = 2 := rfl
/-! ### totals -/
def totH (ps : List Pr) : Nat := totP ps / 18446744073709551616
def totL (ps : List Pr) : Nat := totP ps % 18446744073709551616
theorem tot_step {ps : List Pr} {j : Nat} (hj : j < ps.length) : totP (ps.take (j + 1)) = totP (ps.take j) + (acOf ps[j].v).b := by
  rw [List.take_succ_eq_append_getElem hj, tot_app]
  simp [totP]
theorem tot_le : ∀ ps : List Pr, totP ps ≤ ps.length * 18446744073709551615
  | [] => by simp [totP]
  | p :: ps => by
    have h1 := tot_le ps
    have h2 := (acOf_ok p.v).2
    rw [tot_cons, List.length_cons]
    omega
theorem tot_div (t b : Nat) (hb : b < 18446744073709551616) : (t + b) / 18446744073709551616 = if 18446744073709551615 - t % 18446744073709551616 < b then t / 18446744073709551616 + 1 else t / 18446744073709551616 := by
  split <;> omega
theorem tot_mod (t b : Nat) (hb : b < 18446744073709551616) : (t + b) % 18446744073709551616 = (t % 18446744073709551616 + b) % 18446744073709551616 := by omega
end Go.Proofs.YtcifncmfjlbhjaaDoor
