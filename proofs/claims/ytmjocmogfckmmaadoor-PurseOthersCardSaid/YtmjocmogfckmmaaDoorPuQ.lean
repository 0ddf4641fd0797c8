/-
 Layer 15, plain: what Pay and Give answer, and the states behind. No program is named here.
-/
import Derived.Test.YtmjocmogfckmmaaDoorPureX
import Derived.Test.YtmjocmogfckmmaaDoorRf10
namespace Go.Proofs.YtmjocmogfckmmaaDoor
open Go.RowKit
set_option linter.unusedVariables false

/-- What Give answers: the error, the code, the pairs. -/
def giveTE (t : Tr) : Int := if mayA t = true then (if 260944 < t.ns.length then 9 else 0) else 8
def giveTC (t : Tr) (x : Dp) : Int := if giveTE t = 0 then giveC (allT t) x.t x.a else 0
theorem mayA_St {t : Tr} (h : mayA t = true) : mayT t = true ∧ St (allT t) := by
 unfold mayA at h
 rw [Bool.and_eq_true] at h
 exact ⟨h.1, (all_spec h.1).1, h.2⟩
/-- What Pay answers: the error, the code, the pairs. -/
def payTE (t : Tr) (x : Tx) : Int := if mayA t = true then (if decide (x.s = signD x) = true then (if nextB (allT t) x = true then (if decide (260944 < t.ns.length) = true then 9 else 0) else 2) else 110) else 8
def payTC (t : Tr) (x : Tx) (box : Dg) : Int := if payTE t x = 0 then paidC (allT t) x box else 0
/-- A state behind a transaction: it stands for the pairs that are paid, and goes on with the nodes that were there. -/
def PayOk (t : Tr) (x : Tx) (box : Dg) (o : Tr) : Prop := if payTE t x = 0 then (mayA o = true ∧ allT o = paidL (allT t) x box ∧ o.ns.length ≤ t.ns.length + 1200 ∧ ∃ r, o.ns = t.ns ++ r) else o = ⟨[], 0⟩
/-- A state behind a deposit. -/
def GiveOk (t : Tr) (x : Dp) (o : Tr) : Prop := if giveTE t = 0 then (mayA o = true ∧ allT o = giveL (allT t) x.t x.a ∧ o.ns.length ≤ t.ns.length + 1200 ∧ ∃ r, o.ns = t.ns ++ r) else o = ⟨[], 0⟩
theorem mayA_both {t : Tr} (h : mayA t = true) : mayT t = true ∧ heldP (allT t) = true := by
 unfold mayA at h
 simpa using h
theorem getA_in {t : Tr} (h : mayA t = true) (k : Dg) : getA t k = inA (allT t) k := by unfold getA; rw [if_pos h]
section
variable {t o : Tr} {x : Tx} {box : Dg} {d : Dp}
theorem payTE_zero (h : payTE t x = 0) : mayA t = true ∧ x.s = signD x ∧ nextB (allT t) x = true := by
 unfold payTE at h
 split at h
 ·rename_i h1
  split at h
  ·rename_i h2
   split at h
   ·rename_i h3
    exact ⟨h1, of_decide_eq_true h2, h3⟩
   ·cases h
  ·cases h
 ·cases h
theorem pay_yes (h : payTE t x = 0) (ho : PayOk t x box o) : mayA o = true ∧ allT o = paidL (allT t) x box ∧ o.ns.length ≤ t.ns.length + 1200 ∧ ∃ r, o.ns = t.ns ++ r := by unfold PayOk at ho; rwa [if_pos h] at ho
theorem pay_no (h : ¬ payTE t x = 0) (ho : PayOk t x box o) : o = ⟨[], 0⟩ := by unfold PayOk at ho; rwa [if_neg h] at ho
theorem give_yes (h : giveTE t = 0) (ho : GiveOk t d o) : mayA o = true ∧ allT o = giveL (allT t) d.t d.a ∧ o.ns.length ≤ t.ns.length + 1200 ∧ ∃ r, o.ns = t.ns ++ r := by unfold GiveOk at ho; rwa [if_pos h] at ho
theorem pay_tot (h : payTE t x = 0) (ho : PayOk t x box o) : totP (allT o) = totP (allT t) := by
 obtain ⟨h1, -, h3⟩ := payTE_zero h
 rw [(pay_yes h ho).2.1, paid_tot (mayA_St h1).2 h3]
theorem pay_next (h : payTE t x = 0) (ho : PayOk t x box o) : (getA o (fromX x)).n = x.n + 1 := by
 obtain ⟨h1, -, h3⟩ := payTE_zero h
 obtain ⟨o1, o2, -⟩ := pay_yes h ho
 rw [getA_in o1, o2, paid_nonce (mayA_St h1).2 h3]
 unfold nextB at h3
 simp only [Bool.and_eq_true, decide_eq_true_eq] at h3
 omega
theorem pay_again (h : payTE t x = 0) (ho : PayOk t x box o) : payTE o x = 2 := by
 obtain ⟨h1, h2, h3⟩ := payTE_zero h
 obtain ⟨o1, o2, -⟩ := pay_yes h ho
 unfold payTE
 rw [if_pos o1, if_pos (decide_eq_true h2), o2, paid_once (mayA_St h1).2 h3, if_neg (by decide)]
theorem pay_others (h : payTE t x = 0) (ho : PayOk t x box o) {k : Dg} (k1 : k ≠ fromX x) (k2 : k ≠ x.t) (k3 : k ≠ box) : getA o k = getA t k := by
 obtain ⟨h1, -, h3⟩ := payTE_zero h
 obtain ⟨o1, o2, -⟩ := pay_yes h ho
 rw [getA_in o1, getA_in h1, o2, paid_other (mayA_St h1).2 h3 k1 k2 k3]
theorem giveS_tot (h : giveTE t = 0) (ho : GiveOk t d o) : totP (allT o) = if giveC (allT t) d.t d.a = 0 then totP (allT t) + d.a else totP (allT t) := by
 have h1 : mayA t = true := by
  unfold giveTE at h
  split at h
  ·assumption
  ·cases h
 rw [(give_yes h ho).2.1]
 unfold giveC giveL
 by_cases hm : moreB (allT t) d.t d.a = true
 ·rw [if_pos hm, if_pos hm, if_pos rfl, more_tot (mayA_St h1).2 hm]
 ·rw [if_neg hm, if_neg hm, if_neg (by decide)]
theorem giveTE_small (h : t.ns.length ≤ 100000) : giveTE t = if mayA t = true then 0 else 8 := by
 unfold giveTE
 split
 ·rw [if_neg (by omega)]
 ·rfl
end
end Go.Proofs.YtmjocmogfckmmaaDoor
