/-
 Layer 15, plain: what Pay and Give answer, and the states behind. No program is named here.
-/
import Derived.Test.YtmjocmogfckmmaaGreatDoorPureX
import Derived.Test.YtmjocmogfckmmaaGreatDoorRf10
namespace Go.Proofs.YtmjocmogfckmmaaGreatDoor
open Go.RowKit
set_option linter.unusedVariables false

/-- What Give answers: the error, the code, the pairs. -/
def giveTE (t : Tr) : Int := if mayA t = true then (if 260944 < t.ns.length then 9 else 0) else 8
def giveTC (t : Tr) (x : Dp) : Int := if giveTE t = 0 then giveC (allT t) x.t x.a else 0
theorem mayA_St {t : Tr} (h : mayA t = true) : mayT t = true ∧ St (allT t) := by
 unfold mayA at h
 rw [Bool.and_eq_true] at h
 exact ⟨h.1, (all_spec h.1).1, h.2⟩
/-- What Pay answers: the error, the code, the pairs. -/
def payTE (t : Tr) (x : Tx) : Int := if mayA t = true then (if decide (x.s = signD x) = true then (if nextB (allT t) x = true then (if decide (260944 < t.ns.length) = true then 9 else 0) else 2) else 110) else 8
def payTC (t : Tr) (x : Tx) (box : Dg) : Int := if payTE t x = 0 then paidC (allT t) x box else 0
def payTL (t : Tr) (x : Tx) (box : Dg) : List Pr := if payTE t x = 0 then paidL (allT t) x box else []
/-- A state behind a transaction: it stands for the pairs that are paid, and goes on with the nodes that were there. -/
def PayOk (t : Tr) (x : Tx) (box : Dg) (o : Tr) : Prop := if payTE t x = 0 then (mayA o = true ∧ allT o = paidL (allT t) x box ∧ o.ns.length ≤ t.ns.length + 1200 ∧ ∃ r, o.ns = t.ns ++ r) else o = ⟨[], 0⟩
theorem mayA_both {t : Tr} (h : mayA t = true) : mayT t = true ∧ heldP (allT t) = true := by
 unfold mayA at h
 simpa using h
theorem getA_in {t : Tr} (h : mayA t = true) (k : Dg) : getA t k = inA (allT t) k := by unfold getA; rw [if_pos h]
section
variable {t o : Tr} {x : Tx} {box : Dg} {d : Dp}
theorem payTE_zero (h : payTE t x = 0) : mayA t = true ∧ x.s = signD x ∧ nextB (allT t) x = true := by
 unfold payTE at h
 split at h
 ·rename_i h1
  split at h
  ·rename_i h2
   split at h
   ·rename_i h3
    exact ⟨h1, of_decide_eq_true h2, h3⟩
   ·cases h
  ·cases h
 ·cases h
theorem pay_yes (h : payTE t x = 0) (ho : PayOk t x box o) : mayA o = true ∧ allT o = paidL (allT t) x box ∧ o.ns.length ≤ t.ns.length + 1200 ∧ ∃ r, o.ns = t.ns ++ r := by unfold PayOk at ho; rwa [if_pos h] at ho
theorem pay_no (h : ¬ payTE t x = 0) (ho : PayOk t x box o) : o = ⟨[], 0⟩ := by unfold PayOk at ho; rwa [if_neg h] at ho
end
end Go.Proofs.YtmjocmogfckmmaaGreatDoor
