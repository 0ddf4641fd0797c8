/-
 Layer 15, plain: what Pay and Give answer, and the states behind. No program is named here.
-/
import Derived.Test.YtmjocmogfckmmaaPureX
import Derived.Test.YtmjocmogfckmmaaRf10
namespace Go.Proofs.Ytmjocmogfckmmaa
open Go.RowKit
set_option linter.unusedVariables false

/-- What Give answers: the error, the code, the pairs. -/
def giveTE (t : Tr) : Int := if mayA t = true then (if 260944 < t.ns.length then 9 else 0) else 8
def giveTC (t : Tr) (x : Dp) : Int := if giveTE t = 0 then giveC (allT t) x.t x.a else 0
def giveTL (t : Tr) (x : Dp) : List Pr := if giveTE t = 0 then giveL (allT t) x.t x.a else []
theorem mayA_St {t : Tr} (h : mayA t = true) : mayT t = true ∧ St (allT t) := by
 unfold mayA at h
 rw [Bool.and_eq_true] at h
 exact ⟨h.1, (all_spec h.1).1, h.2⟩
/-- What Pay answers: the error, the code, the pairs. -/
def payTE (t : Tr) (x : Tx) : Int := if mayA t = true then (if decide (x.s = signD x) = true then (if nextB (allT t) x = true then (if decide (260944 < t.ns.length) = true then 9 else 0) else 2) else 110) else 8
def payTC (t : Tr) (x : Tx) (box : Dg) : Int := if payTE t x = 0 then paidC (allT t) x box else 0
/-- A state behind a deposit. -/
def GiveOk (t : Tr) (x : Dp) (o : Tr) : Prop := if giveTE t = 0 then (mayA o = true ∧ allT o = giveL (allT t) x.t x.a ∧ o.ns.length ≤ t.ns.length + 1200 ∧ ∃ r, o.ns = t.ns ++ r) else o = ⟨[], 0⟩
theorem mayA_both {t : Tr} (h : mayA t = true) : mayT t = true ∧ heldP (allT t) = true := by
 unfold mayA at h
 simpa using h
theorem getA_in {t : Tr} (h : mayA t = true) (k : Dg) : getA t k = inA (allT t) k := by unfold getA; rw [if_pos h]
section
variable {t o : Tr} {x : Tx} {box : Dg} {d : Dp}
theorem give_yes (h : giveTE t = 0) (ho : GiveOk t d o) : mayA o = true ∧ allT o = giveL (allT t) d.t d.a ∧ o.ns.length ≤ t.ns.length + 1200 ∧ ∃ r, o.ns = t.ns ++ r := by unfold GiveOk at ho; rwa [if_pos h] at ho
theorem give_no (h : ¬ giveTE t = 0) (ho : GiveOk t d o) : o = ⟨[], 0⟩ := by unfold GiveOk at ho; rwa [if_neg h] at ho
theorem giveTE_small (h : t.ns.length ≤ 100000) : giveTE t = if mayA t = true then 0 else 8 := by
 unfold giveTE
 split
 ·rw [if_neg (by omega)]
 ·rfl
end
end Go.Proofs.Ytmjocmogfckmmaa
