/-
 The chapter's examples of layer 15, plain. No program is named here.
-/
import Derived.Test.YtmjocmogfckmmaaDoorPuQ
import Derived.Test.YtmjocmogfckmmaaDoorBits
namespace Go.Proofs.YtmjocmogfckmmaaDoor
open Go.RowKit
set_option linter.unusedVariables false
set_option maxRecDepth 100000

def kMe : Dg := ⟨sha256 (tagB 3 [z0.1]), S8.bytes_len _⟩
def payU (n a f : Nat) : Tx := ⟨z0, dfst 1, n, a, f, z0⟩
def payX (n a f : Nat) : Tx := signX (payU n a f)
theorem kMe_far {c : UInt8} (h : kMe = dfst c) : (sha256 (tagB 3 [z0.1])).head? = some c := congrArg (fun d : Dg => d.1.head?) h
theorem kMe_1 : kMe ≠ dfst 1 := fun h => absurd (kMe_far h) (by decide +kernel)
theorem kMe_2 : kMe ≠ dfst 2 := fun h => absurd (kMe_far h) (by decide +kernel)
theorem d12 : dfst 1 ≠ dfst 2 := by decide +kernel
theorem payX_from (n a f : Nat) : fromX (payX n a f) = kMe := Subtype.ext (congrArg (fun l => sha256 (tagB 3 [l])) (show (payX n a f).p.1 = z0.1 from rfl))
theorem sign_s (x : Tx) : (signX x).s = signD (signX x) := rfl
theorem payX_sign (n a f : Nat) : (payX n a f).s = signD (payX n a f) := sign_s (payU n a f)
theorem unsigned0 : decide (zX.s = signD zX) = false := by
 refine decide_eq_false fun h => ?_
 have h2 : (sha256 (tagB 4 [bodyX zX])).head? = some 0 := (congrArg (fun d : Dg => d.1.head?) h).symm
 exact absurd h2 (by decide +kernel)
def a10 : Ac := ⟨0, 10⟩
theorem a10_ok : a10.ok := ⟨by decide, by decide⟩
/-- A state that stands for one account of ten. -/
structure Ten (t : Tr) : Prop where
 may : mayA t = true
 all : allT t = setP [] kMe a10
 len : t.ns.length ≤ 257
section
variable {t o : Tr} (h : Ten t)
include h
theorem Ten.st : St (allT t) := (mayA_St h.may).2
theorem Ten.me : inA (allT t) kMe = a10 := by rw [h.all]; exact in_set_self (ps := []) (by decide +kernel) kMe a10_ok
theorem Ten.other {k : Dg} (hk : kMe ≠ k) : inA (allT t) k = ac0 := by
 rw [h.all, in_set_other (ps := []) (by decide +kernel) _ hk]
 exact inA_none rfl
theorem Ten.next (a f : Nat) : nextB (allT t) (payX 0 a f) = true := by
 unfold nextB
 rw [payX_from, h.me]
 rfl
theorem Ten.pays (a f : Nat) : payTE t (payX 0 a f) = 0 := by
 unfold payTE
 rw [if_pos h.may, if_pos (decide_eq_true (payX_sign 0 a f)), if_pos (h.next a f), if_neg (by rw [decide_eq_true_eq]; have := h.len; omega)]
theorem Ten.late (a f : Nat) : payTE t (payX 1 a f) = 2 := by
 have hn : nextB (allT t) (payX 1 a f) = false := by
  unfold nextB
  rw [payX_from, h.me]
  rfl
 unfold payTE
 rw [if_pos h.may, if_pos (decide_eq_true (payX_sign 1 a f)), hn, if_neg (by decide)]
theorem Ten.poor {a f : Nat} (haf : 10 < a + f) (box : Dg) : payTC t (payX 0 a f) box = 150 := by
 unfold payTC
 rw [if_pos (h.pays a f)]
 unfold paidC
 have hp : poorB (allT t) (payX 0 a f) = true := by
  unfold poorB
  rw [payX_from, h.me]
  exact decide_eq_true haf
 rw [if_pos hp]
theorem Ten.bare {a f : Nat} (haf : 10 < a + f) {box : Dg} (ho : PayOk t (payX 0 a f) box o) : mayA o = true ∧ o.ns.length ≤ 1800 ∧ getA o kMe = ⟨1, 10⟩ ∧ getA o (dfst 1) = ac0 := by
 obtain ⟨o1, o2, o3, -⟩ := pay_yes (h.pays a f) ho
 have hc := h.poor haf box
 unfold payTC at hc
 rw [if_pos (h.pays a f)] at hc
 have hl : paidL (allT t) (payX 0 a f) box = bareL (allT t) (payX 0 a f) := by unfold paidL; rw [if_neg (by rw [hc]; decide)]
 refine ⟨o1, by have := h.len; omega, ?_, ?_⟩
 ·rw [getA_in o1, o2, hl, ← payX_from 0 a f, bare_self h.st (h.next a f), payX_from, h.me]
  rfl
 ·rw [getA_in o1, o2, hl]
  unfold bareL
  rw [payX_from, in_set_other h.st.1 _ kMe_1]
  exact h.other kMe_1
theorem Ten.less : inA (lessL (allT t) (payX 0 7 2)) kMe = ⟨1, 1⟩ ∧ (∀ k, kMe ≠ k → inA (lessL (allT t) (payX 0 7 2)) k = ac0) := by
 have hb := bare_st h.st (h.next 7 2)
 refine ⟨?_, fun k hk => ?_⟩
 ·have e := in_set_self hb.1 kMe (less_ok (ps := allT t) (h.next 7 2))
  rw [payX_from, h.me] at e
  unfold lessL
  rw [payX_from, h.me]
  exact e
 ·unfold lessL bareL
  rw [payX_from, in_set_other (set_srt h.st.1 _ _) _ hk, in_set_other h.st.1 _ hk]
  exact h.other hk
theorem Ten.more1 : moreB (lessL (allT t) (payX 0 7 2)) (dfst 1) 7 = true := by
 unfold moreB
 rw [h.less.2 _ kMe_1]
 rfl
theorem Ten.more2 : moreB (moreL (lessL (allT t) (payX 0 7 2)) (dfst 1) 7) (dfst 2) 2 = true := by
 unfold moreB
 rw [more_other (less_st h.st (h.next 7 2)) 7 d12, h.less.2 _ kMe_2]
 rfl
theorem Ten.code : payTC t (payX 0 7 2) (dfst 2) = 0 := by
 unfold payTC
 rw [if_pos (h.pays 7 2)]
 unfold paidC
 have hp : poorB (allT t) (payX 0 7 2) = false := by
  unfold poorB
  rw [payX_from, h.me]
  rfl
 have hv : overB (allT t) (payX 0 7 2) (dfst 2) = false := by
  unfold overB
  have e1 : moreB (lessL (allT t) (payX 0 7 2)) (payX 0 7 2).t (payX 0 7 2).a = true := h.more1
  have e2 : moreB (moreL (lessL (allT t) (payX 0 7 2)) (payX 0 7 2).t (payX 0 7 2).a) (dfst 2) (payX 0 7 2).f = true := h.more2
  rw [e1, e2]
  rfl
 rw [hp, hv, if_neg (by decide), if_neg (by decide)]
theorem Ten.paid (ho : PayOk t (payX 0 7 2) (dfst 2) o) : mayA o = true ∧ o.ns.length ≤ 1800 ∧ getA o kMe = ⟨1, 1⟩ ∧ getA o (dfst 1) = ⟨0, 7⟩ ∧ getA o (dfst 2) = ⟨0, 2⟩ := by
 obtain ⟨o1, o2, o3, -⟩ := pay_yes (h.pays 7 2) ho
 have hc := h.code
 unfold payTC at hc
 rw [if_pos (h.pays 7 2)] at hc
 have hl : paidL (allT t) (payX 0 7 2) (dfst 2) = moreL (moreL (lessL (allT t) (payX 0 7 2)) (dfst 1) 7) (dfst 2) 2 := by unfold paidL; rw [if_pos hc]; rfl
 have hs1 := less_st h.st (h.next 7 2)
 have hs2 := more_st hs1 h.more1
 refine ⟨o1, by have := h.len; omega, ?_, ?_, ?_⟩
 ·rw [getA_in o1, o2, hl, more_other hs2 2 kMe_2.symm, more_other hs1 7 kMe_1.symm]
  exact h.less.1
 ·rw [getA_in o1, o2, hl, more_other hs2 2 d12.symm, more_self hs1 h.more1, h.less.2 _ kMe_1]
  rfl
 ·rw [getA_in o1, o2, hl, more_self hs2 h.more2, more_other hs1 7 d12, h.less.2 _ kMe_2]
  rfl
theorem Ten.bareX (x : Tx) (hx : decide (x.s = signD x) = false) : payTE t x = 110 := by
 unfold payTE
 rw [if_pos h.may, hx, if_neg (by decide)]
theorem Ten.gives (d : Dp) : giveTE t = 0 := by
 unfold giveTE
 rw [if_pos h.may, if_neg (by have := h.len; omega)]
theorem Ten.over (d : Dp) (h1 : d.t = kMe) (h2 : d.a = 18446744073709551615) : giveTC t d = 151 := by
 unfold giveTC
 rw [if_pos (h.gives d)]
 unfold giveC moreB
 rw [h1, h.me, h2, if_neg (by decide)]
end
end Go.Proofs.YtmjocmogfckmmaaDoor
