/-
 Texts laid together: AcP, TxP, HdP, PuP.
-/
import Derived.Test.YtmjocmogfckmmaaGreatDoorPlain
import Derived.Test.YtmjocmogfckmmaaGreatDoorMem
set_option maxRecDepth 100000
set_option linter.unusedVariables false
set_option linter.unusedSimpArgs false
namespace Go.Proofs.YtmjocmogfckmmaaGreatDoor
/- (AcP)
 Layer 10, plain: accounts, their bytes, states, totals. No program is named here.
-/
section
open Go.RowKit

structure Ac where
 n : Nat
 b : Nat
 deriving DecidableEq
def ac0 : Ac := ⟨0, 0⟩
def Ac.ok (a : Ac) : Prop := a.n < 18446744073709551616 ∧ a.b < 18446744073709551616
theorem ac_ext {a c : Ac} (h1 : a.n = c.n) (h2 : a.b = c.b) : a = c := by cases a; cases c; simp_all
def acB (a : Ac) : List UInt8 := be 8 a.n ++ be 8 a.b
def acE (l : List UInt8) : Int := if l.length < 16 then 10 else if 16 < l.length then 11 else if num (l.take 8) = 0 ∧ num (l.drop 8) = 0 then 8 else 0
def acOf (l : List UInt8) : Ac := if acE l = 0 then ⟨num (l.take 8), num (l.drop 8)⟩ else ac0
theorem ac0_ok : ac0.ok := ⟨by decide, by decide⟩
theorem acE_len {l : List UInt8} (h : acE l = 0) : l.length = 16 := by
 unfold acE at h
 split at h
 ·cases h
 ·split at h
  ·cases h
  ·omega
theorem num_lt8 {l : List UInt8} (h : l.length = 8) : num l < 18446744073709551616 := by
 have := num_lt l
 rw [h] at this
 exact this
theorem acOf_ok (l : List UInt8) : (acOf l).ok := by
 unfold acOf
 split
 ·rename_i h
  have hl := acE_len h
  exact ⟨num_lt8 (by rw [List.length_take, hl]; rfl), num_lt8 (by rw [List.length_drop, hl])⟩
 ·exact ac0_ok
theorem acB_len (a : Ac) : (acB a).length = 16 := by unfold acB; rw [List.length_append, be_length, be_length]
theorem acB_parts {a : Ac} (h : a.ok) : num ((acB a).take 8) = a.n ∧ num ((acB a).drop 8) = a.b := by
 unfold acB
 rw [List.take_left' (be_length 8 a.n), List.drop_left' (be_length 8 a.n), num_be, num_be]
 exact ⟨Nat.mod_eq_of_lt h.1, Nat.mod_eq_of_lt h.2⟩
theorem acE_B {a : Ac} (h : a.ok) : acE (acB a) = if a = ac0 then 8 else 0 := by
 obtain ⟨h1, h2⟩ := acB_parts h
 unfold acE
 rw [acB_len, if_neg (by decide), if_neg (by decide), h1, h2]
 by_cases hz : a = ac0
 ·rw [if_pos hz, if_pos ⟨congrArg (·.n) hz, congrArg (·.b) hz⟩]
 ·rw [if_neg hz, if_neg fun q => hz (ac_ext q.1 q.2)]
theorem acOf_B {a : Ac} (h : a.ok) : acOf (acB a) = a := by
 obtain ⟨h1, h2⟩ := acB_parts h
 unfold acOf
 rw [acE_B h, h1, h2]
 by_cases hz : a = ac0
 ·rw [if_pos hz, hz]; rfl
 ·rw [if_neg hz]; rfl
theorem acOf_no {l : List UInt8} (h : acE l ≠ 0) : acOf l = ac0 := by unfold acOf; rw [if_neg h]

/-! ### states -/
def heldP (ps : List Pr) : Bool := ps.all fun p => decide (acE p.v = 0)
theorem held_iff {ps : List Pr} : heldP ps = true ↔ ∀ p ∈ ps, acE p.v = 0 := by simp [heldP]
def inA (ps : List Pr) (k : Dg) : Ac := acOf (getV ps k)
def setP (ps : List Pr) (k : Dg) (a : Ac) : List Pr := if a = ac0 then withoutP ps k else withP ps k (acB a)
theorem inA_ok (ps : List Pr) (k : Dg) : (inA ps k).ok := acOf_ok _
theorem acB_val (a : Ac) : valB (acB a) = true := by unfold valB; rw [acB_len]; rfl
theorem held_set {ps : List Pr} {k : Dg} {a : Ac} (h : heldP ps = true) (ha : a.ok) : heldP (setP ps k a) = true := by
 rw [held_iff] at h ⊢
 intro p hp
 unfold setP at hp
 split at hp
 ·exact h p (List.filter_sublist.subset hp)
 ·rename_i hz
  rcases with_mem.1 hp with rfl | ⟨hp, _⟩
  ·show acE (acB a) = 0
   rw [acE_B ha, if_neg hz]
  ·exact h p hp
theorem inA_none {ps : List Pr} {k : Dg} (h : hasP ps k = false) : inA ps k = ac0 := by
 unfold inA
 rw [getV_no h]
 exact acOf_no (by decide)
theorem hasP_without_self (ps : List Pr) (k : Dg) : hasP (withoutP ps k) k = false := by
 rw [hasP_none]
 intro p hp
 have := (List.mem_filter.1 hp).2
 simpa using this
theorem hasP_without_other {ps : List Pr} {k o : Dg} (hne : k ≠ o) : hasP (withoutP ps k) o = hasP ps o := by
 rw [Bool.eq_iff_iff, hasP_mem, hasP_mem]
 constructor
 ·rintro ⟨p, hp, rfl⟩
  exact ⟨p, List.filter_sublist.subset hp, rfl⟩
 ·rintro ⟨p, hp, rfl⟩
  exact ⟨p, List.mem_filter.2 ⟨hp, by simpa using fun q => hne q.symm⟩, rfl⟩
theorem getV_without_other {ps : List Pr} (hs : Srt ps) {k o : Dg} (hne : k ≠ o) : getV (withoutP ps k) o = getV ps o := by
 by_cases hh : hasP ps o = true
 ·obtain ⟨p, hp, rfl⟩ := hasP_mem.1 hh
  rw [getV_mem hs hp]
  exact getV_mem (without_srt hs k) (List.mem_filter.2 ⟨hp, by simpa using fun q => hne q.symm⟩)
 ·have hh := Bool.eq_false_iff.2 hh
  rw [getV_no hh, getV_no (by rw [hasP_without_other hne]; exact hh)]
theorem in_set_self {ps : List Pr} (hs : Srt ps) (k : Dg) {a : Ac} (ha : a.ok) : inA (setP ps k a) k = a := by
 unfold setP
 split
 ·rename_i hz
  rw [hz]
  exact inA_none (hasP_without_self ps k)
 ·unfold inA
  rw [getV_with_self hs]
  exact acOf_B ha
theorem in_set_other {ps : List Pr} (hs : Srt ps) {k o : Dg} (a : Ac) (hne : k ≠ o) : inA (setP ps k a) o = inA ps o := by
 unfold setP inA
 split
 ·rw [getV_without_other hs hne]
 ·rw [getV_with_other hs _ hne]

/-! ### totals -/
end

/- (TxP)
 Layer 11, plain: transactions, their bodies, signs and bytes. No program is named here.
-/
section
open Go.RowKit


structure Tx where
 p : Dg
 t : Dg
 n : Nat
 a : Nat
 f : Nat
 s : Dg
 deriving DecidableEq
def Tx.ok (x : Tx) : Prop := x.n < 18446744073709551616 ∧ x.a < 18446744073709551616 ∧ x.f < 18446744073709551616
def bodyX (x : Tx) : List UInt8 := x.p.1 ++ x.t.1 ++ be 8 x.n ++ be 8 x.a ++ be 8 x.f
def signD (x : Tx) : Dg := ⟨sha256 (tagB 4 [bodyX x]), S8.bytes_len _⟩
def signX (x : Tx) : Tx := { x with s := signD x }
def fromX (x : Tx) : Dg := ⟨sha256 (tagB 3 [x.p.1]), S8.bytes_len _⟩
def zX : Tx := ⟨⟨List.replicate 32 0, rfl⟩, ⟨List.replicate 32 0, rfl⟩, 0, 0, 0, ⟨List.replicate 32 0, rfl⟩⟩
theorem body_len (x : Tx) : (bodyX x).length = 88 := by
 unfold bodyX
 simp only [List.length_append, be_length, x.p.2, x.t.2]
end

/- (HdP)
 Layers 12 and 14, plain: deposits, receipts, headers, their bytes. No program is named here.
-/
section
open Go.RowKit

/-! ### deposits and receipts -/
structure Dp where
 n : Nat
 t : Dg
 a : Nat
 deriving DecidableEq
def Dp.ok (x : Dp) : Prop := x.n < 18446744073709551616 ∧ x.a < 18446744073709551616
structure Rc where
 k : UInt8
 i : Dg
 c : Int
 deriving DecidableEq

/-! ### headers -/
structure Hd where
 h : Int
 p : Dg
 s : Dg
 r : Dg
 m : Int
 deriving DecidableEq
end

/- (PuP)
 Layer 15, plain: what is paid and given, by the pairs for which states stand. No program is named here.
-/
section
open Go.RowKit

/-- Sorted pairs that are all accounts. -/
def St (ps : List Pr) : Prop := Srt ps ∧ heldP ps = true
theorem set_srt {ps : List Pr} (h : Srt ps) (k : Dg) (a : Ac) : Srt (setP ps k a) := by
 unfold setP
 split
 ·exact without_srt h k
 ·exact with_srt h k _
theorem St.set {ps : List Pr} (h : St ps) (k : Dg) {a : Ac} (ha : a.ok) : St (setP ps k a) := ⟨set_srt h.1 k a, held_set h.2 ha⟩

def moreB (ps : List Pr) (k : Dg) (n : Nat) : Bool := decide ((inA ps k).b + n < 18446744073709551616)
def moreL (ps : List Pr) (k : Dg) (n : Nat) : List Pr := setP ps k ⟨(inA ps k).n, (inA ps k).b + n⟩
theorem more_ok {ps : List Pr} {k : Dg} {n : Nat} (h : moreB ps k n = true) : (⟨(inA ps k).n, (inA ps k).b + n⟩ : Ac).ok := ⟨(inA_ok ps k).1, of_decide_eq_true h⟩
theorem more_st {ps : List Pr} (hs : St ps) {k : Dg} {n : Nat} (h : moreB ps k n = true) : St (moreL ps k n) := hs.set k (more_ok h)
theorem more_other {ps : List Pr} (hs : St ps) {k o : Dg} (n : Nat) (hne : k ≠ o) : inA (moreL ps k n) o = inA ps o := in_set_other hs.1 _ hne
theorem more_self {ps : List Pr} (hs : St ps) {k : Dg} {n : Nat} (h : moreB ps k n = true) : inA (moreL ps k n) k = ⟨(inA ps k).n, (inA ps k).b + n⟩ := in_set_self hs.1 k (more_ok h)

def bareL (ps : List Pr) (x : Tx) : List Pr := setP ps (fromX x) ⟨(inA ps (fromX x)).n + 1, (inA ps (fromX x)).b⟩
def lessL (ps : List Pr) (x : Tx) : List Pr := setP (bareL ps x) (fromX x) ⟨(inA ps (fromX x)).n + 1, (inA ps (fromX x)).b - (x.a + x.f)⟩
def poorB (ps : List Pr) (x : Tx) : Bool := decide ((inA ps (fromX x)).b < x.a + x.f)
def overB (ps : List Pr) (x : Tx) (box : Dg) : Bool := !(moreB (lessL ps x) x.t x.a && moreB (moreL (lessL ps x) x.t x.a) box x.f)
def paidC (ps : List Pr) (x : Tx) (box : Dg) : Int := if poorB ps x = true then 150 else if overB ps x box = true then 151 else 0
def paidL (ps : List Pr) (x : Tx) (box : Dg) : List Pr := if paidC ps x box = 0 then moreL (moreL (lessL ps x) x.t x.a) box x.f else bareL ps x
def nextB (ps : List Pr) (x : Tx) : Bool := decide (x.n = (inA ps (fromX x)).n) && decide (x.n < 18446744073709551615)
section
variable {ps : List Pr} {x : Tx} {box : Dg}
theorem next_ok (hn : nextB ps x = true) : (inA ps (fromX x)).n + 1 < 18446744073709551616 := by
 unfold nextB at hn
 simp only [Bool.and_eq_true, decide_eq_true_eq] at hn
 omega
theorem bare_ok (hn : nextB ps x = true) : (⟨(inA ps (fromX x)).n + 1, (inA ps (fromX x)).b⟩ : Ac).ok := ⟨next_ok hn, (inA_ok _ _).2⟩
theorem less_ok (hn : nextB ps x = true) : (⟨(inA ps (fromX x)).n + 1, (inA ps (fromX x)).b - (x.a + x.f)⟩ : Ac).ok := ⟨next_ok hn, Nat.lt_of_le_of_lt (Nat.sub_le _ _) (inA_ok _ _).2⟩
theorem bare_st (hs : St ps) (hn : nextB ps x = true) : St (bareL ps x) := hs.set _ (bare_ok hn)
theorem less_st (hs : St ps) (hn : nextB ps x = true) : St (lessL ps x) := (bare_st hs hn).set _ (less_ok hn)
theorem bare_self (hs : St ps) (hn : nextB ps x = true) : inA (bareL ps x) (fromX x) = ⟨(inA ps (fromX x)).n + 1, (inA ps (fromX x)).b⟩ := in_set_self hs.1 _ (bare_ok hn)
end
def giveC (ps : List Pr) (d : Dg) (n : Nat) : Int := if moreB ps d n = true then 0 else 151
end
end Go.Proofs.YtmjocmogfckmmaaGreatDoor
