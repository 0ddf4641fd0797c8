/-
 Texts laid together: AcP, TxP, HdP, PuP.
-/
import Derived.Test.YtmjocmogfckmmaaDoorPlain
import Derived.Test.YtmjocmogfckmmaaDoorMem
set_option maxRecDepth 100000
set_option linter.unusedVariables false
set_option linter.unusedSimpArgs false
namespace Go.Proofs.YtmjocmogfckmmaaDoor
/- (AcP)
 Layer 10, plain: accounts, their bytes, states, totals. No program is named here.
-/
section
open Go.RowKit

structure Ac where
 n : Nat
 b : Nat
 deriving DecidableEq
def ac0 : Ac := ⟨0, 0⟩
def Ac.ok (a : Ac) : Prop := a.n < 18446744073709551616 ∧ a.b < 18446744073709551616
theorem ac_ext {a c : Ac} (h1 : a.n = c.n) (h2 : a.b = c.b) : a = c := by cases a; cases c; simp_all
def acB (a : Ac) : List UInt8 := be 8 a.n ++ be 8 a.b
def acE (l : List UInt8) : Int := if l.length < 16 then 10 else if 16 < l.length then 11 else if num (l.take 8) = 0 ∧ num (l.drop 8) = 0 then 8 else 0
def acOf (l : List UInt8) : Ac := if acE l = 0 then ⟨num (l.take 8), num (l.drop 8)⟩ else ac0
theorem ac0_ok : ac0.ok := ⟨by decide, by decide⟩
theorem acE_len {l : List UInt8} (h : acE l = 0) : l.length = 16 := by
 unfold acE at h
 split at h
 ·cases h
 ·split at h
  ·cases h
  ·omega
theorem num_lt8 {l : List UInt8} (h : l.length = 8) : num l < 18446744073709551616 := by
 have := num_lt l
 rw [h] at this
 exact this
theorem acOf_ok (l : List UInt8) : (acOf l).ok := by
 unfold acOf
 split
 ·rename_i h
  have hl := acE_len h
  exact ⟨num_lt8 (by rw [List.length_take, hl]; rfl), num_lt8 (by rw [List.length_drop, hl])⟩
 ·exact ac0_ok
theorem acB_len (a : Ac) : (acB a).length = 16 := by unfold acB; rw [List.length_append, be_length, be_length]
theorem acB_parts {a : Ac} (h : a.ok) : num ((acB a).take 8) = a.n ∧ num ((acB a).drop 8) = a.b := by
 unfold acB
 rw [List.take_left' (be_length 8 a.n), List.drop_left' (be_length 8 a.n), num_be, num_be]
 exact ⟨Nat.mod_eq_of_lt h.1, Nat.mod_eq_of_lt h.2⟩
theorem acE_B {a : Ac} (h : a.ok) : acE (acB a) = if a = ac0 then 8 else 0 := by
 obtain ⟨h1, h2⟩ := acB_parts h
 unfold acE
 rw [acB_len, if_neg (by decide), if_neg (by decide), h1, h2]
 by_cases hz : a = ac0
 ·rw [if_pos hz, if_pos ⟨congrArg (·.n) hz, congrArg (·.b) hz⟩]
 ·rw [if_neg hz, if_neg fun q => hz (ac_ext q.1 q.2)]
theorem acOf_B {a : Ac} (h : a.ok) : acOf (acB a) = a := by
 obtain ⟨h1, h2⟩ := acB_parts h
 unfold acOf
 rw [acE_B h, h1, h2]
 by_cases hz : a = ac0
 ·rw [if_pos hz, hz]; rfl
 ·rw [if_neg hz]; rfl
theorem acOf_no {l : List UInt8} (h : acE l ≠ 0) : acOf l = ac0 := by unfold acOf; rw [if_neg h]

/-! ### states -/
def heldP (ps : List Pr) : Bool := ps.all fun p => decide (acE p.v = 0)
theorem held_iff {ps : List Pr} : heldP ps = true ↔ ∀ p ∈ ps, acE p.v = 0 := by simp [heldP]
def inA (ps : List Pr) (k : Dg) : Ac := acOf (getV ps k)
def setP (ps : List Pr) (k : Dg) (a : Ac) : List Pr := if a = ac0 then withoutP ps k else withP ps k (acB a)
def totP (ps : List Pr) : Nat := (ps.map fun p => (acOf p.v).b).sum
theorem inA_ok (ps : List Pr) (k : Dg) : (inA ps k).ok := acOf_ok _
theorem acB_val (a : Ac) : valB (acB a) = true := by unfold valB; rw [acB_len]; rfl
theorem held_set {ps : List Pr} {k : Dg} {a : Ac} (h : heldP ps = true) (ha : a.ok) : heldP (setP ps k a) = true := by
 rw [held_iff] at h ⊢
 intro p hp
 unfold setP at hp
 split at hp
 ·exact h p (List.filter_sublist.subset hp)
 ·rename_i hz
  rcases with_mem.1 hp with rfl | ⟨hp, _⟩
  ·show acE (acB a) = 0
   rw [acE_B ha, if_neg hz]
  ·exact h p hp
theorem inA_none {ps : List Pr} {k : Dg} (h : hasP ps k = false) : inA ps k = ac0 := by
 unfold inA
 rw [getV_no h]
 exact acOf_no (by decide)
theorem hasP_without_self (ps : List Pr) (k : Dg) : hasP (withoutP ps k) k = false := by
 rw [hasP_none]
 intro p hp
 have := (List.mem_filter.1 hp).2
 simpa using this
theorem hasP_without_other {ps : List Pr} {k o : Dg} (hne : k ≠ o) : hasP (withoutP ps k) o = hasP ps o := by
 rw [Bool.eq_iff_iff, hasP_mem, hasP_mem]
 constructor
 ·rintro ⟨p, hp, rfl⟩
  exact ⟨p, List.filter_sublist.subset hp, rfl⟩
 ·rintro ⟨p, hp, rfl⟩
  exact ⟨p, List.mem_filter.2 ⟨hp, by simpa using fun q => hne q.symm⟩, rfl⟩
theorem getV_without_other {ps : List Pr} (hs : Srt ps) {k o : Dg} (hne : k ≠ o) : getV (withoutP ps k) o = getV ps o := by
 by_cases hh : hasP ps o = true
 ·obtain ⟨p, hp, rfl⟩ := hasP_mem.1 hh
  rw [getV_mem hs hp]
  exact getV_mem (without_srt hs k) (List.mem_filter.2 ⟨hp, by simpa using fun q => hne q.symm⟩)
 ·have hh := Bool.eq_false_iff.2 hh
  rw [getV_no hh, getV_no (by rw [hasP_without_other hne]; exact hh)]
theorem in_set_self {ps : List Pr} (hs : Srt ps) (k : Dg) {a : Ac} (ha : a.ok) : inA (setP ps k a) k = a := by
 unfold setP
 split
 ·rename_i hz
  rw [hz]
  exact inA_none (hasP_without_self ps k)
 ·unfold inA
  rw [getV_with_self hs]
  exact acOf_B ha
theorem in_set_other {ps : List Pr} (hs : Srt ps) {k o : Dg} (a : Ac) (hne : k ≠ o) : inA (setP ps k a) o = inA ps o := by
 unfold setP inA
 split
 ·rw [getV_without_other hs hne]
 ·rw [getV_with_other hs _ hne]

/-! ### totals -/
theorem tot_cons (p : Pr) (ps : List Pr) : totP (p :: ps) = (acOf p.v).b + totP ps := by simp [totP]
theorem tot_app (ps qs : List Pr) : totP (ps ++ qs) = totP ps + totP qs := by simp [totP]
theorem tot_without {ps : List Pr} (hs : Srt ps) (k : Dg) : totP (withoutP ps k) + (inA ps k).b = totP ps := by
 by_cases hh : hasP ps k = true
 ·obtain ⟨hl, hk⟩ := (has_at hs k).1 hh
  rw [without_at hs hl hk]
  unfold inA
  rw [getV_at hs hl hk]
  have e : ps = ps.take (cnt ps k) ++ ps[cnt ps k] :: ps.drop (cnt ps k + 1) := by rw [List.getElem_cons_drop, List.take_append_drop]
  have e2 : totP ps = totP (ps.take (cnt ps k)) + ((acOf ps[cnt ps k].v).b + totP (ps.drop (cnt ps k + 1))) := by
   rw [← tot_cons, ← tot_app, ← e]
  rw [tot_app, e2]
  omega
 ·have hh := Bool.eq_false_iff.2 hh
  rw [without_no hh, inA_none hh]
  rfl
theorem tot_with {ps : List Pr} (hs : Srt ps) (k : Dg) (v : List UInt8) : totP (withP ps k v) + (inA ps k).b = totP ps + (acOf v).b := by
 have e1 : totP (withP ps k v) = totP (withoutP ps k) + (acOf v).b := by
  unfold withP
  rw [tot_app, tot_cons]
  have e : totP (withoutP ps k) = totP ((withoutP ps k).take (cnt (withoutP ps k) k)) + totP ((withoutP ps k).drop (cnt (withoutP ps k) k)) := by rw [← tot_app, List.take_append_drop]
  rw [e]
  dsimp only
  omega
 have := tot_without hs k
 omega
/-- The total turns by what the account's balance does. -/
theorem tot_set {ps : List Pr} (hs : Srt ps) (k : Dg) {a : Ac} (ha : a.ok) : totP (setP ps k a) + (inA ps k).b = totP ps + a.b := by
 unfold setP
 split
 ·rename_i hz
  rw [hz]
  exact tot_without hs k
 ·rw [tot_with hs, acOf_B ha]
end

/- (TxP)
 Layer 11, plain: transactions, their bodies, signs and bytes. No program is named here.
-/
section
open Go.RowKit


structure Tx where
 p : Dg
 t : Dg
 n : Nat
 a : Nat
 f : Nat
 s : Dg
 deriving DecidableEq
def Tx.ok (x : Tx) : Prop := x.n < 18446744073709551616 ∧ x.a < 18446744073709551616 ∧ x.f < 18446744073709551616
def bodyX (x : Tx) : List UInt8 := x.p.1 ++ x.t.1 ++ be 8 x.n ++ be 8 x.a ++ be 8 x.f
def signD (x : Tx) : Dg := ⟨sha256 (tagB 4 [bodyX x]), S8.bytes_len _⟩
def signX (x : Tx) : Tx := { x with s := signD x }
def fromX (x : Tx) : Dg := ⟨sha256 (tagB 3 [x.p.1]), S8.bytes_len _⟩
def zX : Tx := ⟨⟨List.replicate 32 0, rfl⟩, ⟨List.replicate 32 0, rfl⟩, 0, 0, 0, ⟨List.replicate 32 0, rfl⟩⟩
theorem body_len (x : Tx) : (bodyX x).length = 88 := by
 unfold bodyX
 simp only [List.length_append, be_length, x.p.2, x.t.2]
end

/- (HdP)
 Layers 12 and 14, plain: deposits, receipts, headers, their bytes. No program is named here.
-/
section
open Go.RowKit

/-! ### deposits and receipts -/
structure Dp where
 n : Nat
 t : Dg
 a : Nat
 deriving DecidableEq
def Dp.ok (x : Dp) : Prop := x.n < 18446744073709551616 ∧ x.a < 18446744073709551616
structure Rc where
 k : UInt8
 i : Dg
 c : Int
 deriving DecidableEq

/-! ### headers -/
structure Hd where
 h : Int
 p : Dg
 s : Dg
 r : Dg
 m : Int
 deriving DecidableEq
end

/- (PuP)
 Layer 15, plain: what is paid and given, by the pairs for which states stand. No program is named here.
-/
section
open Go.RowKit

/-- Sorted pairs that are all accounts. -/
def St (ps : List Pr) : Prop := Srt ps ∧ heldP ps = true
theorem set_srt {ps : List Pr} (h : Srt ps) (k : Dg) (a : Ac) : Srt (setP ps k a) := by
 unfold setP
 split
 ·exact without_srt h k
 ·exact with_srt h k _
theorem St.set {ps : List Pr} (h : St ps) (k : Dg) {a : Ac} (ha : a.ok) : St (setP ps k a) := ⟨set_srt h.1 k a, held_set h.2 ha⟩

def moreB (ps : List Pr) (k : Dg) (n : Nat) : Bool := decide ((inA ps k).b + n < 18446744073709551616)
def moreL (ps : List Pr) (k : Dg) (n : Nat) : List Pr := setP ps k ⟨(inA ps k).n, (inA ps k).b + n⟩
theorem more_ok {ps : List Pr} {k : Dg} {n : Nat} (h : moreB ps k n = true) : (⟨(inA ps k).n, (inA ps k).b + n⟩ : Ac).ok := ⟨(inA_ok ps k).1, of_decide_eq_true h⟩
theorem more_tot {ps : List Pr} (hs : St ps) {k : Dg} {n : Nat} (h : moreB ps k n = true) : totP (moreL ps k n) = totP ps + n := by
 have := tot_set hs.1 k (more_ok h)
 unfold moreL
 dsimp only at this
 omega
theorem more_st {ps : List Pr} (hs : St ps) {k : Dg} {n : Nat} (h : moreB ps k n = true) : St (moreL ps k n) := hs.set k (more_ok h)
theorem more_other {ps : List Pr} (hs : St ps) {k o : Dg} (n : Nat) (hne : k ≠ o) : inA (moreL ps k n) o = inA ps o := in_set_other hs.1 _ hne
theorem more_self {ps : List Pr} (hs : St ps) {k : Dg} {n : Nat} (h : moreB ps k n = true) : inA (moreL ps k n) k = ⟨(inA ps k).n, (inA ps k).b + n⟩ := in_set_self hs.1 k (more_ok h)
theorem more_nonce {ps : List Pr} (hs : St ps) {k : Dg} {n : Nat} (h : moreB ps k n = true) (o : Dg) : (inA (moreL ps k n) o).n = (inA ps o).n := by
 by_cases hk : k = o
 ·subst hk; rw [more_self hs h]
 ·rw [more_other hs n hk]

def bareL (ps : List Pr) (x : Tx) : List Pr := setP ps (fromX x) ⟨(inA ps (fromX x)).n + 1, (inA ps (fromX x)).b⟩
def lessL (ps : List Pr) (x : Tx) : List Pr := setP (bareL ps x) (fromX x) ⟨(inA ps (fromX x)).n + 1, (inA ps (fromX x)).b - (x.a + x.f)⟩
def poorB (ps : List Pr) (x : Tx) : Bool := decide ((inA ps (fromX x)).b < x.a + x.f)
def overB (ps : List Pr) (x : Tx) (box : Dg) : Bool := !(moreB (lessL ps x) x.t x.a && moreB (moreL (lessL ps x) x.t x.a) box x.f)
def paidC (ps : List Pr) (x : Tx) (box : Dg) : Int := if poorB ps x = true then 150 else if overB ps x box = true then 151 else 0
def paidL (ps : List Pr) (x : Tx) (box : Dg) : List Pr := if paidC ps x box = 0 then moreL (moreL (lessL ps x) x.t x.a) box x.f else bareL ps x
def nextB (ps : List Pr) (x : Tx) : Bool := decide (x.n = (inA ps (fromX x)).n) && decide (x.n < 18446744073709551615)
section
variable {ps : List Pr} {x : Tx} {box : Dg}
theorem next_ok (hn : nextB ps x = true) : (inA ps (fromX x)).n + 1 < 18446744073709551616 := by
 unfold nextB at hn
 simp only [Bool.and_eq_true, decide_eq_true_eq] at hn
 omega
theorem bare_ok (hn : nextB ps x = true) : (⟨(inA ps (fromX x)).n + 1, (inA ps (fromX x)).b⟩ : Ac).ok := ⟨next_ok hn, (inA_ok _ _).2⟩
theorem less_ok (hn : nextB ps x = true) : (⟨(inA ps (fromX x)).n + 1, (inA ps (fromX x)).b - (x.a + x.f)⟩ : Ac).ok := ⟨next_ok hn, Nat.lt_of_le_of_lt (Nat.sub_le _ _) (inA_ok _ _).2⟩
theorem bare_st (hs : St ps) (hn : nextB ps x = true) : St (bareL ps x) := hs.set _ (bare_ok hn)
theorem less_st (hs : St ps) (hn : nextB ps x = true) : St (lessL ps x) := (bare_st hs hn).set _ (less_ok hn)
theorem bare_self (hs : St ps) (hn : nextB ps x = true) : inA (bareL ps x) (fromX x) = ⟨(inA ps (fromX x)).n + 1, (inA ps (fromX x)).b⟩ := in_set_self hs.1 _ (bare_ok hn)
theorem bare_tot (hs : St ps) (hn : nextB ps x = true) : totP (bareL ps x) = totP ps := by
 have := tot_set hs.1 (fromX x) (bare_ok hn)
 unfold bareL
 dsimp only at this
 omega
theorem less_tot (hs : St ps) (hn : nextB ps x = true) (hp : poorB ps x = false) : totP (lessL ps x) + (x.a + x.f) = totP ps := by
 have h1 := tot_set (bare_st hs hn).1 (fromX x) (less_ok hn)
 rw [bare_self hs hn] at h1
 have h2 := bare_tot hs hn
 have h3 : ¬ (inA ps (fromX x)).b < x.a + x.f := of_decide_eq_false hp
 unfold lessL
 dsimp only at h1
 omega
theorem paid_ok (h : paidC ps x box = 0) : poorB ps x = false ∧ moreB (lessL ps x) x.t x.a = true ∧ moreB (moreL (lessL ps x) x.t x.a) box x.f = true := by
 unfold paidC at h
 split at h
 ·cases h
 ·rename_i hp
  split at h
  ·cases h
  ·rename_i ho
   have ho := Bool.eq_false_iff.2 ho
   unfold overB at ho
   rw [Bool.not_eq_false', Bool.and_eq_true] at ho
   exact ⟨Bool.eq_false_iff.2 hp, ho.1, ho.2⟩
/-- What is paid leaves the total. -/
theorem paid_tot (hs : St ps) (hn : nextB ps x = true) : totP (paidL ps x box) = totP ps := by
 unfold paidL
 split
 ·rename_i h
  obtain ⟨h1, h2, h3⟩ := paid_ok h
  rw [more_tot (more_st (less_st hs hn) h2) h3, more_tot (less_st hs hn) h2]
  have := less_tot hs hn h1
  omega
 ·exact bare_tot hs hn
theorem paid_nonce (hs : St ps) (hn : nextB ps x = true) : (inA (paidL ps x box) (fromX x)).n = (inA ps (fromX x)).n + 1 := by
 unfold paidL
 split
 ·rename_i h
  obtain ⟨h1, h2, h3⟩ := paid_ok h
  rw [more_nonce (more_st (less_st hs hn) h2) h3, more_nonce (less_st hs hn) h2]
  unfold lessL
  rw [in_set_self (bare_st hs hn).1 _ (less_ok hn)]
 ·rw [bare_self hs hn]
theorem paid_other (hs : St ps) (hn : nextB ps x = true) {o : Dg} (h1 : o ≠ fromX x) (h2 : o ≠ x.t) (h3 : o ≠ box) : inA (paidL ps x box) o = inA ps o := by
 have hb : inA (bareL ps x) o = inA ps o := in_set_other hs.1 _ h1.symm
 unfold paidL
 split
 ·rename_i h
  obtain ⟨_, m2, m3⟩ := paid_ok h
  rw [more_other (more_st (less_st hs hn) m2) _ h3.symm, more_other (less_st hs hn) _ h2.symm]
  unfold lessL
  rw [in_set_other (bare_st hs hn).1 _ h1.symm, hb]
 ·exact hb
/-- A transaction is paid once. -/
theorem paid_once (hs : St ps) (hn : nextB ps x = true) : nextB (paidL ps x box) x = false := by
 have h1 := paid_nonce (box := box) hs hn
 unfold nextB at hn ⊢
 simp only [Bool.and_eq_true, decide_eq_true_eq] at hn
 rw [Bool.and_eq_false_iff]
 left
 exact decide_eq_false (by omega)
end
def giveC (ps : List Pr) (d : Dg) (n : Nat) : Int := if moreB ps d n = true then 0 else 151
def giveL (ps : List Pr) (d : Dg) (n : Nat) : List Pr := if moreB ps d n = true then moreL ps d n else ps
end
end Go.Proofs.YtmjocmogfckmmaaDoor
