/-
  Layers 12 and 14, plain: deposits, receipts, headers, their bytes. No program is named here.
-/
import Derived.Test.YtpfglincdlmfhaaDoorTxP
namespace Go.Proofs.YtpfglincdlmfhaaDoor
open Go.RowKit
set_option linter.unusedVariables false

/-! ### deposits and receipts -/
structure Dp where
  n : Nat
  t : Dg
  a : Nat
  deriving DecidableEq
def Dp.ok (x : Dp) : Prop := x.n < 18446744073709551616 ∧ x.a < 18446744073709551616
def bodyD (x : Dp) : List UInt8 := be 8 x.n ++ x.t.1 ++ be 8 x.a
def idD (x : Dp) : Dg := ⟨sha256 (tagB 9 [bodyD x]), S8.bytes_len _⟩
structure Rc where
  k : UInt8
  i : Dg
  c : Int
  deriving DecidableEq
def mayR (r : Rc) : Bool := if r.k = 1 then decide (r.c = 0 ∨ r.c = 151) else decide (r.k = 2) && decide (r.c = 0 ∨ r.c = 151 ∨ r.c = 150)
def rcB (r : Rc) : List UInt8 := r.k :: (r.i.1 ++ be 2 r.c.toNat)
def rcE (r : Rc) : Int := if mayR r = true then 0 else 8
def rcO (r : Rc) : List UInt8 := if mayR r = true then rcB r else []
def takenR (l : List UInt8) : Rc := ⟨l.headD 0, dgAt l 1, (num (l.drop 33) : Nat)⟩
def zR : Rc := ⟨0, ⟨List.replicate 32 0, rfl⟩, 0⟩
def readRE (l : List UInt8) : Int := if l.length < 35 then 10 else if 35 < l.length then 11 else rcE (takenR l)
def readR (l : List UInt8) : Rc := if readRE l = 0 then takenR l else zR
theorem rc_codes {r : Rc} (h : mayR r = true) : r.c = 0 ∨ r.c = 151 ∨ r.c = 150 := by
  unfold mayR at h
  split at h
  · rcases of_decide_eq_true h with h | h
    · exact .inl h
    · exact .inr (.inl h)
  · exact of_decide_eq_true (Bool.and_eq_true_iff.1 h).2
theorem rcB_len (r : Rc) : (rcB r).length = 35 := by unfold rcB; rw [List.length_cons, List.length_append, r.i.2, be_length]
theorem taken_rc {r : Rc} (h : mayR r = true) : takenR (rcB r) = r := by
  have hc := rc_codes h
  have e1 : dgAt (rcB r) 1 = r.i := by
    have := dgAt_app (a := [r.k]) (c := be 2 r.c.toNat) (i := 1) r.i rfl
    exact this
  have e2 : num ((rcB r).drop 33) = r.c.toNat := by
    have e : (rcB r).drop 33 = be 2 r.c.toNat := by
      show (r.i.1 ++ be 2 r.c.toNat).drop 32 = _
      rw [List.drop_left' r.i.2]
    rw [e, num_be]
    rcases hc with h | h | h <;> rw [h] <;> rfl
  unfold takenR
  rw [e1, e2]
  cases r with
  | mk k i c =>
    have hc : c = 0 ∨ c = 151 ∨ c = 150 := hc
    show Rc.mk k i ((c.toNat : Nat) : Int) = ⟨k, i, c⟩
    rw [Int.toNat_of_nonneg (by omega)]
theorem rc_taken {l : List UInt8} (h : l.length = 35) : rcB (takenR l) = l := by
  cases l with
  | nil => cases h
  | cons x m =>
    have hm : m.length = 34 := by simpa using h
    have d1 : (dgAt (x :: m) 1).1 = m.take 32 := by
      rw [dgAt_val (by simp; omega)]
      rfl
    have b2 : be 2 (num ((x :: m).drop 33)) = m.drop 32 := by
      have := be_num (m.drop 32)
      rw [show (m.drop 32).length = 2 by rw [List.length_drop, hm]] at this
      exact this
    show x :: ((dgAt (x :: m) 1).1 ++ be 2 (((num ((x :: m).drop 33) : Nat) : Int)).toNat) = x :: m
    rw [Int.toNat_natCast, d1, b2, List.take_append_drop]

/-! ### headers -/
structure Hd where
  h : Int
  p : Dg
  s : Dg
  r : Dg
  m : Int
  deriving DecidableEq
def mayH (x : Hd) : Bool := decide (0 ≤ x.h ∧ x.h ≤ 1073741824 ∧ 0 ≤ x.m ∧ x.m ≤ 256)
def hdB (x : Hd) : List UInt8 := be 8 x.h.toNat ++ x.p.1 ++ x.s.1 ++ x.r.1 ++ be 4 x.m.toNat
def hdE (x : Hd) : Int := if mayH x = true then 0 else 8
def hdO (x : Hd) : List UInt8 := if mayH x = true then hdB x else []
def zH : Hd := ⟨0, ⟨List.replicate 32 0, rfl⟩, ⟨List.replicate 32 0, rfl⟩, ⟨List.replicate 32 0, rfl⟩, 0⟩
def nameD (x : Hd) : Dg := ⟨sha256 (tagB 6 [hdB x]), S8.bytes_len _⟩
def hashH (x : Hd) : Dg := if mayH x = true then nameD x else ⟨List.replicate 32 0, rfl⟩
def follows (x y : Hd) : Bool := mayH x && (mayH y && (decide (x.h = y.h + 1) && decide (x.p = nameD y)))
def takenH (l : List UInt8) : Hd := ⟨(num (l.take 8) : Nat), dgAt l 8, dgAt l 40, dgAt l 72, (num (l.drop 104) : Nat)⟩
def readHE (l : List UInt8) : Int := if l.length < 108 then 10 else if 108 < l.length then 11 else hdE (takenH l)
def readH (l : List UInt8) : Hd := if readHE l = 0 then takenH l else zH
theorem hdB_len (x : Hd) : (hdB x).length = 108 := by
  unfold hdB
  simp only [List.length_append, be_length, x.p.2, x.s.2, x.r.2]
theorem mayH_iff {x : Hd} : mayH x = true ↔ 0 ≤ x.h ∧ x.h ≤ 1073741824 ∧ 0 ≤ x.m ∧ x.m ≤ 256 := by unfold mayH; rw [decide_eq_true_eq]
theorem taken_hd {x : Hd} (hx : mayH x = true) : takenH (hdB x) = x := by
  obtain ⟨h1, h2, h3, h4⟩ := mayH_iff.1 hx
  have e0 : num ((hdB x).take 8) = x.h.toNat := by
    have : (hdB x).take 8 = be 8 x.h.toNat := by
      unfold hdB
      rw [List.append_assoc, List.append_assoc, List.append_assoc, List.take_left' (be_length _ _)]
    rw [this, num_be, Nat.mod_eq_of_lt (by omega)]
  have e1 : dgAt (hdB x) 8 = x.p := by
    have := dgAt_app (a := be 8 x.h.toNat) (c := x.s.1 ++ x.r.1 ++ be 4 x.m.toNat) (i := 8) x.p (be_length _ _)
    refine (congrArg (fun l => dgAt l 8) (show hdB x = _ from ?_)).trans this
    simp only [hdB, List.append_assoc]
  have e2 : dgAt (hdB x) 40 = x.s := by
    have := dgAt_app (a := be 8 x.h.toNat ++ x.p.1) (c := x.r.1 ++ be 4 x.m.toNat) (i := 40) x.s (by simp [be_length, x.p.2])
    refine (congrArg (fun l => dgAt l 40) (show hdB x = _ from ?_)).trans this
    simp only [hdB, List.append_assoc]
  have e3 : dgAt (hdB x) 72 = x.r := by
    have := dgAt_app (a := be 8 x.h.toNat ++ x.p.1 ++ x.s.1) (c := be 4 x.m.toNat) (i := 72) x.r (by simp [be_length, x.p.2, x.s.2])
    exact this
  have e4 : num ((hdB x).drop 104) = x.m.toNat := by
    have : (hdB x).drop 104 = be 4 x.m.toNat := by
      unfold hdB
      rw [List.drop_left' (by simp [be_length, x.p.2, x.s.2, x.r.2])]
    rw [this, num_be, Nat.mod_eq_of_lt (by omega)]
  unfold takenH
  rw [e0, e1, e2, e3, e4]
  cases x with
  | mk h p s r m =>
    have h1 : 0 ≤ h := h1
    have h3 : 0 ≤ m := h3
    show Hd.mk ((h.toNat : Nat) : Int) p s r ((m.toNat : Nat) : Int) = ⟨h, p, s, r, m⟩
    rw [Int.toNat_of_nonneg h1, Int.toNat_of_nonneg h3]
theorem hd_taken {l : List UInt8} (h : l.length = 108) : hdB (takenH l) = l := by
  have b8 : be 8 (num (l.take 8)) = l.take 8 := by
    have := be_num (l.take 8)
    rw [show (l.take 8).length = 8 by rw [List.length_take]; omega] at this
    exact this
  have b4 : be 4 (num (l.drop 104)) = l.drop 104 := by
    have := be_num (l.drop 104)
    rw [show (l.drop 104).length = 4 by rw [List.length_drop]; omega] at this
    exact this
  have d1 : (dgAt l 8).1 = (l.drop 8).take 32 := dgAt_val (by omega)
  have d2 : (dgAt l 40).1 = (l.drop 40).take 32 := dgAt_val (by omega)
  have d3 : (dgAt l 72).1 = (l.drop 72).take 32 := dgAt_val (by omega)
  unfold hdB takenH
  dsimp only
  rw [Int.toNat_natCast, Int.toNat_natCast, d1, d2, d3, b8, b4]
  have s1 : l = l.take 8 ++ l.drop 8 := (List.take_append_drop 8 l).symm
  have s2 : l.drop 8 = (l.drop 8).take 32 ++ l.drop 40 := by rw [show l.drop 40 = (l.drop 8).drop 32 by rw [List.drop_drop], List.take_append_drop]
  have s3 : l.drop 40 = (l.drop 40).take 32 ++ l.drop 72 := by rw [show l.drop 72 = (l.drop 40).drop 32 by rw [List.drop_drop], List.take_append_drop]
  have s4 : l.drop 72 = (l.drop 72).take 32 ++ l.drop 104 := by rw [show l.drop 104 = (l.drop 72).drop 32 by rw [List.drop_drop], List.take_append_drop]
  conv => rhs; rw [s1, s2, s3, s4]
  simp only [List.append_assoc]
theorem hdB_inj {x y : Hd} (hx : mayH x = true) (hy : mayH y = true) (h : hdB x = hdB y) : x = y := by rw [← taken_hd hx, ← taken_hd hy, h]
end Go.Proofs.YtpfglincdlmfhaaDoor
