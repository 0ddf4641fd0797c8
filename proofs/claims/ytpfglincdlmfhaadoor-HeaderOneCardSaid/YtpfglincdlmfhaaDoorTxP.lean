/-
  Layer 11, plain: transactions, their bodies, signs and bytes. No program is named here.
-/
import Derived.Test.YtpfglincdlmfhaaDoorPlain
import Derived.Test.YtpfglincdlmfhaaDoorMem
namespace Go.Proofs.YtpfglincdlmfhaaDoor
open Go.RowKit
set_option linter.unusedVariables false

/-- The 32 bytes at a place. -/
def dgAt (l : List UInt8) (i : Nat) : Dg := if h : ((l.drop i).take 32).length = 32 then ⟨(l.drop i).take 32, h⟩ else ⟨List.replicate 32 0, rfl⟩
theorem dgAt_val {l : List UInt8} {i : Nat} (h : i + 32 ≤ l.length) : (dgAt l i).1 = (l.drop i).take 32 := by
  unfold dgAt
  rw [dif_pos (by rw [List.length_take, List.length_drop]; omega)]
/-- A digest that stands somewhere in bytes. -/
theorem dgAt_app {a c : List UInt8} {i : Nat} (d : Dg) (h : a.length = i) : dgAt (a ++ d.1 ++ c) i = d := by
  have e : ((a ++ d.1 ++ c).drop i).take 32 = d.1 := by
    rw [List.append_assoc, List.drop_left' h, List.take_left' d.2]
  have e2 : i + 32 ≤ (a ++ d.1 ++ c).length := by rw [List.length_append, List.length_append, h, d.2]; omega
  exact Subtype.ext ((dgAt_val e2).trans e)
theorem num_at {a c : List UInt8} {i k n : Nat} (h : a.length = i) (hn : n < 256 ^ k) : num (((a ++ be k n ++ c).drop i).take k) = n := by
  rw [List.append_assoc, List.drop_left' h, List.take_left' (be_length k n), num_be, Nat.mod_eq_of_lt hn]

structure Tx where
  p : Dg
  t : Dg
  n : Nat
  a : Nat
  f : Nat
  s : Dg
  deriving DecidableEq
def Tx.ok (x : Tx) : Prop := x.n < 18446744073709551616 ∧ x.a < 18446744073709551616 ∧ x.f < 18446744073709551616
def bodyX (x : Tx) : List UInt8 := x.p.1 ++ x.t.1 ++ be 8 x.n ++ be 8 x.a ++ be 8 x.f
def bytesX (x : Tx) : List UInt8 := bodyX x ++ x.s.1
def signD (x : Tx) : Dg := ⟨sha256 (tagB 4 [bodyX x]), S8.bytes_len _⟩
def signX (x : Tx) : Tx := { x with s := signD x }
def checkX (x : Tx) : Int := if x.s = signD x then 0 else 110
def fromX (x : Tx) : Dg := ⟨sha256 (tagB 3 [x.p.1]), S8.bytes_len _⟩
def idX (x : Tx) : Dg := ⟨sha256 (tagB 5 [bytesX x]), S8.bytes_len _⟩
def takenX (l : List UInt8) : Tx := ⟨dgAt l 0, dgAt l 32, num ((l.drop 64).take 8), num ((l.drop 72).take 8), num ((l.drop 80).take 8), dgAt l 88⟩
def zX : Tx := ⟨⟨List.replicate 32 0, rfl⟩, ⟨List.replicate 32 0, rfl⟩, 0, 0, 0, ⟨List.replicate 32 0, rfl⟩⟩
def readXE (l : List UInt8) : Int := if l.length < 120 then 10 else if 120 < l.length then 11 else checkX (takenX l)
def readX (l : List UInt8) : Tx := if readXE l = 0 then takenX l else zX
theorem body_len (x : Tx) : (bodyX x).length = 88 := by
  unfold bodyX
  simp only [List.length_append, be_length, x.p.2, x.t.2]
theorem bytesX_len (x : Tx) : (bytesX x).length = 120 := by unfold bytesX; rw [List.length_append, body_len, x.s.2]
theorem taken_bytes {x : Tx} (h : x.ok) : takenX (bytesX x) = x := by
  obtain ⟨h1, h2, h3⟩ := h
  have e1 : dgAt (bytesX x) 0 = x.p := by
    have := dgAt_app (a := []) (c := x.t.1 ++ be 8 x.n ++ be 8 x.a ++ be 8 x.f ++ x.s.1) (i := 0) x.p rfl
    rw [← this]; congr 1 <;> simp [bytesX, bodyX]
  have e2 : dgAt (bytesX x) 32 = x.t := by
    have := dgAt_app (a := x.p.1) (c := be 8 x.n ++ be 8 x.a ++ be 8 x.f ++ x.s.1) (i := 32) x.t x.p.2
    rw [← this]; congr 1 <;> simp [bytesX, bodyX]
  have e3 : num (((bytesX x).drop 64).take 8) = x.n := by
    have := num_at (a := x.p.1 ++ x.t.1) (c := be 8 x.a ++ be 8 x.f ++ x.s.1) (i := 64) (k := 8) (n := x.n) (by simp [x.p.2, x.t.2]) h1
    rw [← this]; congr 3 <;> simp [bytesX, bodyX]
  have e4 : num (((bytesX x).drop 72).take 8) = x.a := by
    have := num_at (a := x.p.1 ++ x.t.1 ++ be 8 x.n) (c := be 8 x.f ++ x.s.1) (i := 72) (k := 8) (n := x.a) (by simp [x.p.2, x.t.2, be_length]) h2
    rw [← this]; congr 3 <;> simp [bytesX, bodyX]
  have e5 : num (((bytesX x).drop 80).take 8) = x.f := by
    have := num_at (a := x.p.1 ++ x.t.1 ++ be 8 x.n ++ be 8 x.a) (c := x.s.1) (i := 80) (k := 8) (n := x.f) (by simp [x.p.2, x.t.2, be_length]) h3
    rw [← this]; congr 3 <;> simp [bytesX, bodyX]
  have e6 : dgAt (bytesX x) 88 = x.s := by
    have := dgAt_app (a := bodyX x) (c := []) (i := 88) x.s (body_len x)
    rw [show bytesX x = bodyX x ++ x.s.1 ++ [] by simp [bytesX]]; exact this
  unfold takenX
  rw [e1, e2, e3, e4, e5, e6]
/-- Bytes are put together again of what is taken of them. -/
theorem bytes_taken {l : List UInt8} (h : l.length = 120) : bytesX (takenX l) = l := by
  have b8 : ∀ i, i + 8 ≤ l.length → be 8 (num ((l.drop i).take 8)) = (l.drop i).take 8 := fun i hi => by
    have := be_num ((l.drop i).take 8)
    rw [show ((l.drop i).take 8).length = 8 by rw [List.length_take, List.length_drop]; omega] at this
    exact this
  have d1 : (dgAt l 0).1 = l.take 32 := by rw [dgAt_val (by omega), List.drop_zero]
  have d2 : (dgAt l 32).1 = (l.drop 32).take 32 := dgAt_val (by omega)
  have d3 : (dgAt l 88).1 = (l.drop 88).take 32 := dgAt_val (by omega)
  unfold bytesX bodyX takenX
  dsimp only
  rw [d1, d2, d3, b8 64 (by omega), b8 72 (by omega), b8 80 (by omega)]
  have s1 : l = l.take 32 ++ l.drop 32 := (List.take_append_drop 32 l).symm
  have s2 : l.drop 32 = (l.drop 32).take 32 ++ l.drop 64 := by rw [show l.drop 64 = (l.drop 32).drop 32 by rw [List.drop_drop], List.take_append_drop]
  have s3 : l.drop 64 = (l.drop 64).take 8 ++ l.drop 72 := by rw [show l.drop 72 = (l.drop 64).drop 8 by rw [List.drop_drop], List.take_append_drop]
  have s4 : l.drop 72 = (l.drop 72).take 8 ++ l.drop 80 := by rw [show l.drop 80 = (l.drop 72).drop 8 by rw [List.drop_drop], List.take_append_drop]
  have s5 : l.drop 80 = (l.drop 80).take 8 ++ l.drop 88 := by rw [show l.drop 88 = (l.drop 80).drop 8 by rw [List.drop_drop], List.take_append_drop]
  have s6 : l.drop 88 = (l.drop 88).take 32 := (List.take_of_length_le (by rw [List.length_drop, h]; omega)).symm
  conv => rhs; rw [s1, s2, s3, s4, s5, s6]
  simp only [List.append_assoc]
theorem taken_ok {l : List UInt8} (h : l.length = 120) : (takenX l).ok := by
  have n8 : ∀ i, num ((l.drop i).take 8) < 18446744073709551616 := fun i => by
    refine Nat.lt_of_lt_of_le (num_lt _) ?_
    rw [show (18446744073709551616 : Nat) = 256 ^ 8 from rfl]
    exact Nat.pow_le_pow_right (by decide) (List.length_take_le ..)
  exact ⟨n8 64, n8 72, n8 80⟩
/-- A body tells all but the sign. -/
theorem body_inj {x y : Tx} (hx : x.ok) (hy : y.ok) : bodyX x = bodyX y ↔ { y with s := x.s } = x := by
  constructor
  · intro h
    have h1 : bytesX x = bytesX { y with s := x.s } := by
      show bodyX x ++ x.s.1 = bodyX y ++ x.s.1
      rw [h]
    have h2 := taken_bytes hx
    have h3 := taken_bytes (x := { y with s := x.s }) hy
    rw [← h3, ← h1, h2]
  · intro h
    have : bodyX { y with s := x.s } = bodyX y := rfl
    rw [← this, h]
theorem sign_twice (x : Tx) : signX (signX x) = signX x := rfl
theorem check_sign (x : Tx) : checkX (signX x) = 0 := if_pos rfl
theorem check_iff (x : Tx) : checkX x = 0 ↔ signX x = x := by
  unfold checkX signX
  constructor
  · intro h
    by_cases hs : x.s = signD x
    · cases x with
      | mk p t n a f s =>
        have hs : s = signD ⟨p, t, n, a, f, s⟩ := hs
        show Tx.mk p t n a f (signD ⟨p, t, n, a, f, s⟩) = ⟨p, t, n, a, f, s⟩
        rw [← hs]
    · rw [if_neg hs] at h; cases h
  · intro h
    rw [if_pos (congrArg (·.s) h).symm]
end Go.Proofs.YtpfglincdlmfhaaDoor
