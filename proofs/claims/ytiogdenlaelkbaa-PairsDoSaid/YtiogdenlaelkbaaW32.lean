/-
  Words of 32 bits: how the walk spells their sums, and bits, and what that is. No program is named here.
-/
import Derived.WalkKit
import Derived.Laws.BitsAllLaws
import Derived.Laws.Bits64
import Derived.Test.YtiogdenlaelkbaaBy
namespace Go.Proofs.Ytiogdenlaelkbaa
open Go.RowKit

def uv (x : UInt32) : Value := .int .u32 (x.toNat : Int)
def rotr (x : UInt32) (n : Nat) : UInt32 := UInt32.ofNat (x.toNat / 2 ^ n ||| x.toNat * 2 ^ (32 - n) % 4294967296)
def shr (x : UInt32) (n : Nat) : UInt32 := UInt32.ofNat (x.toNat / 2 ^ n)

theorem rotr_bits (x : UInt32) (n : Nat) : bits .or .u32 ((x.toNat : Int) / 2 ^ n) ((x.toNat : Int) * 2 ^ (32 - n) % 4294967296) = ((rotr x n).toNat : Int) := by
  have hx := x.toNat_lt
  have e1 : (x.toNat : Int) / 2 ^ n = ((x.toNat / 2 ^ n : Nat) : Int) := by simp
  have e2 : (x.toNat : Int) * 2 ^ (32 - n) % 4294967296 = ((x.toNat * 2 ^ (32 - n) % 4294967296 : Nat) : Int) := by simp
  have h1 : x.toNat / 2 ^ n < 4294967296 := Nat.lt_of_le_of_lt (Nat.div_le_self _ _) hx
  have h2 : x.toNat * 2 ^ (32 - n) % 4294967296 < 4294967296 := Nat.mod_lt _ (by decide)
  rw [e1, e2, u32_or_nat _ _ h1 h2]
  unfold rotr
  rw [UInt32.toNat_ofNat_of_lt' (Nat.or_lt_two_pow (n := 32) h1 h2)]
theorem shr_div (x : UInt32) (n : Nat) : (x.toNat : Int) / 2 ^ n = ((shr x n).toNat : Int) := by
  have hx := x.toNat_lt
  have h1 : x.toNat / 2 ^ n < 4294967296 := Nat.lt_of_le_of_lt (Nat.div_le_self _ _) hx
  unfold shr
  rw [UInt32.toNat_ofNat_of_lt' h1]
  simp
/-- Sums and bits of words, under names of their own: so the walk's simp leaves them standing. -/
def ad (x y : UInt32) : UInt32 := x + y
def xo (x y : UInt32) : UInt32 := x ^^^ y
def an (x y : UInt32) : UInt32 := x &&& y
def oo (x y : UInt32) : UInt32 := x ||| y
def no (x : UInt32) : UInt32 := ~~~x
theorem add_mod (x y : UInt32) : ((x.toNat : Int) + (y.toNat : Int)) % 4294967296 = ((ad x y).toNat : Int) := by
  rw [ad, UInt32.toNat_add]; simp
theorem xor_bits (x y : UInt32) : bits .xor .u32 (x.toNat : Int) (y.toNat : Int) = ((xo x y).toNat : Int) := by
  rw [xo, u32_xor_nat _ _ x.toNat_lt y.toNat_lt, UInt32.toNat_xor]
theorem and_bits (x y : UInt32) : bits .and .u32 (x.toNat : Int) (y.toNat : Int) = ((an x y).toNat : Int) := by
  rw [an, u32_and_nat _ _ x.toNat_lt y.toNat_lt, UInt32.toNat_and]
theorem or_bits (x y : UInt32) : bits .or .u32 (x.toNat : Int) (y.toNat : Int) = ((oo x y).toNat : Int) := by
  rw [oo, u32_or_nat _ _ x.toNat_lt y.toNat_lt, UInt32.toNat_or]
theorem not_sub (x : UInt32) : (4294967295 : Int) - (x.toNat : Int) = ((no x).toNat : Int) := by
  have hx := x.toNat_lt
  rw [no, UInt32.toNat_not]
  have : UInt32.size = 4294967296 := rfl
  omega

theorem mod_self (x : UInt32) : (x.toNat : Int) % 4294967296 = (x.toNat : Int) := by
  have hx := x.toNat_lt
  omega

/-! ### the plain answers of SHA-256 -/
def rT (e f g h k w : UInt32) : UInt32 := ad (ad (ad (ad h (xo (xo (rotr e 6) (rotr e 11)) (rotr e 25))) (xo (an e f) (an (no e) g))) k) w
def rU (a b c : UInt32) : UInt32 := ad (xo (xo (rotr a 2) (rotr a 13)) (rotr a 22)) (xo (xo (an a b) (an a c)) (an b c))
/-- The eight letters. -/
structure S8 where
  a : UInt32
  b : UInt32
  c : UInt32
  d : UInt32
  e : UInt32
  f : UInt32
  g : UInt32
  h : UInt32
def S8.vals (s : S8) : Array Value := #[uv s.a, uv s.b, uv s.c, uv s.d, uv s.e, uv s.f, uv s.g, uv s.h]
def S8.round (s : S8) (k w : UInt32) : S8 := ⟨ad (rT s.e s.f s.g s.h k w) (rU s.a s.b s.c), s.a, s.b, s.c, ad s.d (rT s.e s.f s.g s.h k w), s.e, s.f, s.g⟩

/-- The table k. -/
def Kw : List UInt32 := [0x428a2f98, 0x71374491, 0xb5c0fbcf, 0xe9b5dba5, 0x3956c25b, 0x59f111f1, 0x923f82a4, 0xab1c5ed5, 0xd807aa98, 0x12835b01, 0x243185be, 0x550c7dc3, 0x72be5d74, 0x80deb1fe, 0x9bdc06a7, 0xc19bf174, 0xe49b69c1, 0xefbe4786, 0x0fc19dc6, 0x240ca1cc, 0x2de92c6f, 0x4a7484aa, 0x5cb0a9dc, 0x76f988da, 0x983e5152, 0xa831c66d, 0xb00327c8, 0xbf597fc7, 0xc6e00bf3, 0xd5a79147, 0x06ca6351, 0x14292967, 0x27b70a85, 0x2e1b2138, 0x4d2c6dfc, 0x53380d13, 0x650a7354, 0x766a0abb, 0x81c2c92e, 0x92722c85, 0xa2bfe8a1, 0xa81a664b, 0xc24b8b70, 0xc76c51a3, 0xd192e819, 0xd6990624, 0xf40e3585, 0x106aa070, 0x19a4c116, 0x1e376c08, 0x2748774c, 0x34b0bcb5, 0x391c0cb3, 0x4ed8aa4a, 0x5b9cca4f, 0x682e6ff3, 0x748f82ee, 0x78a5636f, 0x84c87814, 0x8cc70208, 0x90befffa, 0xa4506ceb, 0xbef9a3f7, 0xc67178f2]
/-- The state at first. -/
def S0 : S8 := ⟨0x6a09e667, 0xbb67ae85, 0x3c6ef372, 0xa54ff53a, 0x510e527f, 0x9b05688c, 0x1f83d9ab, 0x5be0cd19⟩
def wvs (l : List UInt32) : Array Value := (l.map uv).toArray
theorem wvs_size (l : List UInt32) : (wvs l).size = l.length := by simp [wvs]
theorem wvs_one (l : List UInt32) : (wvs l).all (·.oneCell') = true := by
  rw [Array.all_eq_true_iff_forall_mem]
  intro v hv
  simp only [wvs, List.mem_toArray, List.mem_map] at hv
  obtain ⟨x, _, rfl⟩ := hv
  rfl

/-! ### a block's words -/
def m256 (x : UInt32) : UInt32 := 256 * x
def adb (x : UInt32) (b : UInt8) : UInt32 := x + UInt32.ofNat b.toNat
theorem m256_mod (x : UInt32) : (256 * (x.toNat : Int)) % 4294967296 = ((m256 x).toNat : Int) := by
  rw [m256, UInt32.toNat_mul]; simp
theorem adb_mod (x : UInt32) (b : UInt8) : ((x.toNat : Int) + (b.toNat : Int)) % 4294967296 = ((adb x b).toNat : Int) := by
  have hb := b.toNat_lt
  rw [adb, UInt32.toNat_add, UInt32.toNat_ofNat_of_lt' (show b.toNat < UInt32.size by have : UInt32.size = 4294967296 := rfl; omega)]
  simp
def w32 (l : List UInt8) : UInt32 := l.foldl (fun a x => adb (m256 a) x) 0
theorem w32_snoc (l : List UInt8) (x : UInt8) : w32 (l ++ [x]) = adb (m256 (w32 l)) x := by simp [w32]
def s0 (x : UInt32) : UInt32 := xo (xo (rotr x 7) (rotr x 18)) (shr x 3)
def s1 (x : UInt32) : UInt32 := xo (xo (rotr x 17) (rotr x 19)) (shr x 10)
def sch1 (b : List UInt8) : Nat → List UInt32
  | 0 => List.replicate 64 0
  | t + 1 => (sch1 b t).set t (w32 ((b.drop (4 * t)).take 4))
def sch2 (b : List UInt8) : Nat → List UInt32
  | 0 => sch1 b 16
  | i + 1 => (sch2 b i).set (i + 16) (ad (ad (ad ((sch2 b i).getD i 0) (s0 ((sch2 b i).getD (i + 1) 0))) ((sch2 b i).getD (i + 9) 0)) (s1 ((sch2 b i).getD (i + 14) 0)))
def sched (b : List UInt8) : List UInt32 := sch2 b 48
theorem sch1_len (b : List UInt8) (t : Nat) : (sch1 b t).length = 64 := by
  induction t with
  | zero => simp [sch1]
  | succ t ih => simp [sch1, ih]
theorem sch2_len (b : List UInt8) (t : Nat) : (sch2 b t).length = 64 := by
  induction t with
  | zero => simp [sch2, sch1_len]
  | succ t ih => simp [sch2, ih]
theorem sch1_zero (b : List UInt8) (t j : Nat) (hj : t ≤ j) (h64 : j < 64) : (sch1 b t)[j]? = some 0 := by
  induction t with
  | zero => rw [sch1, List.getElem?_replicate, if_pos h64]
  | succ t ih =>
    rw [sch1, List.getElem?_set_ne (by omega)]
    exact ih (by omega)
theorem sch1_set0 (b : List UInt8) (t : Nat) (h : t < 64) : (sch1 b t).set t 0 = sch1 b t := by
  apply List.ext_getElem?
  intro j
  rw [List.getElem?_set]
  split
  · rename_i e
    subst e
    rw [sch1_zero b t t (Nat.le_refl _) h]
    simp [sch1_len, h]
  · rfl

/-! ### padded -/
def padP (l : List UInt8) (j : Nat) : List UInt8 := l ++ 128 :: List.replicate j 0
def padZ (n : Nat) : Nat := (120 - (n + 1) % 64) % 64
def padded (l : List UInt8) : List UInt8 := padP l (padZ l.length) ++ be 8 (8 * l.length)
theorem padP_len (l : List UInt8) (j : Nat) : (padP l j).length = l.length + 1 + j := by simp [padP]; omega
theorem padP_zero (l : List UInt8) : l ++ [128] = padP l 0 := by simp [padP]
theorem padP_succ (l : List UInt8) (j : Nat) : padP l j ++ [0] = padP l (j + 1) := by simp [padP, List.replicate_succ']
theorem padP_test (l : List UInt8) (j : Nat) (h : j < padZ l.length) : (((padP l j).length : Int) % 64 != 56) = true := by
  rw [bne_iff_ne, padP_len]
  unfold padZ at h
  omega
theorem padP_done (l : List UInt8) : (((padP l (padZ l.length)).length : Int) % 64 != 56) = false := by
  rw [bne_eq_false_iff_eq, padP_len]
  unfold padZ
  omega
theorem padZ_lt (n : Nat) : padZ n < 64 := Nat.mod_lt _ (by decide)

/-! ### the digest -/
def S8.rounds (s : S8) (ws : List UInt32) : Nat → S8
  | 0 => s
  | t + 1 => (s.rounds ws t).round (Kw.getD t 0) (ws.getD t 0)
def S8.plus (s v : S8) : S8 := ⟨ad s.a v.a, ad s.b v.b, ad s.c v.c, ad s.d v.d, ad s.e v.e, ad s.f v.f, ad s.g v.g, ad s.h v.h⟩
def stN (p : List UInt8) : Nat → S8
  | 0 => S0
  | i + 1 => (stN p i).plus ((stN p i).rounds (sched ((p.drop (64 * i)).take 64)) 64)
def S8.list (s : S8) : List UInt32 := [s.a, s.b, s.c, s.d, s.e, s.f, s.g, s.h]
theorem S8.vals_list (s : S8) : s.vals = wvs s.list := rfl
def S8.bytes (s : S8) : List UInt8 := (s.list.map fun x => be 4 x.toNat).flatten
def sha256 (l : List UInt8) : List UInt8 := (stN (padded l) ((padded l).length / 64)).bytes
theorem padded_len (l : List UInt8) : (padded l).length % 64 = 0 := by
  simp only [padded, List.length_append, padP_len, be_length]
  unfold padZ
  omega
theorem padded_le (l : List UInt8) : (padded l).length ≤ l.length + 73 := by
  have := padZ_lt l.length
  simp only [padded, List.length_append, padP_len, be_length]
  omega

theorem Kw_len : Kw.length = 64 := by decide
theorem get_getD (l : List UInt32) (i : Nat) (h : i < l.length) : l[i] = l.getD i 0 := by
  rw [List.getD_eq_getElem?_getD, List.getElem?_eq_getElem h]; rfl

/-- Two lists of words, the first i of them added. -/
def plusTo (x y : List UInt32) (i : Nat) : List UInt32 := (List.zipWith ad x y).take i ++ x.drop i
theorem plusTo_len (x y : List UInt32) (i : Nat) (h : x.length = y.length) (hi : i ≤ x.length) : (plusTo x y i).length = x.length := by simp [plusTo]; omega
theorem plusTo_zero (x y : List UInt32) : plusTo x y 0 = x := by simp [plusTo]
theorem plusTo_get (x y : List UInt32) (i : Nat) (h : x.length = y.length) (hi : i < x.length) : (plusTo x y i)[i]? = some (x.getD i 0) := by
  unfold plusTo
  rw [List.getElem?_append_right (by simp; omega)]
  have e : i - ((List.zipWith ad x y).take i).length = 0 := by simp; omega
  rw [e, List.getElem?_drop, Nat.add_zero, ← get_getD x i hi, List.getElem?_eq_getElem hi]
theorem plusTo_step (x y : List UInt32) (i : Nat) (h : x.length = y.length) (hi : i < x.length) : (plusTo x y i).set i (ad (x.getD i 0) (y.getD i 0)) = plusTo x y (i + 1) := by
  unfold plusTo
  have e : ((List.zipWith ad x y).take i).length = i := by simp; omega
  rw [List.set_append_right _ _ (by omega), e, Nat.sub_self]
  rw [List.drop_eq_getElem_cons hi, List.set_cons_zero, List.take_succ_eq_append_getElem (by simp; omega)]
  rw [← get_getD x i hi, ← get_getD y i (by omega)]
  simp
theorem S8.plus_list (s v : S8) : (s.plus v).list = plusTo s.list v.list 8 := rfl

/-! ### the digest's bytes, one by one -/
theorem be4_get (n j : Nat) (hj : j < 4) : (be 4 n)[j]? = some (UInt8.ofNat (n / 256 ^ (3 - j) % 256)) := by
  rw [be_cons, be_cons, be_cons, be_cons]
  rcases (show j = 0 ∨ j = 1 ∨ j = 2 ∨ j = 3 by omega) with rfl | rfl | rfl | rfl <;> rfl
theorem flat4 (xs : List UInt32) : ∀ i j : Nat, j < 4 → i < xs.length → ((xs.map fun x => be 4 x.toNat).flatten)[4 * i + j]? = some (UInt8.ofNat ((xs.getD i 0).toNat / 256 ^ (3 - j) % 256)) := by
  induction xs with
  | nil => intro i j _ h; simp at h
  | cons x xs ih =>
    intro i j hj hi
    rw [List.map_cons, List.flatten_cons]
    rcases i with _ | i
    · rw [List.getElem?_append_left (by rw [be_length]; omega), show 4 * 0 + j = j by omega, be4_get _ _ hj]
      rfl
    · rw [List.getElem?_append_right (by rw [be_length]; omega), be_length, show 4 * (i + 1) + j - 4 = 4 * i + j by omega, ih i j hj (by simpa using hi)]
      rfl
theorem S8.bytes_len (s : S8) : s.bytes.length = 32 := by
  simp [S8.bytes, S8.list, be_length]
/-- The first n of the bytes l, of 32, noughts behind. -/
def upTo (l : List UInt8) (n : Nat) : List UInt8 := l.take n ++ List.replicate (32 - n) 0
theorem upTo_len (l : List UInt8) (n : Nat) (h : l.length = 32) (hn : n ≤ 32) : (upTo l n).length = 32 := by simp [upTo]; omega
theorem upTo_zero (l : List UInt8) : upTo l 0 = List.replicate 32 0 := by simp [upTo]
theorem upTo_all (l : List UInt8) (h : l.length = 32) : upTo l 32 = l := by
  unfold upTo
  rw [List.take_of_length_le (by omega)]
  simp
theorem upTo_step (l : List UInt8) (n : Nat) (h : l.length = 32) (hn : n < 32) (x : UInt8) (hx : l[n]? = some x) : (upTo l n).set n x = upTo l (n + 1) := by
  unfold upTo
  have e : (l.take n).length = n := by simp; omega
  rw [List.set_append_right _ _ (by omega), e, Nat.sub_self, show 32 - n = (32 - (n + 1)) + 1 by omega, List.replicate_succ, List.set_cons_zero, List.take_add_one, hx]
  simp
theorem shr_byte4 (x : UInt32) (j : Nat) (hj : j < 4) : Value.int .u8 ((x.toNat : Int) / 2 ^ (24 - 8 * j) % 256) = bv (UInt8.ofNat (x.toNat / 256 ^ (3 - j) % 256)) := by
  have e : (2 : Int) ^ (24 - 8 * j) = ((256 ^ (3 - j) : Nat) : Int) := by
    rcases (show j = 0 ∨ j = 1 ∨ j = 2 ∨ j = 3 by omega) with rfl | rfl | rfl | rfl <;> rfl
  rw [e]
  unfold bv
  congr 1
  simp

end Go.Proofs.Ytiogdenlaelkbaa
