/-
  Texts of digests: digits, what is told and what is read. No program is named here.
-/
import Derived.Test.YtliahdlllmnkkaaDoorU8
import Derived.Test.YtliahdlllmnkkaaDoorW32
import Derived.Test.YtliahdlllmnkkaaDoorArr
namespace Go.Proofs.YtliahdlllmnkkaaDoor
open Go.RowKit
set_option linter.unusedVariables false

def hexd : List UInt8 := [48, 49, 50, 51, 52, 53, 54, 55, 56, 57, 97, 98, 99, 100, 101, 102]
def digitI (c : UInt8) : Int := match hexd.idxOf? c with | some i => (i : Int) | none => -1

theorem hexd_at (i : Nat) (h : i < hexd.length) (p : i < (ByteArray.mk hexd.toArray).size) : (ByteArray.mk hexd.toArray)[i] = hexd.getD i 0 := by
  rw [List.getD_eq_getElem?_getD, List.getElem?_eq_getElem h]
  rfl
theorem digit_hit (c : UInt8) (i : Nat) (h : i < 16) (p : i < (ByteArray.mk hexd.toArray).size) (e : ((((ByteArray.mk hexd.toArray)[i]).toNat : Int) == (c.toNat : Int)) = true) : hexd.getD i 0 = c := by
  rw [hexd_at i h] at e
  apply UInt8.toNat_inj.1
  have := beq_iff_eq.1 e
  omega
theorem digit_miss (c : UInt8) (i : Nat) (h : i < 16) (p : i < (ByteArray.mk hexd.toArray).size) (e : ((((ByteArray.mk hexd.toArray)[i]).toNat : Int) == (c.toNat : Int)) = false) : hexd.getD i 0 ≠ c := by
  rw [hexd_at i h] at e
  intro h2
  rw [h2] at e
  simp at e
theorem digitI_hit (c : UInt8) (i : Nat) (h : i < 16) (e : hexd.getD i 0 = c) : digitI c = i := by
  subst e
  have hall : ∀ j : Fin 16, digitI (hexd.getD j.1 0) = (j.1 : Int) := by decide
  exact hall ⟨i, h⟩
theorem digitI_miss (c : UInt8) (h : ∀ k, k < 16 → hexd.getD k 0 ≠ c) : digitI c = -1 := by
  have h2 : hexd.idxOf? c = none := by
    rw [List.idxOf?_eq_none_iff]
    intro hm
    obtain ⟨k, hk, he⟩ := List.mem_iff_getElem.1 hm
    refine h k hk ?_
    rw [List.getD_eq_getElem?_getD, List.getElem?_eq_getElem hk]
    exact he
  simp [digitI, h2]

def hexOf (b : UInt8) : List UInt8 := [hexd.getD (b.toNat / 16) 0, hexd.getD (b.toNat % 16) 0]
def hexL (d : List UInt8) : List UInt8 := (d.map hexOf).flatten
theorem hexL_take_succ (d : List UInt8) (i : Nat) (h : i < d.length) : hexL (d.take (i + 1)) = hexL (d.take i) ++ hexOf d[i] := by
  unfold hexL
  rw [List.take_succ_eq_append_getElem h, List.map_append, List.flatten_append, List.map_cons, List.map_nil, List.flatten_cons, List.flatten_nil, List.append_nil]
theorem hexL_len (d : List UInt8) : (hexL d).length = 2 * d.length := by
  unfold hexL
  induction d with
  | nil => rfl
  | cons b d ih => simp [hexOf, ih]; omega


/-! ### what is read -/
def cAt (s : ByteArray) (k : Nat) : UInt8 := s.data.toList.getD k 0
def okAt (s : ByteArray) (i : Nat) : Bool := decide (0 ≤ digitI (cAt s (2 * i))) && decide (0 ≤ digitI (cAt s (2 * i + 1)))
def byteAt (s : ByteArray) (i : Nat) : UInt8 := UInt8.ofNat (16 * digitI (cAt s (2 * i)) + digitI (cAt s (2 * i + 1))).toNat
def readB (s : ByteArray) : List UInt8 := (List.range 32).map (byteAt s)
def readOk (s : ByteArray) : Bool := decide (s.size = 64) && (List.range 32).all (okAt s)
theorem readB_len (s : ByteArray) : (readB s).length = 32 := by simp [readB]
theorem readB_get (s : ByteArray) (i : Nat) (h : i < 32) : (readB s)[i]? = some (byteAt s i) := by
  simp [readB, h]
def digitV (c : UInt8) : UInt8 := if 0 ≤ digitI c then UInt8.ofNat (digitI c).toNat else 0
theorem all256 {p : UInt8 → Prop} (h : ∀ i : Fin 256, p (UInt8.ofNat i.1)) (c : UInt8) : p c := by
  have h1 := h ⟨c.toNat, c.toNat_lt⟩
  simpa using h1
theorem digit_dec (c : UInt8) (h1 : 48 ≤ c.toNat) (h2 : c.toNat ≤ 57) : digitI c = (c.toNat : Int) - 48 := by
  have h := all256 (p := fun c => 48 ≤ c.toNat → c.toNat ≤ 57 → digitI c = (c.toNat : Int) - 48) (by decide +kernel) c
  exact h h1 h2
theorem digit_hex (c : UInt8) (h1 : 97 ≤ c.toNat) (h2 : c.toNat ≤ 102) : digitI c = (c.toNat : Int) - 87 := by
  have h := all256 (p := fun c => 97 ≤ c.toNat → c.toNat ≤ 102 → digitI c = (c.toNat : Int) - 87) (by decide +kernel) c
  exact h h1 h2
theorem digit_not (c : UInt8) (h1 : c.toNat < 48 ∨ 57 < c.toNat) (h2 : c.toNat < 97 ∨ 102 < c.toNat) : digitI c = -1 := by
  have h := all256 (p := fun c => (c.toNat < 48 ∨ 57 < c.toNat) → (c.toNat < 97 ∨ 102 < c.toNat) → digitI c = -1) (by decide +kernel) c
  exact h h1 h2
theorem digitI_lt (c : UInt8) : digitI c < 16 := by
  exact all256 (p := fun c => digitI c < 16) (by decide +kernel) c
theorem digitI_ge (c : UInt8) : -1 ≤ digitI c := by
  exact all256 (p := fun c => -1 ≤ digitI c) (by decide +kernel) c

theorem run_index_arr {P : Program} (T E : TypeId) (n k : Nat) (kd : IntKind) (cs : Array Value) (v : Value) (w : World) (hu : P.underlying T = some (.array n E)) (he : P.underlying E = some (.int kd)) (hs : (P.info? E).map (·.size) = some 1)
    (hk : k < n) (hv : cs[k]? = some v) : (Instr.index T (.agg cs) (.int .i64 (k : Int))).run P w = .ok v w := by
  cases hq : P.info? E with
  | none => simp [hq] at hs
  | some i =>
    have h1 : i.size = 1 := by simpa [hq] using hs
    simp [Instr.index, asIntOf, run_underlying hu, sizeOf, typeInfo, hq, h1, part, isAgg, run_underlying he, hv]
    intro h
    omega

theorem run_index_str {P : Program} (T : TypeId) (k : Nat) (s : ByteArray) (w : World) (hu : P.underlying T = some .string) (hk : k < s.size) :
    (Instr.index T (.string s) (.int .i64 (k : Int))).run P w = .ok (.int .u8 ((cAt s k).toNat : Int)) w := by
  have h1 : s[k]? = some (cAt s k) := by
    rw [getElem?_pos s k hk]
    congr 1
    unfold cAt
    rw [List.getD_eq_getElem?_getD, List.getElem?_eq_getElem (by simpa using hk)]
    rfl
  simp [Instr.index, asIntOf, run_underlying hu, h1]
end Go.Proofs.YtliahdlllmnkkaaDoor
