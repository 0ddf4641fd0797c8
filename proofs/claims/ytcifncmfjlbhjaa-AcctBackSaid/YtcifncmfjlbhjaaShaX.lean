/-
  Texts laid together: ShaA, ShaB, ShaC, ShaD, ShaE.
-/
import Derived.Test.YtcifncmfjlbhjaaShaR
import Derived.StillTailTactics
import Derived.Test.YtcifncmfjlbhjaaBits
set_option maxRecDepth 100000
/- (ShaA)
  The landed package sha: a word turned; the sum under way as a block of cells.
-/
namespace Go.Proofs.Ytcifncmfjlbhjaa
open Go.RowKit
set_option linter.unusedVariables false
set_option maxRecDepth 100000

theorem rotl_bits (x : UInt32) (n : Nat) : bits .or .u32 ((x.toNat : Int) * 2 ^ (32 - n) % 4294967296) ((x.toNat : Int) / 2 ^ n) = ((rotr x n).toNat : Int) := by
  rw [← rotr_bits]
  have hx := x.toNat_lt
  have e1 : (x.toNat : Int) / 2 ^ n = ((x.toNat / 2 ^ n : Nat) : Int) := by simp
  have e2 : (x.toNat : Int) * 2 ^ (32 - n) % 4294967296 = ((x.toNat * 2 ^ (32 - n) % 4294967296 : Nat) : Int) := by simp
  have h1 : x.toNat / 2 ^ n < 4294967296 := Nat.lt_of_le_of_lt (Nat.div_le_self _ _) hx
  have h2 : x.toNat * 2 ^ (32 - n) % 4294967296 < 4294967296 := Nat.mod_lt _ (by decide)
  rw [e1, e2, u32_or_nat _ _ h1 h2, u32_or_nat _ _ h2 h1, Nat.or_comm]

theorem neg31 : ∀ n : Nat, n < 32 → 1 ≤ n → bits .and .u64 (IntKind.u64.wrap (-(n : Int))) 31 = ((32 - n : Nat) : Int) := by decide +kernel



def sumL (s : List UInt32) (b : List UInt8) (h n : Nat) : List Value := s.map uv ++ (b.map bv ++ [.int .i64 h, .int .u64 n])
section
variable {w : World} {g : Nat} {s : List UInt32} {b : List UInt8} {h n : Nat}
end


/-! ### the sum's cells, laid over -/
theorem sumL_len (s : List UInt32) (b : List UInt8) (h n : Nat) (hl : s.length = 8) (hb : b.length = 64) : (sumL s b h n).length = 74 := by
  simp [sumL, hl, hb]
theorem sumL_splice (s : List UInt32) (b x : List UInt8) (h n : Nat) (hl : s.length = 8) (hb : b.length = 64) (hx : h + x.length ≤ 64) : splice (sumL s b h n) (8 + h) (x.map bv) = sumL s (splice b h x) h n := by
  unfold splice sumL
  rw [List.take_append, List.length_map, hl, Nat.add_sub_cancel_left, List.take_of_length_le (by rw [List.length_map]; omega)]
  rw [List.take_append_of_le_length (by rw [List.length_map]; omega)]
  rw [List.length_map, List.drop_append, List.length_map, hl, show 8 + h + x.length - 8 = h + x.length by omega, List.drop_eq_nil_of_le (by rw [List.length_map]; omega), List.nil_append]
  rw [List.drop_append_of_le_length (by rw [List.length_map]; omega)]
  simp [List.append_assoc]

/-! ### the words of a block, as the package sha lays them -/
theorem or8_bits (x : UInt32) (y : UInt8) : bits .or .u32 ((x.toNat : Int) * 256 % 4294967296) (y.toNat : Int) = ((adb (m256 x) y).toNat : Int) := by
  have hx := x.toNat_lt
  have hy := y.toNat_lt
  have e2 : (x.toNat : Int) * 256 % 4294967296 = ((x.toNat * 256 % 4294967296 : Nat) : Int) := by simp
  rw [e2, u32_or_nat _ _ (Nat.mod_lt _ (by decide)) (by omega)]
  have h1 : x.toNat * 256 % 4294967296 = (x.toNat % 16777216) <<< 8 := by rw [Nat.shiftLeft_eq]; omega
  rw [h1, ← Nat.shiftLeft_add_eq_or_of_lt (show y.toNat < 2 ^ 8 by omega), ← h1]
  rw [← adb_mod, ← m256_mod]
  omega
def wd1 (b : List UInt8) : Nat → List UInt32
  | 0 => List.replicate 64 0
  | i + 1 => (wd1 b i).set (i / 4) (adb (m256 ((wd1 b i).getD (i / 4) 0)) (b.getD i 0))
theorem wd1_len (b : List UInt8) (i : Nat) : (wd1 b i).length = 64 := by
  induction i with
  | zero => simp [wd1]
  | succ i ih => simp [wd1, ih]
theorem wd1_part (b : List UInt8) (hb : b.length = 64) (t : Nat) (ht : t < 16) (h0 : wd1 b (4 * t) = sch1 b t) : ∀ i : Nat, i ≤ 4 → wd1 b (4 * t + i) = (sch1 b t).set t (w32 ((b.drop (4 * t)).take i)) := by
  intro i
  induction i with
  | zero => intro _; rw [Nat.add_zero, h0, List.take_zero, show w32 [] = 0 from rfl, sch1_set0 _ _ (by omega)]
  | succ i ih =>
    intro hi
    rw [show 4 * t + (i + 1) = (4 * t + i) + 1 by omega, wd1, ih (by omega), show (4 * t + i) / 4 = t by omega, List.set_set]
    rw [take_drop_succ b t i (by omega), w32_snoc]
    have e1 : ((sch1 b t).set t (w32 ((b.drop (4 * t)).take i))).getD t 0 = w32 ((b.drop (4 * t)).take i) := by
      rw [List.getD_eq_getElem?_getD, List.getElem?_set_self (by rw [sch1_len]; omega)]
      rfl
    have e2 : b.getD (4 * t + i) 0 = b[4 * t + i]'(by omega) := by rw [List.getD_eq_getElem?_getD, List.getElem?_eq_getElem (by omega)]; rfl
    rw [e1, e2]
theorem wd1_sch (b : List UInt8) (hb : b.length = 64) : ∀ t : Nat, t ≤ 16 → wd1 b (4 * t) = sch1 b t := by
  intro t
  induction t with
  | zero => intro _; rfl
  | succ t ih =>
    intro ht
    rw [show 4 * (t + 1) = 4 * t + 4 by omega, wd1_part b hb t (by omega) (ih (by omega)) 4 (Nat.le_refl _)]
    rfl

/-! ### an array read whole out of a greater block -/
section
variable {P : Program}
theorem run_loadVar_part (w : World) (g off : Nat) (ty : TypeId) (cs : List Value) (d : TypeDesc) (hg : ∀ j v, cs[j]? = some v → w.cell? ⟨g, off + j, none⟩ = some v)
    (hu : P.underlying ty = some d) (hd : (match d with | .struct _ | .array _ _ => true | _ => false) = true) (hi : (P.info? ty).map (·.size) = some cs.length) :
    (loadVar ty ⟨g, off, none⟩).run P w = .ok (.agg cs.toArray) w := by
  have hl : (loadCells ⟨g, off, none⟩ cs.length).run P w = .ok cs.toArray w :=
    run_loadCells_list (P := P) w ⟨g, off, none⟩ cs (fun j v hv => by
      have hadd : (⟨g, off, none⟩ : Addr).add j = ⟨g, off + j, none⟩ := by unfold Addr.add; split <;> simp_all
      rw [hadd]
      exact hg j v hv)
  cases hq : P.info? ty with
  | none => simp [hq] at hi
  | some i =>
    have hs : i.size = cs.length := by simpa [hq] using hi
    have hagg : (isAgg ty).run P w = .ok true w := by
      unfold isAgg
      rw [Sem.run_bind, run_underlying hu w]
      cases d <;> simp_all
    simp [loadVar, Sem.run_bind, hagg, sizeOf, typeInfo, hq, hs, hl]
theorem wpList_load_part {ops : Array Oper} {rest : List Oper} {o : Oper} {a : Act} {w : World} {Q : Exit → Act → World → Prop} (hgd : o.guard = none) (ty : TypeId) (x : Operand) (ho : o.op = .load ty x)
    (g off : Nat) (hx : a.eval x = .pointer (some ⟨g, off, none⟩)) (cs : List Value) (d : TypeDesc) (hg : ∀ j v, cs[j]? = some v → w.cell? ⟨g, off + j, none⟩ = some v)
    (hu : P.underlying ty = some d) (hd : (match d with | .struct _ | .array _ _ => true | _ => false) = true) (hi : (P.info? ty).map (·.size) = some cs.length)
    (h : wpList P ops Q rest (a.put o.dst (.agg cs.toArray)) w) : wpList P ops Q (o :: rest) a w :=
  wpList_plain hgd fun _ hK => by
    unfold Oper.wp execOp
    simp only [ho, hx, Instr.loadAt, Instr.sureAddr, Sem.run_bind, Sem.run_pure, Result.andThen_ok, run_loadVar_part w g off ty cs d hg hu hd hi]
    exact hK _ _ h
end
end Go.Proofs.Ytcifncmfjlbhjaa

/- (ShaB)
  The landed package sha: a new sum; the words of its block.
-/
namespace Go.Proofs.Ytcifncmfjlbhjaa
open Go.RowKit
set_option linter.unusedVariables false
set_option maxRecDepth 100000

def s00 : S8 := ⟨0, 0, 0, 0, 0, 0, 0, 0⟩
def zsum : Array Value := (sumL s00.list (List.replicate 64 0) 0 0).toArray
def nsum : Array Value := (sumL S0.list (List.replicate 64 0) 0 0).toArray
theorem sizeU8 : (Try.prog.info? 5).map (·.size) = some 1 := by kernel_rfl



end Go.Proofs.Ytcifncmfjlbhjaa

/- (ShaC)
  The landed package sha: a block is turned into the state.
-/
namespace Go.Proofs.Ytcifncmfjlbhjaa
open Go.RowKit
set_option linter.unusedVariables false
set_option maxRecDepth 100000

theorem sizeW : (Try.prog.info? 152).map (·.size) = some 1 := by kernel_rfl

theorem not_bits (x : UInt32) : bits .xor .u32 (if IntKind.u32.signed = true then -1 else IntKind.u32.max) (x.toNat : Int) = ((no x).toNat : Int) := by
  have h : (if IntKind.u32.signed = true then -1 else IntKind.u32.max) = (((4294967295 : UInt32).toNat : Nat) : Int) := by decide
  rw [h, xor_bits]
  congr 2


end Go.Proofs.Ytcifncmfjlbhjaa

/- (ShaD)
  The landed package sha: bytes are held until a block is full.
-/
namespace Go.Proofs.Ytcifncmfjlbhjaa
open Go.RowKit
set_option linter.unusedVariables false
set_option maxRecDepth 100000

/-! ### pure: where the bytes stand -/
theorem stN_app (p x : List UInt8) : ∀ q : Nat, 64 * q ≤ p.length → stN (p ++ x) q = stN p q := by
  intro q
  induction q with
  | zero => intro _; rfl
  | succ q ih =>
    intro hq
    have e : ((p ++ x).drop (64 * q)).take 64 = (p.drop (64 * q)).take 64 := by
      rw [List.drop_append_of_le_length (by omega), List.take_append_of_le_length (by rw [List.length_drop]; omega)]
    rw [stN, stN, ih (by omega), e]



theorem splice_take (b x : List UInt8) (h : Nat) (hh : h ≤ b.length) : (splice b h x).take (h + x.length) = b.take h ++ x := by
  unfold splice
  have e : (b.take h).length = h := by simp; omega
  rw [List.take_append, e, Nat.add_sub_cancel_left, List.take_append_of_le_length (by omega), List.take_of_length_le (l := x) (by omega), List.take_take, Nat.min_eq_right (by omega)]
theorem set_splice (b : List UInt8) (h : Nat) (c : UInt8) (hh : h < b.length) : b.set h c = splice b h [c] := by
  unfold splice
  rw [List.set_eq_take_append_cons_drop, if_pos hh]
  rfl

/-! ### hold, put -/


/-! ### add -/
theorem Rd.low {w w' : World} {A : Option Addr} {l : List UInt8} {g : Nat} (h : Rd w A l) (hA : 0 < l.length → ∀ a, A = some a → a.block < g) (hb : Below g w w') : Rd w' A l := by
  intro hn
  obtain ⟨b, o, rfl, hc⟩ := h hn
  exact ⟨b, o, rfl, fun j x hx => (hb.cell (p := ⟨b, o + j, none⟩) (hA hn ⟨b, o, none⟩ rfl)).trans (hc j x hx)⟩


end Go.Proofs.Ytcifncmfjlbhjaa

/- (ShaE)
  The landed package sha: the end is padded; the digest is told.
-/
namespace Go.Proofs.Ytcifncmfjlbhjaa
open Go.RowKit
set_option linter.unusedVariables false
set_option maxRecDepth 100000

theorem be_get (n : Nat) : ∀ size k : Nat, k < size → (be size n)[k]? = some (UInt8.ofNat (n / 256 ^ (size - 1 - k) % 256)) := by
  intro size
  induction size with
  | zero => intro k h; omega
  | succ s ih =>
    intro k h
    rw [be_cons]
    rcases k with _ | k
    · rw [List.getElem?_cons_zero]; rfl
    · rw [List.getElem?_cons_succ, ih k (by omega), show s + 1 - 1 - (k + 1) = s - 1 - k by omega]
theorem be_take_succ (n size k : Nat) (h : k < size) : (be size n).take (k + 1) = (be size n).take k ++ [UInt8.ofNat (n / 256 ^ (size - 1 - k) % 256)] := by
  rw [List.take_add_one, be_get n size k h]
  rfl
theorem shr_b (n k : Nat) : ((n : Int) / 2 ^ (8 * k) % 256) = ((UInt8.ofNat (n / 256 ^ k % 256)).toNat : Int) := by
  have e : (2 : Int) ^ (8 * k) = ((256 ^ k : Nat) : Int) := by
    rw [Int.pow_mul]; simp
  have e2 : ((n : Int) / 2 ^ (8 * k) % 256) = ((n / 256 ^ k % 256 : Nat) : Int) := by rw [e]; simp
  rw [e2]
  simp



/-! ### the digest -/
structure DI (w wr : World) (l : List UInt8) (i : Nat) : Prop where
  below : Below w.heap.size w wr
  res : wr.heap[w.heap.size]? = some (.cells z32 26 (0, 0))
  cur : wr.heap[w.heap.size + 1]? = some (.cells ((upTo l i).map bv).toArray 26 (0, 0))

theorem DI.new (w : World) (l : List UInt8) : DI w ((w.alloc (.cells z32 26)).alloc (.cells z32 26)) l 0 :=
  ⟨(ext_alloc w _).alloc (by simp) _, (Below.heap_alloc _ _ _ (by simp)).trans (heap_alloc_new w _), by
    have e : (w.alloc (.cells z32 26)).heap.size = w.heap.size + 1 := by simp
    rw [← e, upTo_zero]
    exact heap_alloc_new (w.alloc (.cells z32 26)) (.cells z32 26)⟩


/-! ### Of -/
end Go.Proofs.Ytcifncmfjlbhjaa
