/-
  The landed package sha: a word turned; the sum under way as a block of cells.
-/
import Derived.Test.YtliahdlllmnkkaaDoorRef02b
import Derived.StillTailTactics
namespace Go.Proofs.YtliahdlllmnkkaaDoor
open Go.RowKit
set_option linter.unusedVariables false

theorem rotl_bits (x : UInt32) (n : Nat) : bits .or .u32 ((x.toNat : Int) * 2 ^ (32 - n) % 4294967296) ((x.toNat : Int) / 2 ^ n) = ((rotr x n).toNat : Int) := by
  rw [← rotr_bits]
  have hx := x.toNat_lt
  have e1 : (x.toNat : Int) / 2 ^ n = ((x.toNat / 2 ^ n : Nat) : Int) := by simp
  have e2 : (x.toNat : Int) * 2 ^ (32 - n) % 4294967296 = ((x.toNat * 2 ^ (32 - n) % 4294967296 : Nat) : Int) := by simp
  have h1 : x.toNat / 2 ^ n < 4294967296 := Nat.lt_of_le_of_lt (Nat.div_le_self _ _) hx
  have h2 : x.toNat * 2 ^ (32 - n) % 4294967296 < 4294967296 := Nat.mod_lt _ (by decide)
  rw [e1, e2, u32_or_nat _ _ h1 h2, u32_or_nat _ _ h2 h1, Nat.or_comm]

theorem neg31 : ∀ n : Nat, n < 32 → 1 ≤ n → bits .and .u64 (IntKind.u64.wrap (-(n : Int))) 31 = ((32 - n : Nat) : Int) := by decide +kernel

theorem rol_any (x : UInt32) (n : Nat) (w : World) (h1 : 1 ≤ n) (h2 : n ≤ 31) :
    Calls Tryd.prog 50 #[.int .u32 (x.toNat : Int), .int .i64 (-(n : Int))] w fun e w' => e = .returned (.int .u32 ((rotr x n).toNat : Int)) ∧ w = w' := by
  have hr := rotl_bits x n
  have hx' : x.toNat < 4294967296 := x.toNat_lt
  have hn := neg31 n (by omega) h1
  obtain ⟨m, hm⟩ : ∃ m, m = 32 - n := ⟨_, rfl⟩
  rw [← hm] at hn hr
  have hs : 32 - m = n := by omega
  have hm2 : m ≤ 31 := by omega
  clear hm
  go_enter Tryd.func50, Tryd.ntmps50
  go_wp2
  go_ret
  rw [← hr]
  exact ⟨rfl, rfl⟩

theorem turned_any (x : UInt32) (n : Nat) (ni : Int) (w : World) (hn : ni = n) (h1 : 1 ≤ n) (h2 : n ≤ 31) :
    Calls Tryd.prog 48 #[.int .u32 (x.toNat : Int), .int .i64 ni] w fun e w' => e = .returned (.int .u32 ((rotr x n).toNat : Int)) ∧ w = w' := by
  subst hn
  have hf : IntKind.i64.wrap (-(n : Int)) = -(n : Int) := IntWalk.i64_in _ (by omega)
  go_enter Tryd.func48, Tryd.ntmps48
  go_wp2_with fail
  refine (rol_any x n _ h1 h2).mono ?_
  rintro e w' ⟨rfl, rfl⟩
  go_wp2
  go_ret
  exact ⟨rfl, rfl⟩

def sumL (s : List UInt32) (b : List UInt8) (h n : Nat) : List Value := s.map uv ++ (b.map bv ++ [.int .i64 h, .int .u64 n])
structure SumIs (w : World) (g : Nat) (s : List UInt32) (b : List UInt8) (h n : Nat) : Prop where
  blk : w.heap[g]? = some (.cells (sumL s b h n).toArray 51 (0, 0))
  len : b.length = 64
  len8 : s.length = 8
section
variable {w : World} {g : Nat} {s : List UInt32} {b : List UInt8} {h n : Nat}
theorem SumIs.st (H : SumIs w g s b h n) (i : Nat) (hi : i < 8) : w.cell? ⟨g, i, none⟩ = some (.int .u32 ((s.getD i 0).toNat : Int)) := by
  rw [block_cell H.blk]
  have hl := H.len8
  simp only [sumL, List.getElem?_toArray]
  rw [List.getElem?_append_left (by rw [List.length_map]; omega), List.getElem?_map, List.getElem?_eq_getElem (by omega), get_getD _ _ (by omega)]
  rfl
theorem SumIs.bl (H : SumIs w g s b h n) (j : Nat) (hj : j < 64) : w.cell? ⟨g, 8 + j, none⟩ = some (bv (b.getD j 0)) := by
  rw [block_cell H.blk]
  have hl := H.len8
  have hb := H.len
  simp only [sumL, List.getElem?_toArray]
  rw [List.getElem?_append_right (by rw [List.length_map]; omega), List.length_map, hl, Nat.add_sub_cancel_left, List.getElem?_append_left (by rw [List.length_map]; omega), List.getElem?_map, List.getElem?_eq_getElem (by omega), List.getD_eq_getElem?_getD, List.getElem?_eq_getElem (by omega)]
  rfl
theorem SumIs.hd (H : SumIs w g s b h n) : w.cell? ⟨g, 72, none⟩ = some (.int .i64 h) := by
  rw [block_cell H.blk]
  have hl := H.len8
  have hb := H.len
  simp only [sumL, List.getElem?_toArray]
  rw [List.getElem?_append_right (by rw [List.length_map]; omega), List.length_map, hl, List.getElem?_append_right (by rw [List.length_map]; omega), List.length_map, hb]
  rfl
theorem SumIs.ct (H : SumIs w g s b h n) : w.cell? ⟨g, 73, none⟩ = some (.int .u64 n) := by
  rw [block_cell H.blk]
  have hl := H.len8
  have hb := H.len
  simp only [sumL, List.getElem?_toArray]
  rw [List.getElem?_append_right (by rw [List.length_map]; omega), List.length_map, hl, List.getElem?_append_right (by rw [List.length_map]; omega), List.length_map, hb]
  rfl
theorem SumIs.set_bl (H : SumIs w g s b h n) (j : Nat) (hj : j < 64) (x : UInt8) : SumIs (w.setCell ⟨g, 8 + j, none⟩ (bv x)) g s (b.set j x) h n := by
  have hl := H.len8
  have hb := H.len
  refine ⟨?_, by rw [List.length_set]; exact hb, hl⟩
  rw [block_set H.blk]
  simp only [sumL, List.setIfInBounds_toArray]
  rw [List.set_append_right _ _ (by rw [List.length_map]; omega), List.length_map, hl, Nat.add_sub_cancel_left, List.set_append_left _ _ (by rw [List.length_map]; omega), List.map_set]
theorem SumIs.set_st (H : SumIs w g s b h n) (i : Nat) (hi : i < 8) (x : UInt32) : SumIs (w.setCell ⟨g, i, none⟩ (.int .u32 (x.toNat : Int))) g (s.set i x) b h n := by
  have hl := H.len8
  have hb := H.len
  refine ⟨?_, hb, by rw [List.length_set]; exact hl⟩
  rw [block_set H.blk]
  simp only [sumL, List.setIfInBounds_toArray]
  rw [List.set_append_left _ _ (by rw [List.length_map]; omega), List.map_set]
  rfl
theorem SumIs.set_hd (H : SumIs w g s b h n) (m : Nat) : SumIs (w.setCell ⟨g, 72, none⟩ (.int .i64 m)) g s b m n := by
  have hl := H.len8
  have hb := H.len
  refine ⟨?_, hb, hl⟩
  rw [block_set H.blk]
  simp only [sumL, List.setIfInBounds_toArray]
  rw [List.set_append_right _ _ (by rw [List.length_map]; omega), List.length_map, hl, List.set_append_right _ _ (by rw [List.length_map]; omega), List.length_map, hb]
  rfl
theorem SumIs.set_ct (H : SumIs w g s b h n) (m : Nat) : SumIs (w.setCell ⟨g, 73, none⟩ (.int .u64 m)) g s b h m := by
  have hl := H.len8
  have hb := H.len
  refine ⟨?_, hb, hl⟩
  rw [block_set H.blk]
  simp only [sumL, List.setIfInBounds_toArray]
  rw [List.set_append_right _ _ (by rw [List.length_map]; omega), List.length_map, hl, List.set_append_right _ _ (by rw [List.length_map]; omega), List.length_map, hb]
  rfl
theorem SumIs.drewN (H : SumIs w g s b h n) (k : Nat) : SumIs (w.drewN k) g s b h n := ⟨H.blk, H.len, H.len8⟩
theorem SumIs.bel {w' : World} (H : SumIs w g s b h n) (hb : Below w.heap.size w w') : SumIs w' g s b h n := ⟨(hb.block _ (block_lt H.blk)).trans H.blk, H.len, H.len8⟩
theorem SumIs.fr (H : SumIs w g s b h n) (i : Nat) : w.frozen? ⟨g, i, none⟩ = false := block_frozen H.blk i
end


/-! ### the sum's cells, laid over -/
theorem sumL_len (s : List UInt32) (b : List UInt8) (h n : Nat) (hl : s.length = 8) (hb : b.length = 64) : (sumL s b h n).length = 74 := by
  simp [sumL, hl, hb]
theorem sumL_splice (s : List UInt32) (b x : List UInt8) (h n : Nat) (hl : s.length = 8) (hb : b.length = 64) (hx : h + x.length ≤ 64) : splice (sumL s b h n) (8 + h) (x.map bv) = sumL s (splice b h x) h n := by
  unfold splice sumL
  rw [List.take_append, List.length_map, hl, Nat.add_sub_cancel_left, List.take_of_length_le (by rw [List.length_map]; omega)]
  rw [List.take_append_of_le_length (by rw [List.length_map]; omega)]
  rw [List.length_map, List.drop_append, List.length_map, hl, show 8 + h + x.length - 8 = h + x.length by omega, List.drop_eq_nil_of_le (by rw [List.length_map]; omega), List.nil_append]
  rw [List.drop_append_of_le_length (by rw [List.length_map]; omega)]
  simp [List.append_assoc]

/-! ### the words of a block, as the package sha lays them -/
theorem or8_bits (x : UInt32) (y : UInt8) : bits .or .u32 ((x.toNat : Int) * 256 % 4294967296) (y.toNat : Int) = ((adb (m256 x) y).toNat : Int) := by
  have hx := x.toNat_lt
  have hy := y.toNat_lt
  have e2 : (x.toNat : Int) * 256 % 4294967296 = ((x.toNat * 256 % 4294967296 : Nat) : Int) := by simp
  rw [e2, u32_or_nat _ _ (Nat.mod_lt _ (by decide)) (by omega)]
  have h1 : x.toNat * 256 % 4294967296 = (x.toNat % 16777216) <<< 8 := by rw [Nat.shiftLeft_eq]; omega
  rw [h1, ← Nat.shiftLeft_add_eq_or_of_lt (show y.toNat < 2 ^ 8 by omega), ← h1]
  rw [← adb_mod, ← m256_mod]
  omega
def wd1 (b : List UInt8) : Nat → List UInt32
  | 0 => List.replicate 64 0
  | i + 1 => (wd1 b i).set (i / 4) (adb (m256 ((wd1 b i).getD (i / 4) 0)) (b.getD i 0))
theorem wd1_len (b : List UInt8) (i : Nat) : (wd1 b i).length = 64 := by
  induction i with
  | zero => simp [wd1]
  | succ i ih => simp [wd1, ih]
theorem wd1_part (b : List UInt8) (hb : b.length = 64) (t : Nat) (ht : t < 16) (h0 : wd1 b (4 * t) = sch1 b t) : ∀ i : Nat, i ≤ 4 → wd1 b (4 * t + i) = (sch1 b t).set t (w32 ((b.drop (4 * t)).take i)) := by
  intro i
  induction i with
  | zero => intro _; rw [Nat.add_zero, h0, List.take_zero, show w32 [] = 0 from rfl, sch1_set0 _ _ (by omega)]
  | succ i ih =>
    intro hi
    rw [show 4 * t + (i + 1) = (4 * t + i) + 1 by omega, wd1, ih (by omega), show (4 * t + i) / 4 = t by omega, List.set_set]
    rw [take_drop_succ b t i (by omega), w32_snoc]
    have e1 : ((sch1 b t).set t (w32 ((b.drop (4 * t)).take i))).getD t 0 = w32 ((b.drop (4 * t)).take i) := by
      rw [List.getD_eq_getElem?_getD, List.getElem?_set_self (by rw [sch1_len]; omega)]
      rfl
    have e2 : b.getD (4 * t + i) 0 = b[4 * t + i]'(by omega) := by rw [List.getD_eq_getElem?_getD, List.getElem?_eq_getElem (by omega)]; rfl
    rw [e1, e2]
theorem wd1_sch (b : List UInt8) (hb : b.length = 64) : ∀ t : Nat, t ≤ 16 → wd1 b (4 * t) = sch1 b t := by
  intro t
  induction t with
  | zero => intro _; rfl
  | succ t ih =>
    intro ht
    rw [show 4 * (t + 1) = 4 * t + 4 by omega, wd1_part b hb t (by omega) (ih (by omega)) 4 (Nat.le_refl _)]
    rfl

/-! ### an array read whole out of a greater block -/
section
variable {P : Program}
theorem run_loadVar_part (w : World) (g off : Nat) (ty : TypeId) (cs : List Value) (d : TypeDesc) (hg : ∀ j v, cs[j]? = some v → w.cell? ⟨g, off + j, none⟩ = some v)
    (hu : P.underlying ty = some d) (hd : (match d with | .struct _ | .array _ _ => true | _ => false) = true) (hi : (P.info? ty).map (·.size) = some cs.length) :
    (loadVar ty ⟨g, off, none⟩).run P w = .ok (.agg cs.toArray) w := by
  have hl : (loadCells ⟨g, off, none⟩ cs.length).run P w = .ok cs.toArray w :=
    run_loadCells_list (P := P) w ⟨g, off, none⟩ cs (fun j v hv => by
      have hadd : (⟨g, off, none⟩ : Addr).add j = ⟨g, off + j, none⟩ := by unfold Addr.add; split <;> simp_all
      rw [hadd]
      exact hg j v hv)
  cases hq : P.info? ty with
  | none => simp [hq] at hi
  | some i =>
    have hs : i.size = cs.length := by simpa [hq] using hi
    have hagg : (isAgg ty).run P w = .ok true w := by
      unfold isAgg
      rw [Sem.run_bind, run_underlying hu w]
      cases d <;> simp_all
    simp [loadVar, Sem.run_bind, hagg, sizeOf, typeInfo, hq, hs, hl]
theorem wpList_load_part {ops : Array Oper} {rest : List Oper} {o : Oper} {a : Act} {w : World} {Q : Exit → Act → World → Prop} (hgd : o.guard = none) (ty : TypeId) (x : Operand) (ho : o.op = .load ty x)
    (g off : Nat) (hx : a.eval x = .pointer (some ⟨g, off, none⟩)) (cs : List Value) (d : TypeDesc) (hg : ∀ j v, cs[j]? = some v → w.cell? ⟨g, off + j, none⟩ = some v)
    (hu : P.underlying ty = some d) (hd : (match d with | .struct _ | .array _ _ => true | _ => false) = true) (hi : (P.info? ty).map (·.size) = some cs.length)
    (h : wpList P ops Q rest (a.put o.dst (.agg cs.toArray)) w) : wpList P ops Q (o :: rest) a w :=
  wpList_plain hgd fun _ hK => by
    unfold Oper.wp execOp
    simp only [ho, hx, Instr.loadAt, Instr.sureAddr, Sem.run_bind, Sem.run_pure, Result.andThen_ok, run_loadVar_part w g off ty cs d hg hu hd hi]
    exact hK _ _ h
end
end Go.Proofs.YtliahdlllmnkkaaDoor
