/-
  The document's schedule of a block's words.
-/
import Derived.Test.YtliahdlllmnkkaaDoorRef02
import Derived.RegionTactic
import Derived.BigRegion
import Derived.Deep.RegionHeld3
namespace Go.Proofs.YtliahdlllmnkkaaDoor
open Go.RowKit
set_option linter.unusedVariables false

/-- What the schedule's loops keep: old memory; the result's block; the words so far. -/
structure SI (w wr : World) (ws : List UInt32) : Prop where
  below : Below w.heap.size w wr
  res : wr.heap[w.heap.size]? = some (.cells z64 67 (0, 0))
  cur : wr.heap[w.heap.size + 1]? = some (.cells (wvs ws) 67 (0, 0))
theorem SI.drewN {w wr : World} {ws : List UInt32} (h : SI w wr ws) (k : Nat) : SI w (wr.drewN k) ws := ⟨below_drewN h.below k, h.res, h.cur⟩
theorem SI.set {w wr : World} {ws : List UInt32} (h : SI w wr ws) (i : Nat) (x : UInt32) : SI w (wr.setCell ⟨w.heap.size + 1, i, none⟩ (.int .u32 (x.toNat : Int))) (ws.set i x) :=
  ⟨h.below.setCell (by simp) _, (Below.heap_setCell _ _ _ _ (by simp)).trans h.res, wblock_set h.cur i x⟩
theorem SI.new (w : World) : SI w ((w.alloc (.cells z64 67)).alloc (.cells z64 67)) (List.replicate 64 0) :=
  ⟨(ext_alloc w _).alloc (by simp) _, (Below.heap_alloc _ _ _ (by simp)).trans (heap_alloc_new w _), by
    have e : (w.alloc (.cells z64 67)).heap.size = w.heap.size + 1 := by simp
    rw [← e]
    exact heap_alloc_new (w.alloc (.cells z64 67)) (.cells z64 67)⟩

theorem take_drop_succ (l : List UInt8) (t i : Nat) (h : 4 * t + i < l.length) : (l.drop (4 * t)).take (i + 1) = (l.drop (4 * t)).take i ++ [l[4 * t + i]] := by
  rw [List.take_succ_eq_append_getElem (by simp; omega)]
  simp

set_option maxRecDepth 100000 in
set_option maxHeartbeats 3200000 in
theorem schedule_any (A : Option Addr) (c n : Nat) (l : List UInt8) (w : World) (hr : Rd w A l) (hn : n = l.length) (hl : l.length = 64) :
    Calls Tryd.prog 39 #[.slice A n c] w fun r w' => r = .returned (.agg (wvs (sched l))) ∧ Below w.heap.size w w' := by
  subst hn
  obtain ⟨b, o, rfl, hcell⟩ := rd_cell hr (by omega)
  have hblt : b < w.heap.size := World.block_lt_of_cell? _ _ (hcell 0 (by omega))
  have Hcell := hid hcell
  have Hl := hid hl
  rw [hl]
  clear hr hcell hl
  go_enter Tryd.func39, Tryd.ntmps39
  go_wp2_with (first
    | (with_reducible refine wpList_alloc_row rfl 67 rfl z64 info64 ?_))
  go_loopw [4] (fun v wr => ∃ t : Nat, t ≤ 16 ∧ v = .int .i64 t ∧ SI w wr (sch1 l t)) (fun v _ => 16 - (intOf v).toNat)
  case atStart => exact ⟨0, Nat.zero_le _, rfl, SI.new w⟩
  case round =>
    obtain ⟨t, ht, rfl, hs⟩ := hrel
    have Hs := hid hs
    clear hs
    obtain ⟨wo, rfl⟩ : ∃ wo : World, wo = wr := ⟨_, rfl⟩
    by_cases hlt : t < 16
    · go_wp2
      go_loopw [5] (fun v wr => ∃ i : Nat, i ≤ 4 ∧ v = .int .i64 i ∧ SI w wr ((sch1 l t).set t (w32 ((l.drop (4 * t)).take i)))) (fun v _ => 4 - (intOf v).toNat)
      case atStart => exact ⟨0, Nat.zero_le _, rfl, by rw [List.take_zero, show w32 [] = 0 from rfl, sch1_set0 _ _ (by omega)]; exact Hs.out⟩
      case round =>
        obtain ⟨i, hi, rfl, hsi⟩ := hrel
        by_cases hli : i < 4
        · have hq : 4 * t + i < l.length := by rw [Hl.out]; omega
          have hx := wblock_cell hsi.cur t (by simp [sch1_len]; omega)
          rw [List.getElem_set_self] at hx
          have hy := (hsi.below.cell (p := ⟨b, o + (4 * t + i), none⟩) hblt).trans (Hcell.out _ hq)
          have hf := block_frozen hsi.cur t
          have e1 := hid (take_drop_succ l t i hq)
          generalize l[4 * t + i] = y at *
          generalize (l.drop (4 * t)).take i = u at *
          have Hsi := hid hsi
          clear hsi hq
          have a1 := m256_mod
          have a2 := adb_mod
          have f1 : IntKind.i64.wrap (4 * (t : Int)) = 4 * (t : Int) := IntWalk.i64_in _ (by omega)
          have f2 : IntKind.i64.wrap (4 * (t : Int) + (i : Int)) = 4 * (t : Int) + (i : Int) := IntWalk.i64_in _ (by omega)
          have f3 : (4 * (t : Int) + (i : Int)).toNat = 4 * t + i := by omega
          go_wp2
          go_region
          go_wp2
          go_roundw
          case rel =>
            refine ⟨i + 1, by omega, by go_num, ?_⟩
            rw [e1.out, w32_snoc]
            have h := (Hsi.out.drewN 1).set t (adb (m256 (w32 u)) y)
            rw [List.set_set] at h
            exact h
          case measure => simp [intOf]; omega
        · obtain rfl : i = 4 := by omega
          have Hsi := hid hsi
          clear hsi
          go_wp2
          go_roundw
          case rel => exact ⟨t + 1, by omega, by go_num, Hsi.out⟩
          case measure => simp [intOf]; omega
    · have Ht : Hid (t = 16) := by show t = 16; omega
      have Hs2 : Hid (SI w wo (sch1 l 16)) := by rw [← Ht.out]; exact Hs.out
      clear Hs
      go_wp2
      go_loopw [6] (fun v wr => ∃ i : Nat, i ≤ 48 ∧ v = .int .i64 ((i : Int) + 16) ∧ SI w wr (sch2 l i)) (fun v _ => 64 - (intOf v).toNat)
      case atStart => exact ⟨0, Nat.zero_le _, rfl, Hs2.out⟩
      case round =>
        obtain ⟨i, hi, rfl, hsi⟩ := hrel
        by_cases hli : i < 48
        · have h64 := sch2_len l i
          have hc (j : Nat) (hj : j < 64) : wr.cell? ⟨w.heap.size + 1, j, none⟩ = some (.int .u32 (((sch2 l i).getD j 0).toNat : Int)) := by
            rw [wblock_cell hsi.cur j (by omega)]
            congr 4
            rw [List.getD_eq_getElem?_getD, List.getElem?_eq_getElem (by omega)]
            rfl
          have c0 := hc i (by omega)
          have c1 := hc (i + 1) (by omega)
          have c9 := hc (i + 9) (by omega)
          have c14 := hc (i + 14) (by omega)
          have c16 := hc (i + 16) (by omega)
          have hf := block_frozen hsi.cur (i + 16)
          have E := hid (show sch2 l (i + 1) = (sch2 l i).set (i + 16) (ad (ad (ad ((sch2 l i).getD i 0) (s0 ((sch2 l i).getD (i + 1) 0))) ((sch2 l i).getD (i + 9) 0)) (s1 ((sch2 l i).getD (i + 14) 0))) from rfl)
          have Hsi := hid hsi
          clear hsi hc h64
          generalize (sch2 l i).getD i 0 = x0 at *
          generalize (sch2 l i).getD (i + 1) 0 = x1 at *
          generalize (sch2 l i).getD (i + 9) 0 = x9 at *
          generalize (sch2 l i).getD (i + 14) 0 = x14 at *
          generalize (sch2 l i).getD (i + 16) 0 = x16 at *
          have am := add_mod
          have xb := xor_bits
          have sd3 : ∀ x : UInt32, (x.toNat : Int) / 8 = ((shr x 3).toNat : Int) := fun x => by have := shr_div x 3; simpa using this
          have sd10 : ∀ x : UInt32, (x.toNat : Int) / 1024 = ((shr x 10).toNat : Int) := fun x => by have := shr_div x 10; simpa using this
          have f1 : IntKind.i64.wrap ((i : Int) + 16 - 15) = (i : Int) + 16 - 15 := IntWalk.i64_in _ (by omega)
          have g1 : ((i : Int) + 16 - 15).toNat = i + 1 := by omega
          have f2 : IntKind.i64.wrap ((i : Int) + 16 - 2) = (i : Int) + 16 - 2 := IntWalk.i64_in _ (by omega)
          have g2 : ((i : Int) + 16 - 2).toNat = i + 14 := by omega
          have f3 : IntKind.i64.wrap (i : Int) = (i : Int) := IntWalk.i64_in _ (by omega)
          have b3 : (i : Int) < 64 := by omega
          have b4 : (i : Int) + 16 - 7 < 64 := by omega
          have b6 : (0 : Int) ≤ (i : Int) + 16 - 7 := by omega
          have b7 : (7 : Int) ≤ (i : Int) + 16 := by omega
          have b8 : (i : Int) + 16 < 71 := by omega
          have b11 : (0 : Int) ≤ (i : Int) + 16 := by omega
          have b12 : (i : Int) < 48 := by omega
          have b9 : decide ((0 : Int) ≤ (i : Int) + 16 - 7) = true := by rw [decide_eq_true_iff]; omega
          have b10 : decide ((i : Int) + 16 - 7 < 64) = true := by rw [decide_eq_true_iff]; omega
          have f4 : IntKind.i64.wrap ((i : Int) + 16 - 7) = (i : Int) + 16 - 7 := IntWalk.i64_in _ (by omega)
          have g4 : ((i : Int) + 16 - 7).toNat = i + 9 := by omega
          have g5 : ((i : Int) + 16).toNat = i + 16 := by omega
          have b5 : (i : Int) + 16 < 64 := by omega
          go_wp2
          go_quiet (fail)
          go_wp2_with fail
          go_region_held3 (fun w' => w'.cell? ⟨w.heap.size + 1, i, none⟩ = some (.int .u32 (x0.toNat : Int)) ∧ w'.cell? ⟨w.heap.size + 1, i + 9, none⟩ = some (.int .u32 (x9.toNat : Int))) (first | go_keep | (simp [*, World.cell?_setCell_other])) (first | (go_at_call 46; refine (turn_i _ _ _ ?_ ?_).mono ?_; omega; omega; rintro e' w' ⟨rfl, rfl⟩))
          go_wp2
          go_roundw
          case rel =>
            refine ⟨i + 1, by omega, by go_num, ?_⟩
            rw [E.out, add_mod, add_mod, add_mod]
            exact (Hsi.out.drewN _).set (i + 16) _
          case measure => simp [intOf]; omega
        · obtain rfl : i = 48 := by omega
          have Hsi := hid hsi
          have hcur := hid hsi.cur
          have hres := hid hsi.res
          clear hsi
          go_wp2_with (first
            | ((with_reducible refine wpList_load_row rfl 67 (.tmp 3) rfl (w.heap.size + 1) rfl 67 (wvs (sch2 l 48)) (0, 0) _ ?_ Tryd.underlying67 rfl ?_ ?_); exact hcur.out; (rw [wvs_size, sch2_len]; exact size64))
            | ((with_reducible refine wpList_store_row rfl 67 (.tmp 2) (.tmp 73) rfl w.heap.size _ rfl rfl 67 z64 ?_ ?_ ?_ ?_ ?_); exact hres.out; (rw [wvs_size, sch2_len]; exact size64); (rw [wvs_size, sch2_len]; exact z64_size); exact wvs_one _; intro w1 hg1 hb1 hs1))
          refine bodyPost_ret (v := .agg (wvs (sched l))) ?_ rfl ⟨rfl, ?_⟩
          · exact results_cell_row Tryd.results39 _ _ w.heap.size 67 _ (0, 0) _ rfl hg1 Tryd.underlying67 rfl (by rw [wvs_size]; show _ = some (sch2 l 48).length; rw [sch2_len]; exact size64)
          · exact Hsi.out.below.grown hb1 Hsi.out.below.size (by simp)
end Go.Proofs.YtliahdlllmnkkaaDoor
