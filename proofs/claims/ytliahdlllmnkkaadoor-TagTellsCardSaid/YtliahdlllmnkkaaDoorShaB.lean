/-
  The landed package sha: a new sum; the words of its block.
-/
import Derived.Test.YtliahdlllmnkkaaDoorShaA
import Derived.Test.YtliahdlllmnkkaaDoorTxt
namespace Go.Proofs.YtliahdlllmnkkaaDoor
open Go.RowKit
set_option linter.unusedVariables false

def s00 : S8 := ⟨0, 0, 0, 0, 0, 0, 0, 0⟩
def zsum : Array Value := (sumL s00.list (List.replicate 64 0) 0 0).toArray
def nsum : Array Value := (sumL S0.list (List.replicate 64 0) 0 0).toArray
theorem infoSum : (Tryd.prog.info? 51).map (fun i => (i.zero, i.size)) = some (some (.agg zsum), zsum.size) := by kernel_rfl
theorem sizeSum : (Tryd.prog.info? 51).map (·.size) = some 74 := by kernel_rfl
theorem sizeU8 : (Tryd.prog.info? 5).map (·.size) = some 1 := by kernel_rfl
theorem sizeBlk : (Tryd.prog.info? 48).map (·.size) = some 64 := by kernel_rfl

set_option maxRecDepth 100000 in
theorem newSum_any (w : World) : Calls Tryd.prog 22 #[] w fun r w' => r = .returned (.agg nsum) ∧ Below w.heap.size w w' := by
  have hz : ∀ w, (zeroValue 51).run Tryd.prog w = .ok (.agg zsum) w := fun w => by
    have h := infoSum
    cases hq : Tryd.prog.info? 51 with
    | none => rw [hq] at h; cases h
    | some i =>
      rw [hq] at h
      simp only [Option.map_some, Option.some.injEq, Prod.mk.injEq] at h
      simp [zeroValue, typeInfo, hq, h.1]
  have hzs : zsum.size = 74 := by decide +kernel
  go_enter Tryd.func22, Tryd.ntmps22
  go_wp2_with (first
    | (with_reducible refine wpList_alloc_row rfl 51 rfl zsum infoSum ?_)
    | ((with_reducible refine wpList_store_row rfl 51 (.tmp 0) (.tmp 2) rfl w.heap.size nsum rfl ?_ 51 zsum ?_ ?_ ?_ ?_ ?_); rfl; exact heap_alloc_new w _; exact sizeSum; decide +kernel; decide +kernel; intro w1 hg1 hb1 hs1))
  refine bodyPost_ret (v := .agg nsum) ?_ rfl ⟨rfl, ?_⟩
  · exact results_cell_row Tryd.results22 _ _ w.heap.size 51 _ (0, 0) _ rfl hg1 Tryd.underlying51 rfl sizeSum
  · exact ((ext_alloc w _).grown hb1 (by simp) (by simp))

theorem turned_i (x : UInt32) (ni : Int) (w : World) (h1 : 1 ≤ ni) (h2 : ni ≤ 31) :
    Calls Tryd.prog 48 #[.int .u32 (x.toNat : Int), .int .i64 ni] w fun e w' => e = .returned (.int .u32 ((rotr x ni.toNat).toNat : Int)) ∧ w = w' :=
  turned_any x ni.toNat ni w (by omega) (by omega) (by omega)

set_option maxRecDepth 100000 in
set_option maxHeartbeats 1600000 in
theorem wordsOf_any (g : Nat) (s : List UInt32) (b : List UInt8) (h n : Nat) (w : World) (H : SumIs w g s b h n) :
    Calls Tryd.prog 47 #[.pointer (some ⟨g, 0, none⟩)] w fun r w' => r = .returned (.agg (wvs (sched b))) ∧ Below w.heap.size w w' := by
  have hb64 := H.len
  have hbl (w' : World) (hb : Below w.heap.size w w') : ∀ j v, (b.map bv)[j]? = some v → w'.cell? ⟨g, 8 + j, none⟩ = some v := by
    intro j v hv
    have hj : j < 64 := by have := (List.getElem?_eq_some_iff.1 hv).1; simpa [hb64] using this
    rw [(H.bel hb).bl j hj, ← hv, List.getElem?_map, List.getElem?_eq_getElem (by omega), List.getD_eq_getElem?_getD, List.getElem?_eq_getElem (by omega)]
    rfl
  have Hb := hid (hbl _ (ext_alloc (w.alloc (.cells z64 67)) (.cells z64 67) |> fun h => (ext_alloc w _).trans (h.mono (by simp))))
  have Hl := hid hb64
  clear hbl H hb64
  go_enter Tryd.func47, Tryd.ntmps47
  go_wp2_with (first
    | (with_reducible refine wpList_alloc_row rfl 67 rfl z64 info64 ?_)
    | ((with_reducible refine wpList_load_part rfl 48 (.tmp 13) rfl g 8 ?_ (b.map bv) _ ?_ Tryd.underlying48 rfl ?_ ?_); rfl; exact Hb.out; (rw [List.length_map, Hl.out]; exact sizeBlk)))
  go_loopw [15] (fun v wr => ∃ i : Nat, i ≤ 64 ∧ v = .int .i64 i ∧ SI w wr (wd1 b i)) (fun v _ => 64 - (intOf v).toNat)
  case atStart => exact ⟨0, Nat.zero_le _, rfl, SI.new w⟩
  case round =>
    obtain ⟨i, hi, rfl, hs⟩ := hrel
    by_cases hlt : i < 64
    · have hq : i < (b.map bv).length := by rw [List.length_map, Hl.out]; omega
      have hi4 : i / 4 < 64 := by omega
      have hx : wr.cell? ⟨w.heap.size + 1, i / 4, none⟩ = some (.int .u32 (((wd1 b i).getD (i / 4) 0).toNat : Int)) := by
        rw [wblock_cell hs.cur (i / 4) (by rw [wd1_len]; omega), get_getD _ _ (by rw [wd1_len]; omega)]
      have hf := block_frozen hs.cur (i / 4)
      have E := hid (show wd1 b (i + 1) = (wd1 b i).set (i / 4) (adb (m256 ((wd1 b i).getD (i / 4) 0)) (b.getD i 0)) from rfl)
      have hv : (b.map bv).toArray[i]? = some (.int .u8 ((b.getD i 0).toNat : Int)) := by
        rw [List.getElem?_toArray, List.getElem?_map, List.getElem?_eq_getElem (by rw [Hl.out]; omega), List.getD_eq_getElem?_getD, List.getElem?_eq_getElem (by rw [Hl.out]; omega)]
        rfl
      have hsz : (b.map bv).toArray.size = 64 := by simp [Hl.out]
      generalize (wd1 b i).getD (i / 4) 0 = x at *
      generalize b.getD i 0 = y at *
      generalize (b.map bv).toArray = bs at *
      have hix : (Instr.index 48 (.agg bs) (.int .i64 (i : Int))).run Tryd.prog wr = .ok (.int .u8 (y.toNat : Int)) wr := run_index_arr _ _ _ _ _ _ _ _ Tryd.underlying48 Tryd.underlying5 sizeU8 hlt hv
      have Hs := hid hs
      clear hs hq hv hsz
      have ob := or8_bits x y
      have i4 : (i : Int).tdiv 4 = ((i / 4 : Nat) : Int) := by rw [Int.tdiv_eq_ediv_of_nonneg (by omega)]; omega
      have f1 : IntKind.i64.wrap ((i : Int)) = (i : Int) := IntWalk.i64_in _ (by omega)
      have j1 : (i : Int) < 64 := by omega
      have ym : (y.toNat : Int) % 4294967296 = (y.toNat : Int) := by have := y.toNat_lt; omega
      go_wp2
      go_roundw
      case rel =>
        refine ⟨i + 1, by omega, by go_num, ?_⟩
        rw [E.out]
        exact Hs.out.set (i / 4) _
      case measure => simp [intOf]; omega
    · have Ht : Hid (i = 64) := by show i = 64; omega
      rw [Ht.out, show (64 : Nat) = 4 * 16 from rfl, wd1_sch b Hl.out 16 (Nat.le_refl _)] at hs
      have Hs := hid hs
      have i64 : (64 : Int) ≤ i := by omega
      clear hs
      go_wp2
      go_loopw [6] (fun v wr => ∃ i : Nat, i ≤ 48 ∧ v = .int .i64 ((i : Int) + 16) ∧ SI w wr (sch2 b i)) (fun v _ => 64 - (intOf v).toNat)
      case atStart => exact ⟨0, Nat.zero_le _, rfl, Hs.out⟩
      case round =>
        clear hi hlt Ht i64
        obtain ⟨i, hi, rfl, hsi⟩ := hrel
        by_cases hli : i < 48
        · as_aux_lemma =>
          have h64 := sch2_len b i
          have hc (j : Nat) (hj : j < 64) : wr.cell? ⟨w.heap.size + 1, j, none⟩ = some (.int .u32 (((sch2 b i).getD j 0).toNat : Int)) := by
            rw [wblock_cell hsi.cur j (by omega), get_getD _ _ (by omega)]
          have c0 := hc i (by omega)
          have c1 := hc (i + 1) (by omega)
          have c9 := hc (i + 9) (by omega)
          have c14 := hc (i + 14) (by omega)
          have c16 := hc (i + 16) (by omega)
          have hf := block_frozen hsi.cur (i + 16)
          have E := hid (show sch2 b (i + 1) = (sch2 b i).set (i + 16) (ad (ad (ad ((sch2 b i).getD i 0) (s0 ((sch2 b i).getD (i + 1) 0))) ((sch2 b i).getD (i + 9) 0)) (s1 ((sch2 b i).getD (i + 14) 0))) from rfl)
          have Hsi := hid hsi
          clear hsi hc h64
          generalize (sch2 b i).getD i 0 = x0 at *
          generalize (sch2 b i).getD (i + 1) 0 = x1 at *
          generalize (sch2 b i).getD (i + 9) 0 = x9 at *
          generalize (sch2 b i).getD (i + 14) 0 = x14 at *
          generalize (sch2 b i).getD (i + 16) 0 = x16 at *
          have am := add_mod
          have xb := xor_bits
          have sd3 : ∀ x : UInt32, (x.toNat : Int) / 8 = ((shr x 3).toNat : Int) := fun x => by have := shr_div x 3; simpa using this
          have sd10 : ∀ x : UInt32, (x.toNat : Int) / 1024 = ((shr x 10).toNat : Int) := fun x => by have := shr_div x 10; simpa using this
          have f1 : IntKind.i64.wrap ((i : Int) + 16 - 15) = (i : Int) + 16 - 15 := IntWalk.i64_in _ (by omega)
          have g1 : ((i : Int) + 16 - 15).toNat = i + 1 := by omega
          have f2 : IntKind.i64.wrap ((i : Int) + 16 - 2) = (i : Int) + 16 - 2 := IntWalk.i64_in _ (by omega)
          have g2 : ((i : Int) + 16 - 2).toNat = i + 14 := by omega
          have f3 : IntKind.i64.wrap (i : Int) = (i : Int) := IntWalk.i64_in _ (by omega)
          have b3 : (i : Int) < 64 := by omega
          have b4 : (i : Int) + 16 - 7 < 64 := by omega
          have b6 : (0 : Int) ≤ (i : Int) + 16 - 7 := by omega
          have b7 : (7 : Int) ≤ (i : Int) + 16 := by omega
          have b8 : (i : Int) + 16 < 71 := by omega
          have b11 : (0 : Int) ≤ (i : Int) + 16 := by omega
          have b12 : (i : Int) < 48 := by omega
          have b9 : decide ((0 : Int) ≤ (i : Int) + 16 - 7) = true := by rw [decide_eq_true_iff]; omega
          have b10 : decide ((i : Int) + 16 - 7 < 64) = true := by rw [decide_eq_true_iff]; omega
          have f4 : IntKind.i64.wrap ((i : Int) + 16 - 7) = (i : Int) + 16 - 7 := IntWalk.i64_in _ (by omega)
          have g4 : ((i : Int) + 16 - 7).toNat = i + 9 := by omega
          have g5 : ((i : Int) + 16).toNat = i + 16 := by omega
          have b5 : (i : Int) + 16 < 64 := by omega
          go_wp2
          go_quiet (fail)
          go_wp2_with (go_at_call 48; refine (turned_i _ _ _ (by omega) (by omega)).mono ?_; rintro e' w' ⟨rfl, rfl⟩)
          go_region_held3 (fun w' => w'.cell? ⟨w.heap.size + 1, i, none⟩ = some (.int .u32 (x0.toNat : Int)) ∧ w'.cell? ⟨w.heap.size + 1, i + 9, none⟩ = some (.int .u32 (x9.toNat : Int))) (first | go_keep | (simp [*, World.cell?_setCell_other])) (fail)
          go_wp2
          go_roundw
          case rel =>
            refine ⟨i + 1, by omega, by go_num, ?_⟩
            rw [E.out, add_mod, add_mod, add_mod]
            exact (Hsi.out.drewN _).set (i + 16) _
          case measure => simp [intOf]; omega
        · obtain rfl : i = 48 := by omega
          have Hsi := hid hsi
          have hcur := hid hsi.cur
          have hres := hid hsi.res
          clear hsi
          go_wp2_with (first
            | ((with_reducible refine wpList_load_row rfl 67 (.tmp 3) rfl (w.heap.size + 1) rfl 67 (wvs (sch2 b 48)) (0, 0) _ ?_ Tryd.underlying67 rfl ?_ ?_); exact hcur.out; (rw [wvs_size, sch2_len]; exact size64))
            | ((with_reducible refine wpList_store_row rfl 67 (.tmp 2) (.tmp 74) rfl w.heap.size _ rfl rfl 67 z64 ?_ ?_ ?_ ?_ ?_); exact hres.out; (rw [wvs_size, sch2_len]; exact size64); (rw [wvs_size, sch2_len]; exact z64_size); exact wvs_one _; intro w1 hg1 hb1 hs1))
          refine bodyPost_ret (v := .agg (wvs (sched b))) ?_ rfl ⟨rfl, ?_⟩
          · exact results_cell_row Tryd.results47 _ _ w.heap.size 67 _ (0, 0) _ rfl hg1 Tryd.underlying67 rfl (by rw [wvs_size]; show _ = some (sch2 b 48).length; rw [sch2_len]; exact size64)
          · exact Hsi.out.below.grown hb1 Hsi.out.below.size (by simp)
end Go.Proofs.YtliahdlllmnkkaaDoor
