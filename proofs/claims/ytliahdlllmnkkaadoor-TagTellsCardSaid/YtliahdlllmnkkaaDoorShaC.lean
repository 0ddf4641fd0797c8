/-
  The landed package sha: a block is turned into the state.
-/
import Derived.Test.YtliahdlllmnkkaaDoorShaB
namespace Go.Proofs.YtliahdlllmnkkaaDoor
open Go.RowKit
set_option linter.unusedVariables false

theorem sizeW : (Tryd.prog.info? 46).map (·.size) = some 1 := by kernel_rfl
/-- The table k stands in its variable. -/
def Tab (w : World) : Prop := ∀ i : Nat, i < 64 → w.cell? ⟨1, i, none⟩ = some (.int .u32 ((Kw.getD i 0).toNat : Int))
theorem Tab.bel {w w' : World} {g : Nat} (h : Tab w) (hb : Below g w w') (hg : 1 < g) : Tab w' := fun i hi => (hb.cell (p := ⟨1, i, none⟩) hg).trans (h i hi)
theorem Tab.low {w : World} (h : Tab w) : 1 < w.heap.size := World.block_lt_of_cell? _ _ (h 0 (by omega))

theorem not_bits (x : UInt32) : bits .xor .u32 (if IntKind.u32.signed = true then -1 else IntKind.u32.max) (x.toNat : Int) = ((no x).toNat : Int) := by
  have h : (if IntKind.u32.signed = true then -1 else IntKind.u32.max) = (((4294967295 : UInt32).toNat : Nat) : Int) := by decide
  rw [h, xor_bits]
  congr 2

theorem turned_q (x : UInt32) (ni : Int) (w : World) (h1 : 1 ≤ ni) (h2 : ni ≤ 31) :
    Calls Tryd.prog 48 #[.int .u32 (x.toNat : Int), .int .i64 ni] w fun e w' => e = .returned (.int .u32 ((rotr x ni.toNat).toNat : Int)) ∧ w' = w :=
  (turned_i x ni w h1 h2).mono fun _ _ ⟨h, k⟩ => ⟨h, k.symm⟩

set_option maxRecDepth 100000 in
set_option maxHeartbeats 1000000 in
theorem turn_sum (g : Nat) (s : S8) (b : List UInt8) (h n : Nat) (w : World) (H : SumIs w g s.list b h n) (hT : Tab w) (hg : 1 < g) :
    Calls Tryd.prog 44 #[.pointer (some ⟨g, 0, none⟩)] w fun r w' => r = .returned (.tuple #[]) ∧ SumIs w' g (s.plus (s.rounds (sched b) 64)).list b h n ∧ Below g w w' := by
  have hsc : Hid ((sched b).length = 64) := sch2_len b 48
  obtain ⟨ws, hws⟩ : ∃ ws, ws = sched b := ⟨_, rfl⟩
  rw [← hws] at hsc ⊢
  replace hws := hid hws
  go_enter Tryd.func44, Tryd.ntmps44
  go_wp2_with fail
  refine (wordsOf_any g _ b h n _ H).mono ?_
  rintro e w1 ⟨rfl, hb1⟩
  rw [← hws.out]
  have hgl : g < w.heap.size := block_lt H.blk
  have hgl1 : g < w1.heap.size := Nat.lt_of_lt_of_le hgl hb1.size
  go_wp2_with (first
    | (with_reducible refine wpList_alloc_row rfl 67 rfl z64 info64 ?_)
    | ((with_reducible refine wpList_store_row rfl 67 (.tmp 2) (.tmp 17) rfl _ _ rfl rfl 67 z64 ?_ ?_ ?_ ?_ ?_); exact heap_alloc_new _ _; (rw [wvs_size, hsc.out]; exact size64); (rw [wvs_size, hsc.out]; exact z64_size); exact wvs_one _; intro w2 hg2 hb2 hs2; have B2 : Below w1.heap.size w1 w2 := (ext_alloc w1 _).grown hb2 (by simp) (fun k hk => by injection hk with hk; omega); have H2 := hid ((H.bel hb1).bel B2)
       have c0 := H2.out.st 0 (by omega); have c1 := H2.out.st 1 (by omega); have c2 := H2.out.st 2 (by omega); have c3 := H2.out.st 3 (by omega); have c4 := H2.out.st 4 (by omega); have c5 := H2.out.st 5 (by omega); have c6 := H2.out.st 6 (by omega); have c7 := H2.out.st 7 (by omega); simp only [S8.list, List.getD_cons_zero, List.getD_cons_succ] at c0 c1 c2 c3 c4 c5 c6 c7; replace hg2 := hid hg2; replace hs2 := hid hs2; replace hb2 := trivial))
  have C2 : Below g w w2 := (hb1.mono (by omega)).trans (B2.mono (by omega))
  have T2 := hT.bel C2 hg
  replace C2 := hid C2
  replace T2 := hid T2
  clear H hT B2 hb1
  go_quiet (fail)
  go_wp2
  go_quiet (fail)
  go_wp2
  have W2 : (w2.drewN (nq + nq)).heap = w2.heap := rfl
  go_loopw [3, 4, 5, 6, 7, 8, 9, 10, 58] (fun va vb vc vd ve vf vg vh v wr => ∃ t : Nat, t ≤ 64 ∧ v = .int .i64 t ∧ va = uv (s.rounds ws t).a ∧ vb = uv (s.rounds ws t).b ∧ vc = uv (s.rounds ws t).c ∧ vd = uv (s.rounds ws t).d ∧ ve = uv (s.rounds ws t).e ∧ vf = uv (s.rounds ws t).f ∧ vg = uv (s.rounds ws t).g ∧ vh = uv (s.rounds ws t).h ∧ Below w2.heap.size w2 wr) (fun _ _ _ _ _ _ _ _ v _ => 64 - (intOf v).toNat)
  case atStart => exact ⟨0, Nat.zero_le _, rfl, rfl, rfl, rfl, rfl, rfl, rfl, rfl, rfl, below_drewN (below_drewN (Below.refl _ _) _) _⟩
  case round =>
    obtain ⟨t, ht, rfl, rfl, rfl, rfl, rfl, rfl, rfl, rfl, rfl, hbt⟩ := hrel
    by_cases hlt : t < 64
    · as_aux_lemma =>
      have cK : wr.cell? ⟨1, t, none⟩ = some (.int .u32 ((Kw.getD t 0).toNat : Int)) := (hbt.cell (p := ⟨1, t, none⟩) (T2.out.low)).trans (T2.out t (by omega))
      have cW : wr.cell? ⟨w1.heap.size, t, none⟩ = some (.int .u32 ((ws.getD t 0).toNat : Int)) := by
        rw [← get_getD ws t (by rw [hsc.out]; omega)]
        exact wblock_cell ((hbt.block _ (block_lt hg2.out)).trans hg2.out) t (by rw [hsc.out]; omega)
      have E := hid (show s.rounds ws (t + 1) = (s.rounds ws t).round (Kw.getD t 0) (ws.getD t 0) from rfl)
      generalize Kw.getD t 0 = xk at *
      generalize ws.getD t 0 = xw at *
      generalize s.rounds ws t = v at *
      obtain ⟨a, b, c, d, e, f, g', h'⟩ := v
      unfold uv
      simp only
      have am := add_mod
      have nb := not_bits
      have xb := xor_bits
      have ab := and_bits
      have j1 : (t : Int) < 64 := by omega
      replace hbt := hid hbt
      clear c0 c1 c2 c3 c4 c5 c6 c7
      go_wp2
      go_quiet ((refine Calls.quiet_of_same (turned_q _ _ _ (by omega) (by omega))))
      go_wp2_with (go_at_call 48; refine (turned_i _ _ _ (by omega) (by omega)).mono ?_; rintro e' w' ⟨rfl, rfl⟩)
      go_roundw
      case rel =>
        refine ⟨t + 1, by omega, by go_num, ?_⟩
        rw [E.out]
        refine ⟨rfl, rfl, rfl, rfl, rfl, rfl, rfl, rfl, ?_⟩
        exact below_drewN hbt.out _
      case measure => simp [intOf]; omega
    · have Ht : Hid (t = 64) := by show t = 64; omega
      have Et : Hid (s.rounds ws t = s.rounds ws 64) := by show _ = _; rw [Ht.out]
      have t1 : (64 : Int) ≤ t := by omega
      generalize s.rounds ws t = v at *

      have Hw := hid (H2.out.bel hbt)
      have Cw := hid (C2.out.trans (hbt.mono (by have := H2.out.blk |> block_lt; omega)))
      clear c0 c1 c2 c3 c4 c5 c6 c7 H2 hbt
      unfold uv
      go_wp2_with fail
      obtain ⟨wp, rfl⟩ : ∃ wp : World, wp = wr := ⟨_, rfl⟩
      go_loopw [130] (fun q wr => ∃ j : Nat, j ≤ 8 ∧ q = .int .i64 j ∧ Below g wp wr ∧ SumIs wr g (plusTo s.list v.list j) b h n) (fun q _ => 8 - (intOf q).toNat)
      case atStart => exact ⟨0, Nat.zero_le _, rfl, Below.refl _ _, by rw [plusTo_zero]; exact Hw.out⟩
      case round =>
        obtain ⟨j, hj, rfl, hbj, hcur⟩ := hrel
        have hl8 : s.list.length = 8 := rfl
        have hl8v : v.list.length = 8 := rfl
        by_cases hlt3 : j < 8
        · as_aux_lemma =>
          have cS := hcur.st j hlt3
          rw [List.getD_eq_getElem?_getD, plusTo_get s.list v.list j rfl (by omega)] at cS
          replace cS : wr.cell? ⟨g, j, none⟩ = some (.int .u32 ((s.list.getD j 0).toNat : Int)) := cS
          have hf := hcur.fr j
          have E := hid (plusTo_step s.list v.list j rfl (by omega))
          have hix : (Instr.index 47 (.agg #[.int .u32 (v.a.toNat : Int), .int .u32 (v.b.toNat : Int), .int .u32 (v.c.toNat : Int), .int .u32 (v.d.toNat : Int), .int .u32 (v.e.toNat : Int), .int .u32 (v.f.toNat : Int), .int .u32 (v.g.toNat : Int), .int .u32 (v.h.toNat : Int)]) (.int .i64 (j : Int))).run Tryd.prog wr = .ok (.int .u32 ((v.list.getD j 0).toNat : Int)) wr :=
            run_index_arr 47 46 8 j .u32 (wvs v.list) (uv (v.list.getD j 0)) wr Tryd.underlying47 Tryd.underlying46 sizeW hlt3 (by rw [wvs, List.getElem?_toArray, List.getElem?_map, List.getElem?_eq_getElem (by omega), get_getD _ _ (by omega)]; rfl)
          obtain ⟨xs, hxs⟩ : ∃ xs, xs = s.list.getD j 0 := ⟨_, rfl⟩
          obtain ⟨xv, hxv⟩ : ∃ xv, xv = v.list.getD j 0 := ⟨_, rfl⟩
          rw [← hxs] at cS
          rw [← hxv] at hix
          replace E := hid (by rw [hxs, hxv]; exact E.out : (plusTo s.list v.list j).set j (ad xs xv) = plusTo s.list v.list (j + 1))
          clear hxs hxv
          replace hcur := hid hcur
          replace hbj := hid hbj
          have am := add_mod
          have j1 : (j : Int) < 8 := by omega
          go_wp2
          go_still_tail 11, (by kernel_rfl)
          go_wp2
          go_roundw
          case rel =>
            refine ⟨j + 1, by omega, by go_num, ?_, ?_⟩
            · have h := hbj.out.setCell (p := ⟨g, j, none⟩) (Nat.le_refl _) (.int .u32 ((ad xs xv).toNat : Int))
              exact ⟨h.os, h.tape, h.output, h.size, h.block⟩
            · rw [← E.out]
              have h := hcur.out.set_st j hlt3 (ad xs xv)
              exact ⟨h.blk, h.len, h.len8⟩
          case measure => simp [intOf]; omega
        · as_aux_lemma =>
          have Hj : Hid (j = 8) := by show j = 8; omega
          rw [Hj.out] at hcur
          have j1 : 8 ≤ j := by omega
          go_wp2
          go_end0
          exact ⟨rfl, by rw [S8.plus_list, ← Et.out]; exact hcur, Cw.out.trans hbj⟩
end Go.Proofs.YtliahdlllmnkkaaDoor
