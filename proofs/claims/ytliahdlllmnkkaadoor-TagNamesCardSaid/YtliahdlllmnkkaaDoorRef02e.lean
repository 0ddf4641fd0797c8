/-
  The document's 'Sum': the digest of bytes.
-/
import Derived.Test.YtliahdlllmnkkaaDoorRef02b
import Derived.Test.YtliahdlllmnkkaaDoorRef02c
import Derived.Test.YtliahdlllmnkkaaDoorDig
import Derived.StillTailTactics
namespace Go.Proofs.YtliahdlllmnkkaaDoor
open Go.RowKit
set_option linter.unusedVariables false

def z8w : Array Value := wvs (List.replicate 8 0)
theorem info8w : (Tryd.prog.info? 47).map (fun i => (i.zero, i.size)) = some (some (.agg z8w), z8w.size) := by kernel_rfl
theorem size8w : (Tryd.prog.info? 47).map (·.size) = some 8 := by kernel_rfl

/-- What Sum's loop over the blocks keeps. -/
structure SumI (gS gK : Nat) (A : Option Addr) (p : List UInt8) (w wr : World) (s : S8) : Prop where
  below : Below w.heap.size w wr
  res : wr.heap[w.heap.size]? = some (.cells z32 29 (0, 0))
  cur : wr.heap[gS]? = some (.cells (wvs s.list) 47 (0, 0))
  tab : wr.heap[gK]? = some (.cells (wvs Kw) 67 (0, 0))
  rd : Rd wr A p
  apart : ∀ a, A = some a → gS < a.block
theorem SumI.ext {gS gK : Nat} {A : Option Addr} {p : List UInt8} {w wr w' : World} {s : S8} (h : SumI gS gK A p w wr s) (hb : Below wr.heap.size wr w') : SumI gS gK A p w w' s :=
  ⟨ext_trans h.below hb, (hb.block _ (block_lt h.res)).trans h.res, (hb.block _ (block_lt h.cur)).trans h.cur, (hb.block _ (block_lt h.tab)).trans h.tab, h.rd.bel hb, h.apart⟩
theorem SumI.put {gS gK : Nat} {A : Option Addr} {p : List UInt8} {w wr w' : World} {s s' : S8} (h : SumI gS gK A p w wr s) (hg : wr.grownBy w' (some gS)) (hS : w.heap.size < gS) (hK : gS < gK)
    (hcur : w'.heap[gS]? = some (.cells (wvs s'.list) 47 (0, 0))) : SumI gS gK A p w w' s' :=
  ⟨h.below.grown hg h.below.size (fun k hk => by injection hk with hk; omega), (hg.block _ (block_lt h.res) (fun e => by injection e with e; omega)).trans h.res, hcur, (hg.block _ (block_lt h.tab) (fun e => by injection e with e; omega)).trans h.tab,
    h.rd.grown hg (fun a ha e => by injection e with e; have := h.apart a ha; omega), h.apart⟩

set_option maxRecDepth 100000 in
set_option maxHeartbeats 600000 in
theorem Sum_any (A : Option Addr) (c n : Nat) (l : List UInt8) (w : World) (hr : Rd w A l) (hn : n = l.length) (hl : l.length ≤ 100000) :
    Calls Tryd.prog 29 #[.slice A n c] w fun r w' => r = .returned (.agg ((sha256 l).map bv).toArray) ∧ Below w.heap.size w w' := by
  subst hn
  go_enter Tryd.func29, Tryd.ntmps29
  go_wp2_with (first
    | (with_reducible refine wpList_alloc_row rfl 29 rfl z32 info32 ?_)
    | (with_reducible refine wpList_alloc_row rfl 47 rfl z8w info8w ?_)
    | ((with_reducible refine wpList_store_row rfl 47 (.tmp 3) (.tmp 14) rfl _ _ rfl rfl 47 z8w ?_ ?_ ?_ ?_ ?_); exact heap_alloc_new _ _; exact size8w; rfl; decide +kernel; intro w1 hg1 hb1 hs1))
  have e1 : (w.alloc (.cells z32 29)).heap.size = w.heap.size + 1 := by simp
  rw [e1] at hg1 hb1
  have B1 : Below w.heap.size w w1 := ((ext_alloc w _).alloc (by simp) _).grown hb1 (by simp; omega) (fun k hk => by injection hk with hk; omega)
  have R1 : w1.heap[w.heap.size]? = some (.cells z32 29 (0, 0)) :=
    (hb1.block _ (by simp; omega) (by simp)).trans ((Below.heap_alloc _ _ _ (by simp)).trans (heap_alloc_new w _))
  have C1 : w1.heap[w.heap.size + 1]? = some (.cells (wvs S0.list) 47 (0, 0)) := hg1
  have s1 : w.heap.size + 1 < w1.heap.size := by rw [hs1]; simp
  clear hg1 hb1 hs1 e1
  have r1 := hr.bel B1
  refine (padded_any _ _ _ l _ r1 rfl (by omega)).mono ?_
  rintro e w2 ⟨Ap, cp, rfl, hop, hb2⟩
  have hcp := hop.cap
  have hpl := padded_le l
  have hpm := padded_len l
  have hsha : Hid (sha256 l = (stN (padded l) ((padded l).length / 64)).bytes) := rfl
  generalize padded l = p at *
  unfold maxLen at hcp
  obtain ⟨hcp1, hcp2⟩ := hcp
  go_wp2_with fail
  refine (words_any _).mono ?_
  rintro e w3 ⟨rfl, hb3⟩
  have B3 : Below w1.heap.size w1 w3 := ext_trans hb2 hb3
  have hapart : ∀ a, Ap = some a → w.heap.size + 1 < a.block := fun a ha => by have := (hop.blk a ha).1; omega
  have rp := hop.rd.bel hb3
  have I0 : Below w.heap.size w w3 := B1.trans (B3.mono (by omega))
  have R3 := (B3.block _ (by omega)).trans R1
  have C3 := (B3.block _ s1).trans C1
  have s3 := B3.size
  clear hop hb2 hb3 B3 B1 R1 C1 hr r1
  go_wp2_with (first
    | (with_reducible refine wpList_alloc_row rfl 67 rfl z64 info64 ?_)
    | ((with_reducible refine wpList_store_row rfl 67 (.tmp 5) (.tmp 17) rfl _ _ rfl rfl 67 z64 ?_ ?_ ?_ ?_ ?_); exact heap_alloc_new _ _; exact size64; rfl; exact wvs_one _; intro w4 hg4 hb4 hs4))
  have B4 : Below w3.heap.size w3 w4 := (ext_alloc w3 _).grown hb4 (by simp) (fun k hk => by injection hk with hk; omega)
  have I4 : SumI (w.heap.size + 1) w3.heap.size Ap p w w4 S0 :=
    ⟨I0.trans (B4.mono (by omega)), (B4.block _ (by omega)).trans R3, (B4.block _ (by omega)).trans C3, hg4, rp.bel B4, hapart⟩
  clear hg4 hb4 hs4 B4 I0 R3 C3 rp
  go_loopw [6] (fun v wr => ∃ i a : Nat, Hid (a = 64 * i) ∧ a ≤ p.length ∧ v = .int .i64 a ∧ SumI (w.heap.size + 1) w3.heap.size Ap p w wr (stN p i)) (fun v _ => p.length + 64 - (intOf v).toNat)
  case atStart => exact ⟨0, 0, rfl, Nat.zero_le _, rfl, I4⟩
  case round =>
    obtain ⟨i, a, ha, hap, rfl, hI⟩ := hrel
    by_cases hlt : a < p.length
    · as_aux_lemma =>
      have h64 : a + 64 ≤ p.length := by have := ha.out; omega
      have hne : ¬ cp = a := by omega
      have rc := hI.rd.cut a (a + 64) cp (by omega) h64 (by omega)
      rw [if_neg hne, show a + 64 - a = 64 by omega] at rc
      have hl64 : ((p.drop a).take 64).length = 64 := by simp; omega
      have hst : Hid (stN p (i + 1) = (stN p i).plus ((stN p i).rounds (sched ((p.drop a).take 64)) 64)) := by rw [ha.out]; rfl
      generalize (p.drop a).take 64 = blk at *
      have hsc : Hid ((sched blk).length = 64) := sch2_len blk 48
      generalize stN p i = st at *
      obtain ⟨ws, hws⟩ : ∃ ws, ws = sched blk := ⟨_, rfl⟩
      rw [← hws] at hst hsc
      replace hws := hid hws
      replace hl64 := hid hl64
      replace hI := hid hI
      replace hpm := hid hpm
      replace I4 := trivial
      go_wp2_with fail
      refine (schedule_any _ _ _ blk _ rc hl64.out.symm hl64.out).mono ?_
      rintro e w5 ⟨rfl, hb5⟩
      rw [← hws.out]
      go_wp2_with (first
        | (with_reducible refine wpList_alloc_row rfl 67 rfl z64 info64 ?_)
        | ((with_reducible refine wpList_store_row rfl 67 (.tmp 7) (.tmp 29) rfl _ _ rfl rfl 67 z64 ?_ ?_ ?_ ?_ ?_); exact heap_alloc_new _ _; (rw [wvs_size, hsc.out]; exact size64); (rw [wvs_size, hsc.out]; exact z64_size); exact wvs_one _; intro w6 hg6 hb6 hs6; have B6 : Below w5.heap.size w5 w6 := (ext_alloc w5 _).grown hb6 (by simp) (fun k hk => by injection hk with hk; omega); have I6 := hid ((hI.out.ext hb5).ext B6); replace hg6 := hid hg6)
        | ((with_reducible refine wpList_load_row rfl 47 (.tmp 3) rfl (w.heap.size + 1) rfl 47 (wvs st.list) (0, 0) _ ?_ Tryd.underlying47 rfl ?_ ?_); exact I6.out.cur; (rw [wvs_size]; exact size8w))
        | (with_reducible refine wpList_alloc_row rfl 47 rfl z8w info8w ?_)
        | ((with_reducible refine wpList_store_row rfl 47 (.tmp 8) (.tmp 30) rfl _ _ rfl rfl 47 z8w ?_ ?_ ?_ ?_ ?_); exact heap_alloc_new _ _; (rw [wvs_size]; exact size8w); (rw [wvs_size]; rfl); exact wvs_one _; intro w7 hg7 hb7 hs7))
      have B7 : Below w6.heap.size w6 w7 := (ext_alloc w6 _).grown hb7 (by simp) (fun k hk => by injection hk with hk; omega)
      have I7 := hid (I6.out.ext B7)
      have Q7 : Below wr.heap.size wr w7 := ext_trans (ext_trans hb5 B6) B7
      have q7 : wr.heap.size ≤ w5.heap.size := hb5.size
      obtain ⟨wo, rfl⟩ : ∃ wo : World, wo = wr := ⟨_, rfl⟩
      have hgW := (B7.block _ (block_lt hg6.out)).trans hg6.out
      have e6 : w6.heap.size = w5.heap.size + 1 := by rw [hs6]; simp
      rw [e6] at hg7
      have hgK : w3.heap.size < w5.heap.size + 1 := by have h1 := block_lt I6.out.tab; omega
      have hV := hid hg7
      replace hgW := hid hgW
      have hsz7 : Hid (w5.heap.size + 2 ≤ w7.heap.size) := by show _ ≤ _; have := block_lt hg7; omega
      clear hg6 hs6 hg7 hs7 hb7 B7 I6 hb5 e6 rc B6
      generalize w5.heap.size = gW at *
      go_loopw [9] (fun v wr => ∃ t : Nat, t ≤ 64 ∧ v = .int .i64 t ∧ Below (gW + 1) w7 wr ∧ wr.heap[gW + 1]? = some (.cells (wvs (st.rounds ws t).list) 47 (0, 0))) (fun v _ => 64 - (intOf v).toNat)
      case atStart => exact ⟨0, Nat.zero_le _, rfl, Below.refl _ _, hV.out⟩
      case round =>
        obtain ⟨t, ht, rfl, hbt, hvt⟩ := hrel
        by_cases hlt2 : t < 64
        · as_aux_lemma =>
          have cK : wr.cell? ⟨w3.heap.size, t, none⟩ = some (.int .u32 ((Kw.getD t 0).toNat : Int)) := by
            rw [← get_getD Kw t (by rw [Kw_len]; omega)]
            exact wblock_cell ((hbt.block _ hgK).trans I7.out.tab) t (by rw [Kw_len]; omega)
          have cW : wr.cell? ⟨gW, t, none⟩ = some (.int .u32 ((ws.getD t 0).toNat : Int)) := by
            rw [← get_getD ws t (by rw [hsc.out]; omega)]
            exact wblock_cell ((hbt.block _ (by omega)).trans hgW.out) t (by rw [hsc.out]; omega)
          have E := hid (show st.rounds ws (t + 1) = (st.rounds ws t).round (Kw.getD t 0) (ws.getD t 0) from rfl)
          generalize Kw.getD t 0 = xk at *
          generalize ws.getD t 0 = xw at *
          generalize st.rounds ws t = v at *
          have c0 : wr.cell? ⟨gW + 1, 0, none⟩ = some (.int .u32 (v.a.toNat : Int)) := wblock_cell hvt 0 (by simp [S8.list])
          have c1 : wr.cell? ⟨gW + 1, 1, none⟩ = some (.int .u32 (v.b.toNat : Int)) := wblock_cell hvt 1 (by simp [S8.list])
          have c2 : wr.cell? ⟨gW + 1, 2, none⟩ = some (.int .u32 (v.c.toNat : Int)) := wblock_cell hvt 2 (by simp [S8.list])
          have c3 : wr.cell? ⟨gW + 1, 3, none⟩ = some (.int .u32 (v.d.toNat : Int)) := wblock_cell hvt 3 (by simp [S8.list])
          have c4 : wr.cell? ⟨gW + 1, 4, none⟩ = some (.int .u32 (v.e.toNat : Int)) := wblock_cell hvt 4 (by simp [S8.list])
          have c5 : wr.cell? ⟨gW + 1, 5, none⟩ = some (.int .u32 (v.f.toNat : Int)) := wblock_cell hvt 5 (by simp [S8.list])
          have c6 : wr.cell? ⟨gW + 1, 6, none⟩ = some (.int .u32 (v.g.toNat : Int)) := wblock_cell hvt 6 (by simp [S8.list])
          have c7 : wr.cell? ⟨gW + 1, 7, none⟩ = some (.int .u32 (v.h.toNat : Int)) := wblock_cell hvt 7 (by simp [S8.list])
          replace hvt := hid hvt
          replace hbt := hid hbt
          go_wp2
          go_still_tail 7, (by kernel_rfl)
          go_wp2_with (first
            | (go_at_call 40; refine (round_any v xk xw _).mono ?_; rintro e w8 ⟨rfl, hb8⟩; replace hb8 : Below wr.heap.size wr w8 := ⟨hb8.os, hb8.tape, hb8.output, hb8.size, hb8.block⟩; rw [S8.vals_list])
            | ((with_reducible refine wpList_store_row rfl 47 (.tmp 8) (.tmp 42) rfl (gW + 1) _ rfl rfl 47 (wvs v.list) ?_ ?_ ?_ ?_ ?_); exact (hb8.block _ (block_lt hvt.out)).trans hvt.out; (rw [wvs_size]; exact size8w); (rw [wvs_size]; rfl); exact wvs_one _; intro w9 hg9 hb9 hs9))
          go_roundw
          case rel =>
            refine ⟨t + 1, by omega, by go_num, ?_, ?_⟩
            · exact ((hbt.out.trans (hb8.mono (by have := block_lt hvt.out; omega))).grown hb9 (by have := block_lt hvt.out; have := hb8.size; omega) (fun k hk => by injection hk with hk; omega))
            · rw [E.out]; exact hg9
          case measure => simp [intOf]; omega
        · as_aux_lemma =>
          have Ht : Hid (t = 64) := by show t = 64; omega
          rw [Ht.out] at hvt
          have gt1 : 64 ≤ t := by omega
          have Iw : SumI (w.heap.size + 1) w3.heap.size Ap p w wr st := hI.out.ext (Q7.trans (hbt.mono (by omega)))
          generalize st.rounds ws 64 = v at *
          have hltV := block_lt hvt
          have hgS : w.heap.size + 1 < w3.heap.size := by omega
          have HIw := hid Iw
          replace hvt := hid hvt
          clear Iw hbt hgW hV I7 Q7
          go_wp2
          obtain ⟨wp, rfl⟩ : ∃ wp : World, wp = wr := ⟨_, rfl⟩
          go_loopw [10] (fun q wr => ∃ j : Nat, j ≤ 8 ∧ q = .int .i64 j ∧ wp.grownBy wr (some (w.heap.size + 1)) ∧ wr.heap[w.heap.size + 1]? = some (.cells (wvs (plusTo st.list v.list j)) 47 (0, 0))) (fun q _ => 8 - (intOf q).toNat)
          case atStart => exact ⟨0, Nat.zero_le _, rfl, World.grownBy.refl _ _, by rw [plusTo_zero]; exact HIw.out.cur⟩
          case round =>
            obtain ⟨j, hj, rfl, hgr, hcur⟩ := hrel
            have hl8 : st.list.length = 8 := rfl
            have hl8v : v.list.length = 8 := rfl
            by_cases hlt3 : j < 8
            · as_aux_lemma =>
              have cS : wr.cell? ⟨w.heap.size + 1, j, none⟩ = some (.int .u32 ((st.list.getD j 0).toNat : Int)) := by
                rw [block_cell hcur]
                have := plusTo_get st.list v.list j rfl (by omega)
                simp [wvs, this, uv]
              have cV : wr.cell? ⟨gW + 1, j, none⟩ = some (.int .u32 ((v.list.getD j 0).toNat : Int)) := by
                rw [← get_getD v.list j (by omega)]
                exact wblock_cell ((hgr.block _ hltV (fun e => by injection e with e; omega)).trans hvt.out) j (by omega)
              have hf := block_frozen hcur j
              have E := hid (plusTo_step st.list v.list j rfl (by omega))
              generalize st.list.getD j 0 = xs at *
              generalize v.list.getD j 0 = xv at *
              have am := add_mod
              replace hcur := hid hcur
              replace hgr := hid hgr
              clear hl8 hl8v
              have j1 : (j : Int) < 8 := by omega
              go_wp2
              go_still_tail 8, (by kernel_rfl)
              go_wp2
              go_roundw
              case rel =>
                refine ⟨j + 1, by omega, by go_num, ?_, ?_⟩
                · have h := grown_set hgr.out j (.int .u32 ((ad xs xv).toNat : Int))
                  exact ⟨h.os, h.tape, h.output, h.size, h.block⟩
                · rw [← E.out]
                  exact wblock_set hcur.out _ _
              case measure => simp [intOf]; omega
            · as_aux_lemma =>
              have Hj : Hid (j = 8) := by show j = 8; omega
              rw [Hj.out] at hcur
              have j1 : 8 ≤ j := by omega
              have In : SumI (w.heap.size + 1) w3.heap.size Ap p w wr (st.plus v) := HIw.out.put hgr (by omega) hgS (by rw [S8.plus_list]; exact hcur)
              rw [← hst.out] at In
              replace In := hid In
              clear hcur hgr HIw
              go_wp2
              go_roundw
              case rel =>
                refine ⟨i + 1, a + 64, ?_, by omega, by go_num, In.out⟩
                show a + 64 = 64 * (i + 1)
                have := ha.out
                omega
              case measure => simp [intOf]; omega
    · as_aux_lemma =>
      have ha2 : Hid (i = p.length / 64) := by show i = _; have := ha.out; omega
      rw [ha2.out] at hI
      have hI2 := hid hI
      have hap2 : p.length ≤ a := by omega
      generalize stN p (p.length / 64) = st at *
      clear hI
      go_wp2_with (first
        | (with_reducible refine wpList_alloc_row rfl 29 rfl z32 info32 ?_))
      obtain ⟨wo, rfl⟩ : ∃ wo : World, wo = wr := ⟨_, rfl⟩
      have hltS := block_lt hI2.out.cur
      have hbl := st.bytes_len
      replace hbl := hid hbl
      go_loopw [12] (fun q wr => ∃ x : Nat, x ≤ 8 ∧ q = .int .i64 x ∧ Below wo.heap.size wo wr ∧ wr.heap[wo.heap.size]? = some (.cells ((upTo st.bytes (4 * x)).map bv).toArray 29 (0, 0))) (fun q _ => 8 - (intOf q).toNat)
      case atStart => exact ⟨0, Nat.zero_le _, rfl, ext_alloc _ _, by rw [Nat.mul_zero, upTo_zero]; exact heap_alloc_new _ _⟩
      case round =>
        obtain ⟨x, hx, rfl, hb, hd⟩ := hrel
        by_cases hx8 : x < 8
        · as_aux_lemma =>
          replace hb := hid hb
          replace hd := hid hd
          obtain ⟨wq, rfl⟩ : ∃ wq : World, wq = wr := ⟨_, rfl⟩
          go_wp2
          go_loopw [13] (fun q wr => ∃ j : Nat, j ≤ 4 ∧ q = .int .i64 j ∧ Below wo.heap.size wo wr ∧ wr.heap[wo.heap.size]? = some (.cells ((upTo st.bytes (4 * x + j)).map bv).toArray 29 (0, 0))) (fun q _ => 4 - (intOf q).toNat)
          case atStart => exact ⟨0, Nat.zero_le _, rfl, hb.out, hd.out⟩
          case round =>
            obtain ⟨j, hj, rfl, hb2, hd2⟩ := hrel
            by_cases hj4 : j < 4
            · as_aux_lemma =>
              have cS : wr.cell? ⟨w.heap.size + 1, x, none⟩ = some (.int .u32 ((st.list.getD x 0).toNat : Int)) := by
                rw [← get_getD st.list x (by show x < 8; omega)]
                exact wblock_cell ((hb2.block _ hltS).trans hI2.out.cur) x (by show x < 8; omega)
              have cD := block_bcell hd2 (4 * x + j) (by rw [upTo_len _ _ hbl.out (by omega)]; omega)
              have fD := block_frozen hd2 (4 * x + j)
              have E := hid (upTo_step st.bytes (4 * x + j) hbl.out (by omega) _ (flat4 st.list x j hj4 (by show x < 8; omega)))
              have F := hid (shr_byte4 (st.list.getD x 0) j hj4)
              generalize st.list.getD x 0 = y at *
              replace hd2 := hid hd2
              replace hb2 := hid hb2
              go_wp2
              go_roundw
              case rel =>
                refine ⟨j + 1, by omega, by go_num, hb2.out.setCell (Nat.le_refl _) _, ?_⟩
                rw [F.out, show 4 * x + (j + 1) = 4 * x + j + 1 by omega, ← E.out]
                exact block_bset hd2.out _ _
              case measure => simp [intOf]; omega
            · as_aux_lemma =>
              have Hj : Hid (4 * x + j = 4 * (x + 1)) := by show _ = _; omega
              rw [Hj.out] at hd2
              have hj5 : 4 ≤ j := by omega
              replace hd2 := hid hd2
              replace hb2 := hid hb2
              go_wp2
              go_roundw
              case rel => exact ⟨x + 1, by omega, by go_num, hb2.out, hd2.out⟩
              case measure => simp [intOf]; omega
        · as_aux_lemma =>
          have Hx : Hid (4 * x = 32) := by show _ = _; omega
          rw [Hx.out, upTo_all _ hbl.out, ← hsha.out] at hd
          have hx9 : 8 ≤ x := by omega
          have hres := hid ((hb.block _ (block_lt hI2.out.res)).trans hI2.out.res)
          have hlen : Hid ((sha256 l).length = 32) := by show _ = _; rw [hsha.out]; exact hbl.out
          have hsz : Hid (((sha256 l).map bv).toArray.size = 32) := by show _ = _; rw [List.size_toArray, List.length_map, hlen.out]
          have hbel := ext_trans hI2.out.below hb
          replace hd := hid hd
          replace hbel := hid hbel
          clear hb
          go_wp2_with (first
            | ((with_reducible refine wpList_load_row rfl 29 (.tmp 11) rfl wo.heap.size rfl 29 ((sha256 l).map bv).toArray (0, 0) _ ?_ Tryd.underlying29 rfl ?_ ?_); exact hd.out; (rw [List.size_toArray, List.length_map, hlen.out]; exact size32))
            | ((with_reducible refine wpList_store_row rfl 29 (.tmp 2) (.tmp 77) rfl w.heap.size _ rfl rfl 29 z32 ?_ ?_ ?_ ?_ ?_); exact hres.out; (rw [List.size_toArray, List.length_map, hlen.out]; exact size32); exact z32_size.trans hsz.out.symm; exact bvs_all _; intro w9 hg9 hb9 hs9))
          refine bodyPost_ret (v := .agg ((sha256 l).map bv).toArray) ?_ rfl ⟨rfl, ?_⟩
          · exact results_cell_row Tryd.results29 _ _ w.heap.size 29 _ (0, 0) _ rfl hg9 Tryd.underlying29 rfl (by rw [List.size_toArray, List.length_map, hlen.out]; exact size32)
          · exact hbel.out.grown hb9 hbel.out.size (fun k hk => by injection hk with hk; omega)
end Go.Proofs.YtliahdlllmnkkaaDoor
