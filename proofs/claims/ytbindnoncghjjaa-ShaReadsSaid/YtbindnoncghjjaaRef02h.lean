/-
  The document's texts of digests: Read.
-/
import Derived.Test.YtbindnoncghjjaaRef02g
namespace Go.Proofs.Ytbindnoncghjjaa
open Go.RowKit
set_option linter.unusedVariables false

theorem digit_q (c : UInt8) (w : World) :
    Calls Try.prog 34 #[.int .u8 (c.toNat : Int)] w fun r w' => r = .returned (.int .i64 (digitI c)) ∧ w' = w :=
  (digit_any c w).mono fun _ _ ⟨h, k⟩ => ⟨h, k.symm⟩
theorem byteAt_num (s : ByteArray) (i : Nat) (h1 : 0 ≤ digitI (cAt s (2 * i))) (h2 : 0 ≤ digitI (cAt s (2 * i + 1))) :
    16 * digitI (cAt s (2 * i)) + digitI (cAt s (2 * i + 1)) = ((byteAt s i).toNat : Int) := by
  have a := digitI_lt (cAt s (2 * i))
  have b := digitI_lt (cAt s (2 * i + 1))
  unfold byteAt
  have : (UInt8.ofNat (16 * digitI (cAt s (2 * i)) + digitI (cAt s (2 * i + 1))).toNat).toNat = (16 * digitI (cAt s (2 * i)) + digitI (cAt s (2 * i + 1))).toNat := by
    simp
    omega
  omega

set_option maxRecDepth 100000 in
set_option maxHeartbeats 1000000 in
theorem Read_any (s : ByteArray) (w : World) (hs : s.size ≤ 1000000) :
    Calls Try.prog 24 #[.string s] w fun r w' => r = .returned (.tuple #[.agg (readA s), .int .i64 (readE s)]) ∧ Below w.heap.size w w' := by
  have zd := zeroDig
  by_cases h64 : s.size = 64
  · have h64i : ((s.size : Int) != 64) = false := by rw [h64]; rfl
    go_enter Try.func24, Try.ntmps24
    go_wp2_with (first
      | (with_reducible refine wpList_alloc_row rfl 49 rfl z32 info32 ?_))
    go_loopw [5] (fun v wr => ∃ i : Nat, i ≤ 32 ∧ v = .int .i64 i ∧ RI w wr (readB s) i ∧ ∀ k, k < i → okAt s k = true) (fun v _ => 32 - (intOf v).toNat)
    case atStart => exact ⟨0, Nat.zero_le _, rfl, RI.new w _, fun k hk => absurd hk (by omega)⟩
    case round =>
      obtain ⟨i, hi, rfl, hR, hok⟩ := hrel
      by_cases hlt : i < 32
      · have x1 : ∀ w, (Instr.index 9 (.string s) (.int .i64 (2 * (i : Int)))).run Try.prog w = .ok (.int .u8 ((cAt s (2 * i)).toNat : Int)) w := fun w => by
          have h := run_index_str (P := Try.prog) 9 (2 * i) s w underStr (by omega)
          simpa using h
        have x2 : ∀ w, (Instr.index 9 (.string s) (.int .i64 (2 * (i : Int) + 1))).run Try.prog w = .ok (.int .u8 ((cAt s (2 * i + 1)).toNat : Int)) w := fun w => by
          have h := run_index_str (P := Try.prog) 9 (2 * i + 1) s w underStr (by omega)
          simpa using h
        have f1 : IntKind.i64.wrap (2 * (i : Int)) = 2 * (i : Int) := IntWalk.i64_in _ (by omega)
        have f2 : IntKind.i64.wrap (2 * (i : Int) + 1) = 2 * (i : Int) + 1 := IntWalk.i64_in _ (by omega)
        have Ok : okAt s i = (decide (0 ≤ digitI (cAt s (2 * i))) && decide (0 ≤ digitI (cAt s (2 * i + 1)))) := rfl
        have B := byteAt_num s i
        have j1 : (i : Int) < 32 := by omega
        generalize cAt s (2 * i) = a at *
        generalize cAt s (2 * i + 1) = b at *
        have la := digitI_lt a
        have lb := digitI_lt b
        replace B := hid B
        replace Ok := hid Ok
        replace hok := hid hok
        replace hR := hid hR
        replace h64 := hid h64
        by_cases pa : 0 ≤ digitI a
        · have da : decide (0 ≤ digitI a) = true := by rw [decide_eq_true_iff]; exact pa
          have na : decide (digitI a < 0) = false := by rw [decide_eq_false_iff_not]; omega
          by_cases pb : 0 ≤ digitI b
          · as_aux_lemma =>
            have db : decide (0 ≤ digitI b) = true := by rw [decide_eq_true_iff]; exact pb
            have nb : decide (digitI b < 0) = false := by rw [decide_eq_false_iff_not]; omega
            have Ok2 := hid (show okAt s i = true by rw [Ok.out, da, db]; rfl)
            have B2 := B.out pa pb
            have S := hid (upTo_step (readB s) i (readB_len s) hlt _ (readB_get s i hlt))
            have cD := block_bcell hR.out.cur i (by rw [upTo_len _ _ (readB_len s) hi]; omega)
            have hf := block_frozen hR.out.cur i
            generalize byteAt s i = y at *
            have hy := y.toNat_lt
            have ym : (y.toNat : Int) % 256 = (y.toNat : Int) := by omega
            have f3 : IntKind.i64.wrap (16 * digitI a) = 16 * digitI a := IntWalk.i64_in _ (by omega)
            have f4 : IntKind.i64.wrap (y.toNat : Int) = (y.toNat : Int) := IntWalk.i64_in _ (by omega)
            have va0 := hid pa
            go_wp2_with fail
            go_quiet ((first | exact Calls.quiet_of_same (digit_q _ _)))
            go_wp2_with fail
            go_roundw
            case rel =>
              refine ⟨i + 1, by omega, by go_num, ⟨(below_drewN hR.out.below _).setCell (by simp) _, (Below.heap_setCell _ _ _ _ (by simp)).trans hR.out.res, ?_⟩, ?_⟩
              · rw [← S.out]
                exact block_bset (w := wr.drewN nq) hR.out.cur i y
              · intro k hk
                rcases Nat.lt_or_ge k i with h | h
                · exact hok.out k h
                · obtain rfl : k = i := by omega
                  exact Ok2.out
            case measure => simp [intOf]; omega
          · as_aux_lemma =>
            have db : decide (0 ≤ digitI b) = false := by rw [decide_eq_false_iff_not]; exact pb
            have nb : decide (digitI b < 0) = true := by rw [decide_eq_true_iff]; omega
            have Q := hid (readOk_not h64.out i hlt (by rw [Ok.out, da, db]; rfl))
            have E1 := hid (show readA s = z32 by unfold readA; rw [if_neg (by rw [Q.out]; decide)])
            have E2 := hid (show readE s = 2 by unfold readE; rw [if_neg (by rw [Q.out]; decide)])
            have R := hid hR.out.res
            go_wp2_with fail
            go_quiet ((first | exact Calls.quiet_of_same (digit_q _ _)))
            go_wp2_with (first
              | ((with_reducible refine wpList_store_row rfl 49 (.tmp 2) (.tmp 33) rfl w.heap.size _ rfl rfl 49 z32 ?_ ?_ ?_ ?_ ?_); exact R.out; exact size32; exact z32_size; decide +kernel; intro w3 hg3 hb3 hs3))
            refine bodyPost_ret (v := .tuple #[.agg z32, .int .i64 2]) ?_ rfl ⟨by rw [E1.out, E2.out], ?_⟩
            · exact results_cell_tmp Try.results24 _ _ w.heap.size 49 _ (0, 0) _ _ rfl rfl hg3 Try.underlying49 rfl size32
            · exact (below_drewN hR.out.below _).grown hb3 hR.out.below.size (by simp)
        · as_aux_lemma =>
          have da : decide (0 ≤ digitI a) = false := by rw [decide_eq_false_iff_not]; exact pa
          have na : decide (digitI a < 0) = true := by rw [decide_eq_true_iff]; omega
          have Q := hid (readOk_not h64.out i hlt (by rw [Ok.out, da]; rfl))
          have E1 := hid (show readA s = z32 by unfold readA; rw [if_neg (by rw [Q.out]; decide)])
          have E2 := hid (show readE s = 2 by unfold readE; rw [if_neg (by rw [Q.out]; decide)])
          have R := hid hR.out.res
          go_wp2_with fail
          go_quiet ((first | exact Calls.quiet_of_same (digit_q _ _)))
          go_wp2_with (first
            | ((with_reducible refine wpList_store_row rfl 49 (.tmp 2) (.tmp 33) rfl w.heap.size _ rfl rfl 49 z32 ?_ ?_ ?_ ?_ ?_); exact R.out; exact size32; exact z32_size; decide +kernel; intro w3 hg3 hb3 hs3))
          refine bodyPost_ret (v := .tuple #[.agg z32, .int .i64 2]) ?_ rfl ⟨by rw [E1.out, E2.out], ?_⟩
          · exact results_cell_tmp Try.results24 _ _ w.heap.size 49 _ (0, 0) _ _ rfl rfl hg3 Try.underlying49 rfl size32
          · exact (below_drewN hR.out.below _).grown hb3 hR.out.below.size (by simp)
      · as_aux_lemma =>
        obtain rfl : i = 32 := by omega
        have Q := hid (readOk_yes h64 hok)
        have E1 := hid (show readA s = ((readB s).map bv).toArray by unfold readA; rw [if_pos Q.out])
        have E2 := hid (show readE s = 0 by unfold readE; rw [if_pos Q.out])
        have hcur := hR.cur
        rw [upTo_all _ (readB_len s)] at hcur
        have hres := hid hR.res
        replace hcur := hid hcur
        replace hR := hid hR
        have hz : (((readB s).map bv).toArray).size = 32 := by simp [readB_len]
        have h1 := bvs_all (readB s)
        generalize ((readB s).map bv).toArray = rb at *
        replace hok := trivial
        go_wp2_with (first
          | ((with_reducible refine wpList_load_row rfl 49 (.tmp 4) rfl (w.heap.size + 1) rfl 49 rb (0, 0) _ ?_ Try.underlying49 rfl ?_ ?_); exact hcur.out; (rw [hz]; exact size32))
          | ((with_reducible refine wpList_store_row rfl 49 (.tmp 2) (.tmp 41) rfl w.heap.size _ rfl rfl 49 z32 ?_ ?_ ?_ ?_ ?_); exact hres.out; (rw [hz]; exact size32); (rw [hz]; exact z32_size); exact h1; intro w3 hg3 hb3 hs3))
        refine bodyPost_ret (v := .tuple #[.agg rb, .int .i64 0]) ?_ rfl ⟨by rw [E1.out, E2.out], ?_⟩
        · exact results_cell_tmp Try.results24 _ _ w.heap.size 49 _ (0, 0) _ _ rfl rfl hg3 Try.underlying49 rfl (by rw [hz]; exact size32)
        · exact hR.out.below.grown hb3 hR.out.below.size (by simp)
  · have h64i : ((s.size : Int) != 64) = true := by rw [bne_iff_ne]; omega
    have Q := hid (readOk_size h64)
    have E1 := hid (show readA s = z32 by unfold readA; rw [if_neg (by rw [Q.out]; decide)])
    have E2 := hid (show readE s = 2 by unfold readE; rw [if_neg (by rw [Q.out]; decide)])
    replace h64 := hid h64
    have d2 := heap_alloc2_new w (.cells z32 49) (.cells z32 49)
    go_enter Try.func24, Try.ntmps24
    go_wp2_with (first
      | (with_reducible refine wpList_alloc_row rfl 49 rfl z32 info32 ?_)
      | ((with_reducible refine wpList_load_row rfl 49 (.tmp 4) rfl (w.heap.size + 1) rfl 49 z32 (0, 0) _ ?_ Try.underlying49 rfl ?_ ?_); exact d2; exact size32)
      | ((with_reducible refine wpList_store_row rfl 49 (.tmp 2) (.tmp 11) rfl w.heap.size _ rfl rfl 49 z32 ?_ ?_ ?_ ?_ ?_); exact heap_alloc2_old w _ _; exact size32; exact z32_size; decide +kernel; intro w3 hg3 hb3 hs3))
    refine bodyPost_ret (v := .tuple #[.agg z32, .int .i64 2]) ?_ rfl ⟨by rw [E1.out, E2.out], ?_⟩
    · exact results_cell_tmp Try.results24 _ _ w.heap.size 49 _ (0, 0) _ _ rfl rfl hg3 Try.underlying49 rfl size32
    · exact ((ext_alloc w _).alloc (by simp) _).grown hb3 (by simp; omega) (by simp)
end Go.Proofs.Ytbindnoncghjjaa
