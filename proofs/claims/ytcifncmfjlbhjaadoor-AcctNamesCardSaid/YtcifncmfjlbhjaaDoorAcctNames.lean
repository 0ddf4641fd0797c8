/-
  The Go function AcctNames returns true: the errors' numbers, and the chapter's examples.
  Conditions: none. The frame around the walk was written by program (proof-skeleton.mjs).
-/
import Derived.Test.YtcifncmfjlbhjaaDoorRows
import Derived.Test.YtcifncmfjlbhjaaDoorDoor
import Derived.WalkKit
import Derived.ProofKit
import Derived.OpenShut
import Derived.ShutString
import Derived.ChangeOld
import Derived.Below
import Derived.Test.YtcifncmfjlbhjaaDoorAcN
import Derived.Test.YtcifncmfjlbhjaaDoorAlive10
import Derived.Test.YtcifncmfjlbhjaaDoorTreeB
namespace Go.Proofs.YtcifncmfjlbhjaaDoor.acctNames
open Go.ChangeShapes Go.WideShapes Go.ChangeAt Go.RowKit
open Go.ChangeMaps (open_string shut_string)
set_option linter.unusedVariables false      -- a walk need not use every 'w<i>' (that an integer argument fits its kind)

theorem own : ownKnob Tryd.prog.godebug = none := by kernel_rfl

/-! ### the walk -/
open Go.Proofs.YtcifncmfjlbhjaaDoor
set_option linter.unusedSimpArgs false
set_option maxRecDepth 100000 in
set_option maxHeartbeats 8000000 in
theorem walk  (w : World) (hT : Tab w) :
    Calls Tryd.prog 3 #[] w fun e w' => e = .returned (.bool true) ∧ Below w.heap.size w w' := by
  have hu := Tryd.underlying35
  have hut := Tryd.underlying31
  have hua := Tryd.underlying24
  have hlow := hid hT.low
  have hT0 := hid hT
  have W0 := hid (Below.refl w.heap.size w)
  obtain ⟨i0, hi0, hz0, hz1, hz2⟩ := info_parts infoU8
  have hbt := hid built_tr0
  have hba := hid built_ac0
  have hbm := hid (show Tryd.prog.built 24 [(1, .int .u64 18446744073709551615)] = some (acC acM).toArray by kernel_rfl)
  have hd1 := hid (built_dg1 1)
  have hd2 := hid (built_dg1 2)
  have hiz := hid (sizeDg z0)
  have hR15 := hid (fun A W (h : Rd W A (List.replicate 15 0)) => PAcRead_any A 15 (List.replicate 15 0) W h (by simp) (by decide) (by simp))
  rw [zer15.1, zer15.2, List.length_replicate] at hR15
  have hR17 := hid (fun A W (h : Rd W A (List.replicate 17 0)) => PAcRead_any A 17 (List.replicate 17 0) W h (by simp) (by decide) (by simp))
  rw [zer17.1, zer17.2, List.length_replicate] at hR17
  have hR16 := hid (fun A W (h : Rd W A (List.replicate 16 0)) => PAcRead_any A 16 (List.replicate 16 0) W h (by simp) (by decide) (by simp))
  rw [zer16.1, zer16.2, List.length_replicate] at hR16
  have hS0 := hid (fun W => (show Calls Tryd.prog 6 #[.agg zTrC, .agg ((dfst 1).1.map bv).toArray, .agg (acC ac0).toArray] W _ from PAcSet_any (fun _ => False) none 0 [] 0 (dfst 1) ac0 W ac0_ok (Row.nil _ _ _) (by decide)))
  rw [nil_set, nil_setE] at hS0
  have hS1 := hid (fun W => (show Calls Tryd.prog 6 #[.agg zTrC, .agg ((dfst 1).1.map bv).toArray, .agg (acC acM).toArray] W _ from PAcSet_any (fun _ => False) none 0 [] 0 (dfst 1) acM W acM_ok (Row.nil _ _ _) (by decide)))
  rw [nil_setE, show setT ⟨[], 0⟩ (dfst 1) acM = nmA from rfl] at hS1
  have hS2 := hid (fun F A c W hW => PAcSet_any F A c nmA.ns nmA.root (dfst 2) acM W acM_ok hW (Nat.le_trans nmA_f.2 (by decide)))
  rw [show (⟨nmA.ns, nmA.root⟩ : Tr) = nmA from rfl, nmB_e, show setT nmA (dfst 2) acM = nmB from rfl] at hS2
  have hTo := hid (fun F A c W hW => PAcTotal_any F A c nmB.ns nmB.root W hW (Nat.le_trans nmB_f.2 (by decide)))
  rw [show (⟨nmB.ns, nmB.root⟩ : Tr) = nmB from rfl, nmB_f.1, nmB_t.1, nmB_t.2] at hTo
  simp only [if_true] at hTo
  have hAl := hid (fun W => alive10_any W)
  have hKy := hid (fun W hTW => PAcKey_any z0 W hTW)
  have hOf := hid (fun g W hR hTW => of3R_any z0 g W hR hTW)
  have hEk : ∀ W, (Op.equalIn 10000 35 (.agg ((keyD z0).1.map bv).toArray) (.agg ((keyD z0).1.map bv).toArray)).run Tryd.prog W = .ok true W := fun W => eqd_is (keyD z0) (keyD z0) true (decide_eq_true rfl) W
  have nac0 := hid (one_ac ac0)
  have jac0 := hid (show (Tryd.prog.info? 24).map (·.size) = some (acC ac0).length from sizeAc)
  have nacM := hid (one_ac acM)
  have jacM := hid (show (Tryd.prog.info? 24).map (·.size) = some (acC acM).length from sizeAc)
  obtain ⟨na, hna⟩ : ∃ l, nmA.ns = l := ⟨_, rfl⟩
  obtain ⟨ra, hra⟩ : ∃ l, nmA.root = l := ⟨_, rfl⟩
  obtain ⟨nb, hnb⟩ : ∃ l, nmB.ns = l := ⟨_, rfl⟩
  obtain ⟨rb, hrb⟩ : ∃ l, nmB.root = l := ⟨_, rfl⟩
  rw [hna, hra] at hS1 hS2
  rw [hnb, hrb] at hS2 hTo
  dsimp only at hS0 hS1 hS2 hTo
  generalize (keyD z0).1.map bv = dkk at *
  clear hT hna hra hnb hrb
  go_enter Tryd.func3, Tryd.ntmps3
  go_wp2_with (first
    | (at_make; refine wpList_make_full _ rfl _ _ 28 rfl w.heap.size 5 i0 (.int .u8 0) 1 Tryd.underlying28 hi0 hz0 hz1 _ _ _ _ 15 rfl rfl rfl rfl (by rw [hz2]; omega) (by unfold maxLen; omega) (Nat.le_refl _) ?_; intro w1 hown hgrow; have X1 := hid ((Below.refl _ w).grown hgrow (Nat.le_refl _) (by simp)); have Q1 := hid ((Own.of_block (B := 0) (made_block hown) (Nat.zero_le _) (by decide)).rd); clear hown hgrow; have W1 := hid (W0.out.trans (X1.out.mono W0.out.size)); clear W0))
  refine (hR15.out _ _ Q1.out).mono ?_
  rintro e w2 ⟨rfl, hb⟩
  have W2 := hid (W1.out.trans (hb.mono W1.out.size))
  have Q2 := hid (Q1.out.bel hb)
  clear W1 Q1
  clear hb hR15
  clear Q2
  have e2 := hid (heap_alloc_new w2 (.cells (acC ac0).toArray 24))
  go_wp2_with (first
    | (with_reducible refine wpList_alloc_row rfl 24 rfl (acC ac0).toArray zInfoAc ?_)
    | ((with_reducible refine wpList_store_row rfl 24 (.tmp 1) (.tmp 19) rfl _ _ rfl rfl 24 (acC ac0).toArray ?_ ?_ ?_ ?_ ?_); exact e2.out; exact sizeAc; rfl; exact nac0.out; intro w3 hgS hbS hsS; have X3 := hid (xnewP rfl hbS); have Q3 := hid (rangeOf (l := acC ac0) hgS); clear hgS hbS hsS; have W3 := hid (W2.out.trans (X3.out.mono W2.out.size)); clear W2)
    | (at_make; refine wpList_make_full _ rfl _ _ 28 rfl w3.heap.size 5 i0 (.int .u8 0) 1 Tryd.underlying28 hi0 hz0 hz1 _ _ _ _ 17 rfl rfl rfl rfl (by rw [hz2]; omega) (by unfold maxLen; omega) (Nat.le_refl _) ?_; intro w4 hown hgrow; have X4 := hid ((Below.refl _ w3).grown hgrow (Nat.le_refl _) (by simp)); have Q4 := hid ((Own.of_block (B := 0) (made_block hown) (Nat.zero_le _) (by decide)).rd); clear hown hgrow; have W4 := hid (W3.out.trans (X4.out.mono W3.out.size)); clear W3))
  refine (hR17.out _ _ Q4.out).mono ?_
  rintro e w5 ⟨rfl, hb⟩
  have W5 := hid (W4.out.trans (hb.mono W4.out.size))
  have Q5 := hid (Q4.out.bel hb)
  clear W4 Q4
  clear hb hR17
  clear Q5
  have e5 := hid (heap_alloc_new w5 (.cells (acC ac0).toArray 24))
  go_wp2_with (first
    | (with_reducible refine wpList_alloc_row rfl 24 rfl (acC ac0).toArray zInfoAc ?_)
    | ((with_reducible refine wpList_store_row rfl 24 (.tmp 3) (.tmp 24) rfl _ _ rfl rfl 24 (acC ac0).toArray ?_ ?_ ?_ ?_ ?_); exact e5.out; exact sizeAc; rfl; exact nac0.out; intro w6 hgS hbS hsS; have X6 := hid (xnewP rfl hbS); have Q6 := hid (rangeOf (l := acC ac0) hgS); clear hgS hbS hsS; have W6 := hid (W5.out.trans (X6.out.mono W5.out.size)); clear W5)
    | (at_make; refine wpList_make_full _ rfl _ _ 28 rfl w6.heap.size 5 i0 (.int .u8 0) 1 Tryd.underlying28 hi0 hz0 hz1 _ _ _ _ 16 rfl rfl rfl rfl (by rw [hz2]; omega) (by unfold maxLen; omega) (Nat.le_refl _) ?_; intro w7 hown hgrow; have X7 := hid ((Below.refl _ w6).grown hgrow (Nat.le_refl _) (by simp)); have Q7 := hid ((Own.of_block (B := 0) (made_block hown) (Nat.zero_le _) (by decide)).rd); clear hown hgrow; have W7 := hid (W6.out.trans (X7.out.mono W6.out.size)); clear W6))
  refine (hR16.out _ _ Q7.out).mono ?_
  rintro e w8 ⟨rfl, hb⟩
  have W8 := hid (W7.out.trans (hb.mono W7.out.size))
  have Q8 := hid (Q7.out.bel hb)
  clear W7 Q7
  clear hb hR16
  clear Q8
  have e8 := hid (heap_alloc_new w8 (.cells (acC ac0).toArray 24))
  go_wp2_with (first
    | (with_reducible refine wpList_alloc_row rfl 24 rfl (acC ac0).toArray zInfoAc ?_)
    | ((with_reducible refine wpList_store_row rfl 24 (.tmp 5) (.tmp 29) rfl _ _ rfl rfl 24 (acC ac0).toArray ?_ ?_ ?_ ?_ ?_); exact e8.out; exact sizeAc; rfl; exact nac0.out; intro w9 hgS hbS hsS; have X9 := hid (xnewP rfl hbS); have Q9 := hid (rangeOf (l := acC ac0) hgS); clear hgS hbS hsS; have W9 := hid (W8.out.trans (X9.out.mono W8.out.size)); clear W8)
    | ((with_reducible refine wpList_built rfl 31 _ rfl zTrC [] ?_ ?_ ?_); exact hbt.out; rfl)
    | ((with_reducible refine wpList_built rfl 35 _ rfl ((dfst 1).1.map bv).toArray [(0, .int .u8 1)] ?_ ?_ ?_); exact hd1.out; rfl)
    | ((with_reducible refine wpList_built rfl 24 _ rfl (acC ac0).toArray [] ?_ ?_ ?_); exact hba.out; rfl))
  refine (hS0.out _).mono ?_
  rintro e w10 ⟨A5, c5, rfl, hO, hb⟩
  have W10 := hid (W9.out.trans (hb.mono W9.out.size))
  clear W9
  clear hb hO hS0
  have e10 := hid (heap_alloc_new w10 (.cells zTrC 31))
  have hiE := hid (show (Tryd.prog.info? 31).map (·.size) = some ([Value.slice A5 0 c5, .int .i64 0]).length from sizeTr)
  go_wp2_with (first
    | (with_reducible refine wpList_alloc_row rfl 31 rfl zTrC zInfoTr ?_)
    | ((with_reducible refine wpList_store_row rfl 31 (.tmp 7) (.tmp 36) rfl _ _ rfl rfl 31 zTrC ?_ ?_ ?_ ?_ ?_); exact e10.out; exact sizeTr; rfl; exact one_trP A5 0 c5 0; intro w11 hgS hbS hsS; have X11 := hid (xnewP rfl hbS); have lt11 := hid (block_lt hgS); have E11 := hid (BoxT.of (rangeOf (l := [Value.slice A5 0 c5, .int .i64 0]) hgS)); clear hgS hbS hsS; have W11 := hid (W10.out.trans (X11.out.mono W10.out.size)); clear W10; have e11 := hid (heap_alloc_new w11 (.cells (acC ac0).toArray 24)))
    | ((with_reducible refine wpList_built rfl 24 _ rfl (acC acM).toArray [(1, .int .u64 18446744073709551615)] ?_ ?_ ?_); exact hbm.out; rfl)
    | (with_reducible refine wpList_alloc_row rfl 24 rfl (acC ac0).toArray zInfoAc ?_)
    | ((with_reducible refine wpList_store_row rfl 24 (.tmp 9) (.tmp 38) rfl _ _ rfl rfl 24 (acC ac0).toArray ?_ ?_ ?_ ?_ ?_); exact e11.out; exact sizeAc; rfl; exact nacM.out; intro w12 hgS hbS hsS; have X12 := hid (xnewP rfl hbS); have M12 := hid (rangeOf (l := acC acM) hgS); clear hgS hbS hsS; have W12 := hid (W11.out.trans (X12.out.mono W11.out.size)); have E12 := hid (E11.out.bel X12.out); clear W11 E11)
    | ((with_reducible refine wpList_built rfl 31 _ rfl zTrC [] ?_ ?_ ?_); exact hbt.out; rfl)
    | ((with_reducible refine wpList_built rfl 35 _ rfl ((dfst 1).1.map bv).toArray [(0, .int .u8 1)] ?_ ?_ ?_); exact hd1.out; rfl)
    | ((with_reducible refine wpList_load_rng rfl 24 (.tmp 9) rfl w11.heap.size 0 rfl (acC acM) _ ?_ hua rfl jacM.out ?_); exact M12.out))
  refine (hS1.out _).mono ?_
  rintro e w13 ⟨A6, c6, rfl, hO, hb⟩
  have W13 := hid (W12.out.trans (hb.mono W12.out.size))
  have E13 := hid (E12.out.bel hb)
  have M13 := hid (rangeBel2 hb M12.out)
  clear W12 E12 M12
  have b13 := hid (OwnR.row hO)
  have s7 := hid E13.out.lt
  clear hb hO hS1
  have l7 := hid W13.out.size
  have e13 := hid (heap_alloc_new w13 (.cells zTrC 31))
  have hiD := hid (show (Tryd.prog.info? 31).map (·.size) = some ([Value.slice A6 na.length c6, .int .i64 ra]).length from sizeTr)
  go_wp2_with (first
    | (with_reducible refine wpList_alloc_row rfl 31 rfl zTrC zInfoTr ?_)
    | ((with_reducible refine wpList_store_row rfl 31 (.tmp 10) (.tmp 44) rfl _ _ rfl rfl 31 zTrC ?_ ?_ ?_ ?_ ?_); exact e13.out; exact sizeTr; rfl; exact one_trP A6 na.length c6 ra; intro w14 hgS hbS hsS; have X14 := hid (xnewP rfl hbS); have lt14 := hid (block_lt hgS); have D14 := hid (BoxT.of (rangeOf (l := [Value.slice A6 na.length c6, .int .i64 ra]) hgS)); have N14 := hid hgS; clear hgS hbS hsS; have W14 := hid (W13.out.trans (X14.out.mono W13.out.size)); have E14 := hid (E13.out.bel X14.out); have M14 := hid (rangeBel2 X14.out M13.out); have b14 := hid (b13.out.bel X14.out); clear W13 E13 M13 b13)
    | ((with_reducible refine wpList_load_rng rfl 31 (.tmp 10) rfl w13.heap.size 0 rfl [Value.slice A6 na.length c6, .int .i64 ra] _ ?_ hut rfl hiD.out ?_); exact D14.out.all)
    | ((with_reducible refine wpList_built rfl 35 _ rfl ((dfst 2).1.map bv).toArray [(0, .int .u8 2)] ?_ ?_ ?_); exact hd2.out; rfl)
    | ((with_reducible refine wpList_load_rng rfl 24 (.tmp 9) rfl w11.heap.size 0 rfl (acC acM) _ ?_ hua rfl jacM.out ?_); exact M14.out))
  have l8 := hid (block_lt N14.out)
  refine (hS2.out _ A6 c6 _ b14.out).mono ?_
  rintro e w15 ⟨A7, c7, rfl, hO, hb⟩
  have W15 := hid (W14.out.trans (hb.mono W14.out.size))
  have E15 := hid (E14.out.bel hb)
  have M15 := hid (rangeBel2 hb M14.out)
  have b15 := hid (b14.out.bel hb)
  have D15 := hid (D14.out.bel hb)
  have N15 := hid ((hb.block _ (block_lt N14.out)).trans N14.out)
  clear W14 E14 M14 b14 D14 N14
  have o8 := hid hO
  have j8 := hid (show (Tryd.prog.info? 31).map (·.size) = some ([Value.slice A7 nb.length c7, .int .i64 rb]).length from sizeTr)
  clear hb hO hS2
  go_wp2_with (first
    | ((with_reducible refine wpList_store_row rfl 31 (.tmp 10) (.tmp 51) rfl _ _ rfl rfl 31 #[.slice A6 na.length c6, .int .i64 ra] ?_ ?_ ?_ ?_ ?_); exact N15.out; exact sizeTr; rfl; exact one_trP A7 nb.length c7 rb; intro w16 hgS hbS hsS; have W16 := hid (W15.out.grown hbS W15.out.size (fun q e => by injection e with e; have := s7.out; have := l7.out; omega)); have E16 := hid (rangeAt_kept E15.out.all (fun hl => hbS.block _ hl (by intro q; injection q with q; have := s7.out; omega))); have D16 := hid (rangeOf (l := [Value.slice A7 nb.length c7, .int .i64 rb]) hgS); have b16 := hid (OwnR.row (OwnQ.keptAtP o8.out hbS l8.out l8.out)); clear hgS hbS hsS W15 E15 D15 b15 M15 N15)
    | ((with_reducible refine wpList_load_rng rfl 31 (.tmp 10) rfl w13.heap.size 0 rfl [Value.slice A7 nb.length c7, .int .i64 rb] _ ?_ hut rfl j8.out ?_); exact D16.out))
  refine (hTo.out _ A7 c7 _ b16.out).mono ?_
  rintro e w17 ⟨rfl, hb⟩
  have W17 := hid (W16.out.trans (hb.mono W16.out.size))
  have E17 := hid (rangeBel2 hb E16.out)
  have b17 := hid (b16.out.bel hb)
  clear W16 E16 b16
  clear hb hTo
  clear b17
  go_wp2_with (first
    | (with_reducible refine wpList_alloc_row rfl 35 rfl z32 info32 ?_))
  have X18 := hid (ext_alloc w17 (.cells z32 35))
  have hz := heap_alloc_new w17 (.cells z32 35)

  have P18 := hid (rangeOf (l := z0.1.map bv) hz)
  have R18 := hid (rd_blockP (l := z0.1) hz)
  generalize w17.alloc (.cells z32 35) = w18 at *
  have W18 := hid (W17.out.trans (X18.out.mono W17.out.size))
  have E18 := hid (rangeBel2 X18.out E17.out)
  clear W17 E17
  clear hz
  have c18 : w18.cell? ⟨w10.heap.size, 1, none⟩ = some (.int .i64 0) := E18.out 1 _ rfl
  refine wp_region_noPanic ?_
  refine wp_region_held_drew (S := fun w' => Below w18.heap.size w18 w') (by kernel_rfl) ?_ (fun hHeld => ?_)
  · exact bel_drew w18
  refine' wpAnyH_take (i := 0) (oi := _) (v := ?_) rfl (by kernel_rfl) (by kernel_rfl) (by kernel_rfl) (fun _ _ _ h => h) (Or.inl ⟨by rfl, ?_⟩) (by assumption) ?_
  rotate_left
  · intro W hSw
    go_simp
    first | done | (with_reducible rfl)
  try simp only [Act.put, sQa, sQb, sQc, gQa, gQb, gQc]
  refine wpAnyH_ready (rs := [1]) (by kernel_rfl) (by simp) ?_
  refine AllReadyH.cons (o := _) rfl (fun K hK => ?_) AllReadyH.nil
  go_simp
  refine (hAl.out _).mono ?_
  rintro e v1 ⟨rfl, hB⟩
  go_wp2_with fail
  refine hK.out _ _ ?_ (fun hHeld => ?_)
  · exact hHeld.trans (hB.mono hHeld.size)
  clear hK K
  try simp only [Act.put, sQa, sQb, sQc, gQa, gQb, gQc]
  refine' wpAnyH_take (i := 2) (oi := _) (v := ?_) rfl (by kernel_rfl) (by kernel_rfl) (by kernel_rfl) (fun _ _ _ h => h) (Or.inl ⟨by rfl, ?_⟩) (by assumption) ?_
  rotate_left
  · intro W hSw
    go_simp
    first | done | (with_reducible rfl)
  try simp only [Act.put, sQa, sQb, sQc, gQa, gQb, gQc]
  refine' wpAnyH_take (i := 3) (oi := _) (v := ?_) rfl (by kernel_rfl) (by kernel_rfl) (by kernel_rfl) (fun _ _ _ h => h) (Or.inl ⟨by rfl, ?_⟩) (by assumption) ?_
  rotate_left
  · intro W hSw
    go_simp
    first | done | (with_reducible rfl)
  try simp only [Act.put, sQa, sQb, sQc, gQa, gQb, gQc]
  refine' wpAnyH_take (i := 4) (oi := _) (v := ?_) rfl (by kernel_rfl) (by kernel_rfl) (by kernel_rfl) (fun _ _ _ h => h) (Or.inl ⟨by rfl, ?_⟩) (by assumption) ?_
  rotate_left
  · intro W hSw
    go_simp
    first | done | (with_reducible rfl)
  try simp only [Act.put, sQa, sQb, sQc, gQa, gQb, gQc]
  refine' wpAnyH_take (i := 5) (oi := _) (v := ?_) rfl (by kernel_rfl) (by kernel_rfl) (by kernel_rfl) (fun _ _ _ h => h) (Or.inl ⟨by rfl, ?_⟩) (by assumption) ?_
  rotate_left
  · intro W hSw
    go_simp
    first | done | (with_reducible rfl)
  try simp only [Act.put, sQa, sQb, sQc, gQa, gQb, gQc]
  refine' wpAnyH_take (i := 6) (oi := _) (v := ?_) rfl (by kernel_rfl) (by kernel_rfl) (by kernel_rfl) (fun _ _ _ h => h) (Or.inl ⟨by rfl, ?_⟩) (by assumption) ?_
  rotate_left
  · intro W hSw
    go_simp
    first | done | (with_reducible rfl)
  try simp only [Act.put, sQa, sQb, sQc, gQa, gQb, gQc]
  refine' wpAnyH_take (i := 7) (oi := _) (v := ?_) rfl (by kernel_rfl) (by kernel_rfl) (by kernel_rfl) (fun _ _ _ h => h) (Or.inl ⟨by rfl, ?_⟩) (by assumption) ?_
  rotate_left
  · intro W hSw
    go_simp
    first | done | (with_reducible rfl)
  try simp only [Act.put, sQa, sQb, sQc, gQa, gQb, gQc]
  refine' wpAnyH_take (i := 8) (oi := _) (v := ?_) rfl (by kernel_rfl) (by kernel_rfl) (by kernel_rfl) (fun _ _ _ h => h) (Or.inl ⟨by rfl, ?_⟩) (by assumption) ?_
  rotate_left
  · intro W hSw
    go_simp
    first | done | (with_reducible rfl)
  try simp only [Act.put, sQa, sQb, sQc, gQa, gQb, gQc]
  refine' wpAnyH_take (i := 9) (oi := _) (v := ?_) rfl (by kernel_rfl) (by kernel_rfl) (by kernel_rfl) (fun _ _ _ h => h) (Or.inl ⟨by rfl, ?_⟩) (by assumption) ?_
  rotate_left
  · intro W hSw
    go_simp
    first | done | (with_reducible rfl)
  try simp only [Act.put, sQa, sQb, sQc, gQa, gQb, gQc]
  refine' wpAnyH_take (i := 10) (oi := _) (v := ?_) rfl (by kernel_rfl) (by kernel_rfl) (by kernel_rfl) (fun _ _ _ h => h) (Or.inl ⟨by rfl, ?_⟩) (by assumption) ?_
  rotate_left
  · intro W hSw
    go_simp
    first | done | (with_reducible rfl)
  try simp only [Act.put, sQa, sQb, sQc, gQa, gQb, gQc]
  refine' wpAnyH_take (i := 11) (oi := _) (v := ?_) rfl (by kernel_rfl) (by kernel_rfl) (by kernel_rfl) (fun _ _ _ h => h) (Or.inl ⟨by rfl, ?_⟩) (by assumption) ?_
  rotate_left
  · intro W hSw
    go_simp
    first | done | (with_reducible rfl)
  try simp only [Act.put, sQa, sQb, sQc, gQa, gQb, gQc]
  refine' wpAnyH_take (i := 12) (oi := _) (v := ?_) rfl (by kernel_rfl) (by kernel_rfl) (by kernel_rfl) (fun _ _ _ h => h) (Or.inl ⟨by rfl, ?_⟩) (by assumption) ?_
  rotate_left
  · intro W hSw
    go_simp
    first | done | (with_reducible rfl)
  try simp only [Act.put, sQa, sQb, sQc, gQa, gQb, gQc]
  refine' wpAnyH_take (i := 13) (oi := _) (v := ?_) rfl (by kernel_rfl) (by kernel_rfl) (by kernel_rfl) (fun _ _ _ h => h) (Or.inl ⟨by rfl, ?_⟩) (by assumption) ?_
  rotate_left
  · intro W hSw
    go_simp
    first | done | (with_reducible rfl)
  try simp only [Act.put, sQa, sQb, sQc, gQa, gQb, gQc]
  refine' wpAnyH_take (i := 14) (oi := _) (v := ?_) rfl (by kernel_rfl) (by kernel_rfl) (by kernel_rfl) (fun _ _ _ h => h) (Or.inl ⟨by rfl, ?_⟩) (by assumption) ?_
  rotate_left
  · intro W hSw
    go_simp
    first | done | (with_reducible rfl)
  try simp only [Act.put, sQa, sQb, sQc, gQa, gQb, gQc]
  refine' wpAnyH_take (i := 15) (oi := _) (v := ?_) rfl (by kernel_rfl) (by kernel_rfl) (by kernel_rfl) (fun _ _ _ h => h) (Or.inl ⟨by rfl, ?_⟩) (by assumption) ?_
  rotate_left
  · intro W hSw
    go_simp
    first | done | (with_reducible rfl)
  try simp only [Act.put, sQa, sQb, sQc, gQa, gQb, gQc]
  refine' wpAnyH_take (i := 16) (oi := _) (v := ?_) rfl (by kernel_rfl) (by kernel_rfl) (by kernel_rfl) (fun _ _ _ h => h) (Or.inl ⟨by rfl, ?_⟩) (by assumption) ?_
  rotate_left
  · intro W hSw
    go_simp
    first | done | (with_reducible rfl)
  try simp only [Act.put, sQa, sQb, sQc, gQa, gQb, gQc]
  refine' wpAnyH_take (i := 17) (oi := _) (v := ?_) rfl (by kernel_rfl) (by kernel_rfl) (by kernel_rfl) (fun _ _ _ h => h) (Or.inl ⟨by rfl, ?_⟩) (by assumption) ?_
  rotate_left
  · intro W hSw
    go_simp
    first | done | (with_reducible rfl)
  try simp only [Act.put, sQa, sQb, sQc, gQa, gQb, gQc]
  refine' wpAnyH_take (i := 18) (oi := _) (v := ?_) rfl (by kernel_rfl) (by kernel_rfl) (by kernel_rfl) (fun _ _ _ h => h) (Or.inl ⟨by rfl, ?_⟩) (by assumption) ?_
  rotate_left
  · intro W hSw
    go_simp
    first | done | (with_reducible rfl)
  try simp only [Act.put, sQa, sQb, sQc, gQa, gQb, gQc]
  refine' wpAnyH_take (i := 19) (oi := _) (v := ?_) rfl (by kernel_rfl) (by kernel_rfl) (by kernel_rfl) (fun _ _ _ h => h) (Or.inl ⟨by rfl, ?_⟩) (by assumption) ?_
  rotate_left
  · intro W hSw
    go_simp
    first | done | (with_reducible rfl)
  try simp only [Act.put, sQa, sQb, sQc, gQa, gQb, gQc]
  refine' wpAnyH_take (i := 20) (oi := _) (v := ?_) rfl (by kernel_rfl) (by kernel_rfl) (by kernel_rfl) (fun _ _ _ h => h) (Or.inl ⟨by rfl, ?_⟩) (by assumption) ?_
  rotate_left
  · intro W hSw
    go_simp
    first | done | (with_reducible rfl)
  try simp only [Act.put, sQa, sQb, sQc, gQa, gQb, gQc]
  refine' wpAnyH_take (i := 21) (oi := _) (v := ?_) rfl (by kernel_rfl) (by kernel_rfl) (by kernel_rfl) (fun _ _ _ h => h) (Or.inl ⟨by rfl, ?_⟩) (by assumption) ?_
  rotate_left
  · intro W hSw
    have hCell := (hSw.cell (World.block_lt_of_cell? _ _ c18)).trans c18
    go_simp
    first | done | (with_reducible rfl)
  try simp only [Act.put, sQa, sQb, sQc, gQa, gQb, gQc]
  refine' wpAnyH_take (i := 22) (oi := _) (v := ?_) rfl (by kernel_rfl) (by kernel_rfl) (by kernel_rfl) (fun _ _ _ h => h) (Or.inl ⟨by rfl, ?_⟩) (by assumption) ?_
  rotate_left
  · intro W hSw
    go_simp
    first | done | (with_reducible rfl)
  try simp only [Act.put, sQa, sQb, sQc, gQa, gQb, gQc]
  refine' wpAnyH_take (i := 23) (oi := _) (v := ?_) rfl (by kernel_rfl) (by kernel_rfl) (by kernel_rfl) (fun _ _ _ h => h) (Or.inl ⟨by rfl, ?_⟩) (by assumption) ?_
  rotate_left
  · intro W hSw
    go_simp
    first | done | (with_reducible rfl)
  try simp only [Act.put, sQa, sQb, sQc, gQa, gQb, gQc]
  refine' wpAnyH_take (i := 24) (oi := _) (v := ?_) rfl (by kernel_rfl) (by kernel_rfl) (by kernel_rfl) (fun _ _ _ h => h) (Or.inl ⟨by rfl, ?_⟩) (by assumption) ?_
  rotate_left
  · intro W hSw
    go_simp
    first | done | (with_reducible rfl)
  try simp only [Act.put, sQa, sQb, sQc, gQa, gQb, gQc]
  refine' wpAnyH_take (i := 25) (oi := _) (v := ?_) rfl (by kernel_rfl) (by kernel_rfl) (by kernel_rfl) (fun _ _ _ h => h) (Or.inl ⟨by rfl, ?_⟩) (by assumption) ?_
  rotate_left
  · intro W hSw
    go_simp
    first | done | (with_reducible rfl)
  try simp only [Act.put, sQa, sQb, sQc, gQa, gQb, gQc]
  refine' wpAnyH_take (i := 26) (oi := _) (v := ?_) rfl (by kernel_rfl) (by kernel_rfl) (by kernel_rfl) (fun _ _ _ h => h) (Or.inl ⟨by rfl, ?_⟩) (by assumption) ?_
  rotate_left
  · intro W hSw
    go_simp
    first | done | (with_reducible rfl)
  try simp only [Act.put, sQa, sQb, sQc, gQa, gQb, gQc]
  refine' wpAnyH_take (i := 27) (oi := _) (v := ?_) rfl (by kernel_rfl) (by kernel_rfl) (by kernel_rfl) (fun _ _ _ h => h) (Or.inl ⟨by rfl, ?_⟩) (by assumption) ?_
  rotate_left
  · intro W hSw
    go_simp
    first | done | (with_reducible rfl)
  try simp only [Act.put, sQa, sQb, sQc, gQa, gQb, gQc]
  refine' wpAnyH_take (i := 28) (oi := _) (v := ?_) rfl (by kernel_rfl) (by kernel_rfl) (by kernel_rfl) (fun _ _ _ h => h) (Or.inl ⟨by rfl, ?_⟩) (by assumption) ?_
  rotate_left
  · intro W hSw
    go_simp
    first | done | (with_reducible rfl)
  try simp only [Act.put, sQa, sQb, sQc, gQa, gQb, gQc]
  refine' wpAnyH_take (i := 29) (oi := _) (v := ?_) rfl (by kernel_rfl) (by kernel_rfl) (by kernel_rfl) (fun _ _ _ h => h) (Or.inl ⟨by rfl, ?_⟩) (by assumption) ?_
  rotate_left
  · intro W hSw
    go_simp
    first | done | (with_reducible rfl)
  try simp only [Act.put, sQa, sQb, sQc, gQa, gQb, gQc]
  refine' wpAnyH_take (i := 30) (oi := _) (v := ?_) rfl (by kernel_rfl) (by kernel_rfl) (by kernel_rfl) (fun _ _ _ h => h) (Or.inl ⟨by rfl, ?_⟩) (by assumption) ?_
  rotate_left
  · intro W hSw
    go_simp
    first | done | (with_reducible rfl)
  try simp only [Act.put, sQa, sQb, sQc, gQa, gQb, gQc]
  refine' wpAnyH_take (i := 31) (oi := _) (v := ?_) rfl (by kernel_rfl) (by kernel_rfl) (by kernel_rfl) (fun _ _ _ h => h) (Or.inl ⟨by rfl, ?_⟩) (by assumption) ?_
  rotate_left
  · intro W hSw
    go_simp
    first | done | (with_reducible rfl)
  try simp only [Act.put, sQa, sQb, sQc, gQa, gQb, gQc]
  refine' wpAnyH_take (i := 32) (oi := _) (v := ?_) rfl (by kernel_rfl) (by kernel_rfl) (by kernel_rfl) (fun _ _ _ h => h) (Or.inl ⟨by rfl, ?_⟩) (by assumption) ?_
  rotate_left
  · intro W hSw
    go_simp
    first | done | (with_reducible rfl)
  try simp only [Act.put, sQa, sQb, sQc, gQa, gQb, gQc]
  refine' wpAnyH_take (i := 33) (oi := _) (v := ?_) rfl (by kernel_rfl) (by kernel_rfl) (by kernel_rfl) (fun _ _ _ h => h) (Or.inl ⟨by rfl, ?_⟩) (by assumption) ?_
  rotate_left
  · intro W hSw
    go_simp
    first | done | (with_reducible rfl)
  try simp only [Act.put, sQa, sQb, sQc, gQa, gQb, gQc]
  refine' wpAnyH_take (i := 34) (oi := _) (v := ?_) rfl (by kernel_rfl) (by kernel_rfl) (by kernel_rfl) (fun _ _ _ h => h) (Or.inl ⟨by rfl, ?_⟩) (by assumption) ?_
  rotate_left
  · intro W hSw
    go_simp
    first | done | (with_reducible rfl)
  try simp only [Act.put, sQa, sQb, sQc, gQa, gQb, gQc]
  refine' wpAnyH_take (i := 35) (oi := _) (v := ?_) rfl (by kernel_rfl) (by kernel_rfl) (by kernel_rfl) (fun _ _ _ h => h) (Or.inl ⟨by rfl, ?_⟩) (by assumption) ?_
  rotate_left
  · intro W hSw
    go_simp
    first | done | (with_reducible rfl)
  try simp only [Act.put, sQa, sQb, sQc, gQa, gQb, gQc]
  refine' wpAnyH_take (i := 36) (oi := _) (v := ?_) rfl (by kernel_rfl) (by kernel_rfl) (by kernel_rfl) (fun _ _ _ h => h) (Or.inl ⟨by rfl, ?_⟩) (by assumption) ?_
  rotate_left
  · intro W hSw
    go_simp
    first | done | (with_reducible rfl)
  try simp only [Act.put, sQa, sQb, sQc, gQa, gQb, gQc]
  refine' wpAnyH_take (i := 37) (oi := _) (v := _) rfl (by kernel_rfl) (by kernel_rfl) (by kernel_rfl) (fun _ _ _ h => h) (yieldsIf_load_mid (by rfl) _ _ rfl _ _ rfl _ _ (fun _ h => rangeBel2 h P18.out) hu rfl hiz.out) (by assumption) ?_
  try simp only [Act.put, sQa, sQb, sQc, gQa, gQb, gQc]
  refine' wpAnyH_take (i := 39) (oi := _) (v := _) rfl (by kernel_rfl) (by kernel_rfl) (by kernel_rfl) (fun _ _ _ h => h) (yieldsIf_slice (by rfl) _ _ _ _ _ rfl _ _ _ _ _ (fun W => run_all32P _ W) rfl rfl rfl rfl) (by assumption) ?_
  try simp only [Act.put, sQa, sQb, sQc, gQa, gQb, gQc]
  refine wpAnyH_ready (rs := [38, 40]) (by kernel_rfl) (by simp) ?_
  refine AllReadyH.cons (o := _) rfl (fun K hK => ?_) ?_
  · skip
    go_simp
    refine (hKy.out _ (hT0.out.bel (W18.out.trans (hHeld.mono W18.out.size)) hlow.out)).mono ?_
    rintro e v2 ⟨rfl, hB⟩
    try have hR40 := hR40.bel hB
    go_wp2_with fail
    refine hK.out _ _ ?_ (fun hHeld => ?_)
    · exact hHeld.trans (hB.mono hHeld.size)
    clear hK K
    try simp only [Act.put, sQa, sQb, sQc, gQa, gQb, gQc]
    refine wpAnyH_ready (rs := [40]) (by kernel_rfl) (by simp) ?_
    refine AllReadyH.cons (o := _) rfl (fun K hK => ?_) AllReadyH.nil
    refine step_sl1 (by rfl) (.tmp 98) rfl (some ⟨w17.heap.size, 0, none⟩) 32 32 z0.1 rfl z0.2.symm (R18.out.bel hHeld) (by rw [z0.2]; exact Nat.le_refl _) (by decide) ?_
    intro g40 w40 hR40 hB
    refine hK.out _ _ ?_ (fun hHeld => ?_)
    · exact hHeld.trans (hB.mono hHeld.size)
    clear hK K
    try simp only [Act.put, sQa, sQb, sQc, gQa, gQb, gQc]
    refine wpAnyH_ready (rs := [41]) (by kernel_rfl) (by simp) ?_
    refine AllReadyH.cons (o := _) rfl (fun K hK => ?_) AllReadyH.nil
    go_simp
    refine (hOf.out g40 _ hR40 (hT0.out.bel (W18.out.trans (hHeld.mono W18.out.size)) hlow.out)).mono ?_
    rintro e v3 ⟨rfl, hB⟩
    go_wp2_with fail
    refine hK.out _ _ ?_ (fun hHeld => ?_)
    · exact hHeld.trans (hB.mono hHeld.size)
    clear hK K
    try simp only [Act.put, sQa, sQb, sQc, gQa, gQb, gQc]
    refine' wpAnyH_take (i := 42) (oi := _) (v := ?_) rfl (by kernel_rfl) (by kernel_rfl) (by kernel_rfl) (fun _ _ _ h => h) (Or.inl ⟨by rfl, ?_⟩) (by assumption) ?_
    rotate_left
    · intro W hSw
      go_simp
      first | done | (with_reducible rfl)
    try simp only [Act.put, sQa, sQb, sQc, gQa, gQb, gQc]
    refine' wpAnyH_take (i := 43) (oi := _) (v := ?_) rfl (by kernel_rfl) (by kernel_rfl) (by kernel_rfl) (fun _ _ _ h => h) (Or.inl ⟨by rfl, ?_⟩) (by assumption) ?_
    rotate_left
    · intro W hSw
      go_simp
      first | done | (with_reducible rfl)
    try simp only [Act.put, sQa, sQb, sQc, gQa, gQb, gQc]
    refine' wpAnyH_take (i := 44) (oi := _) (v := ?_) rfl (by kernel_rfl) (by kernel_rfl) (by kernel_rfl) (fun _ _ _ h => h) (Or.inl ⟨by rfl, ?_⟩) (by assumption) ?_
    rotate_left
    · intro W hSw
      go_simp
      first | done | (with_reducible rfl)
    try simp only [Act.put, sQa, sQb, sQc, gQa, gQb, gQc]
    refine wpAnyH_done (by kernel_rfl) ?_ _
    refine NoPanic.normal ?_
    go_wp2
    go_ret
    exact ⟨rfl, W18.out.trans (hHeld.mono W18.out.size)⟩
  refine AllReadyH.cons (o := _) rfl (fun K hK => ?_) ?_
  · skip
    refine step_sl1 (by rfl) (.tmp 98) rfl (some ⟨w17.heap.size, 0, none⟩) 32 32 z0.1 rfl z0.2.symm (R18.out.bel hHeld) (by rw [z0.2]; exact Nat.le_refl _) (by decide) ?_
    intro g40 w40 hR40 hB
    refine hK.out _ _ ?_ (fun hHeld => ?_)
    · exact hHeld.trans (hB.mono hHeld.size)
    clear hK K
    try simp only [Act.put, sQa, sQb, sQc, gQa, gQb, gQc]
    refine wpAnyH_ready (rs := [38]) (by kernel_rfl) (by simp) ?_
    refine AllReadyH.cons (o := _) rfl (fun K hK => ?_) AllReadyH.nil
    go_simp
    refine (hKy.out _ (hT0.out.bel (W18.out.trans (hHeld.mono W18.out.size)) hlow.out)).mono ?_
    rintro e v2 ⟨rfl, hB⟩
    try have hR40 := hR40.bel hB
    go_wp2_with fail
    refine hK.out _ _ ?_ (fun hHeld => ?_)
    · exact hHeld.trans (hB.mono hHeld.size)
    clear hK K
    try simp only [Act.put, sQa, sQb, sQc, gQa, gQb, gQc]
    refine wpAnyH_ready (rs := [41]) (by kernel_rfl) (by simp) ?_
    refine AllReadyH.cons (o := _) rfl (fun K hK => ?_) AllReadyH.nil
    go_simp
    refine (hOf.out g40 _ hR40 (hT0.out.bel (W18.out.trans (hHeld.mono W18.out.size)) hlow.out)).mono ?_
    rintro e v3 ⟨rfl, hB⟩
    go_wp2_with fail
    refine hK.out _ _ ?_ (fun hHeld => ?_)
    · exact hHeld.trans (hB.mono hHeld.size)
    clear hK K
    try simp only [Act.put, sQa, sQb, sQc, gQa, gQb, gQc]
    refine' wpAnyH_take (i := 42) (oi := _) (v := ?_) rfl (by kernel_rfl) (by kernel_rfl) (by kernel_rfl) (fun _ _ _ h => h) (Or.inl ⟨by rfl, ?_⟩) (by assumption) ?_
    rotate_left
    · intro W hSw
      go_simp
      first | done | (with_reducible rfl)
    try simp only [Act.put, sQa, sQb, sQc, gQa, gQb, gQc]
    refine' wpAnyH_take (i := 43) (oi := _) (v := ?_) rfl (by kernel_rfl) (by kernel_rfl) (by kernel_rfl) (fun _ _ _ h => h) (Or.inl ⟨by rfl, ?_⟩) (by assumption) ?_
    rotate_left
    · intro W hSw
      go_simp
      first | done | (with_reducible rfl)
    try simp only [Act.put, sQa, sQb, sQc, gQa, gQb, gQc]
    refine' wpAnyH_take (i := 44) (oi := _) (v := ?_) rfl (by kernel_rfl) (by kernel_rfl) (by kernel_rfl) (fun _ _ _ h => h) (Or.inl ⟨by rfl, ?_⟩) (by assumption) ?_
    rotate_left
    · intro W hSw
      go_simp
      first | done | (with_reducible rfl)
    try simp only [Act.put, sQa, sQb, sQc, gQa, gQb, gQc]
    refine wpAnyH_done (by kernel_rfl) ?_ _
    refine NoPanic.normal ?_
    go_wp2
    go_ret
    exact ⟨rfl, W18.out.trans (hHeld.mono W18.out.size)⟩
  exact AllReadyH.nil

/-! ### WHAT THE WALK GIVES, FOR EVERY ARGUMENT AND EVERY WORLD THAT HOLDS THE TABLE -/
set_option maxRecDepth 100000 in
theorem contract (H : Type) (enc : TypeId × Value → H) (W : World) (base : Nat) (args : Array Value) (ds gs : List (DataW H)) (before : List MemPlace)
    (hval0 : ∀ (j : Nat) t v, Tryd.f3.params[j]? = some t → args[j]? = some v → Value.okWide Tryd.prog W .any base t v)
    (hW : DataW.Whole enc Tryd.prog Tryd.f3.params.toList Rows.acctNamesSpec.vars false W args.toList ds gs before) (hL : laidMetH Tryd.prog Rows.acctNamesRow.laid W) :
    Calls Tryd.prog 3 args W fun e W' => ∃ v, e = .returned v ∧ Rows.acctNamesSpec.post enc Tryd.prog Tryd.f3 false true false false W args v W' := by
  have hval : ∀ (j : Nat) t v, Tryd.f3.params[j]? = some t → args[j]? = some v → Value.okWide Tryd.prog W .any base t v := hval0
  have hW' := hW
  obtain ⟨p, q, hA0, hV, rfl, hfz, hnd⟩ := hW
  have hA : DataW.TrodAll enc Tryd.prog W 0 (fun _ => true) true Tryd.f3.params.toList args.toList ds p := hA0
  rw [Tryd.params3] at hA hval
  obtain ⟨rfl, rfl, rfl⟩ := trodAll_none hA
  obtain ⟨rfl, rfl⟩ := trodVars_none hV
  clear hA0 hval0
  refine (walk  W (tab_of hL)).mono fun e W' ⟨he, bel⟩ => ?_
  subst he
  exact ⟨_, rfl, _, _, _, [], _, [], hW', trodAll_mk1 (shut_bool Tryd.underlying4 _), trodAll_mk0, rfl, bel.frame _, fun h => by cases h⟩

theorem laid_met (os : Os) : laidMet Tryd.prog Rows.acctNamesRow.laid ((laidWorld os).forCall (fun _ _ => 0) ⟨#[], #[], []⟩).memory :=
  laidMet_of_run' 8 (by kernel_rfl) (by kernel_rfl)
theorem reads (os : Os) {H : Type} (enc : TypeId × Value → H) : ∃ places, DataW.whole enc Tryd.prog ((laidWorld os).forCall (fun _ _ => 0) ⟨#[], #[], []⟩).memory Tryd.f3.params.toList Rows.acctNamesSpec.vars false (#[] : Array Value).toList 8 = some ([], [], places) :=
  ⟨[], by kernel_rfl⟩
set_option maxRecDepth 100000 in
theorem lifted (os : Os) (started : os.Started) (H : Type) (enc : TypeId × Value → H) (F : Stop.Interp) :
    ReturnsInHanded {} Tryd.checked os 3 .any ((OpenSpec.ofChange Rows.acctNamesSpec).preRow enc Tryd.prog Tryd.f3 Rows.acctNamesRow.domain false Rows.acctNamesRow.laid) (((OpenSpec.ofChange Rows.acctNamesSpec).at F).post enc Tryd.prog Tryd.f3 false true false false) := by
  obtain ⟨places, hx⟩ := reads os enc
  refine returnsInHanded_of_row (C := Tryd.checked) (s := OpenSpec.ofChange Rows.acctNamesSpec) own started (by kernel_rfl) Tryd.func3
    (witness_row_at (enc := enc) (C := Tryd.checked) false (laidWorld os) #[] rfl (by kernel_rfl) (by kernel_rfl) (by kernel_rfl)
      (OpenSpec.preRow_of_cond 8 hx (by kernel_rfl) (fun k hk => by cases hk) (by kernel_rfl) (laid_met os))) ?_
  intro W base args ds gs before hval hW _ _ _ hL _ _
  exact contract H enc W base args ds gs before hval hW hL
theorem said : Rows.AcctNamesSaid :=
  OpenClaim.holds_of_cond 3 Tryd.f3 rfl rfl rfl rfl rfl rfl rfl ⟨rfl, rfl, rfl, rfl, rfl⟩ rfl rfl rfl rfl rfl (by kernel_rfl) Tryd.func3 (by kernel_rfl)
    (of_decide_eq_true (by kernel_rfl)) (by unfold Func.isWrapper; first | (rw [if_pos (by decide +kernel)]; kernel_rfl) | (rw [if_neg (by decide +kernel)]; exact ⟨rfl, rfl⟩))
    (fun os started H enc _ F => by rw [OpenClaim.pre_eq_preRow]; exact lifted os started H enc F)
set_option maxRecDepth 100000 in
/-- No parameter wants a stand-in; the program's own looks are off: what the card asks. -/
theorem plain (f : FuncId) (fn : Func) (hf : Tryd.pinned.checked.prog.funcNamed "beadroll/beadrolllaw10.AcctNames" = some f) (hfn : Tryd.pinned.checked.prog.funcs[f]? = some fn) :
    false = Tryd.pinned.checked.prog.looks [] ∧ ∀ (j : Nat) t, fn.params[j]? = some t → Tryd.pinned.checked.prog.wantsStandIn t = false := by
  obtain rfl : f = 3 := Option.some.inj ((show Tryd.prog.funcNamed "beadroll/beadrolllaw10.AcctNames" = some 3 by kernel_rfl).symm.trans hf) |>.symm
  obtain rfl : fn = Tryd.f3 := (Option.some.inj (Tryd.func3.symm.trans hfn)).symm
  refine ⟨by kernel_rfl, fun j t ht => ?_⟩
  rw [Tryd.params3] at ht
  simp at ht
set_option maxRecDepth 100000 in
/-- ████ THE CARD ████ -/
theorem proved : Rows.AcctNamesCardSaid :=
  Claim7.holds_tied_plain_at .later [] _ _ _ _ said (fun _ h => by cases h) (by kernel_rfl) (fun _ h => by cases h) acctNames_row_tie rfl ⟨rfl, rfl⟩ (by kernel_rfl) rfl plain (by kernel_rfl)
#print axioms proved
end Go.Proofs.YtcifncmfjlbhjaaDoor.acctNames
