/-
  The Go function HeaderNames returns true: the limits' and errors' numbers, and the chapter's examples.
  Conditions: none. The frame around the walk was written by program (proof-skeleton.mjs).
-/
import Derived.Test.YtpfglincdlmfhaaDoorRows
import Derived.Test.YtpfglincdlmfhaaDoorDoor
import Derived.WalkKit
import Derived.ProofKit
import Derived.OpenShut
import Derived.ShutString
import Derived.ChangeOld
import Derived.Below
import Derived.Test.YtpfglincdlmfhaaDoorAlive14
import Derived.Test.YtpfglincdlmfhaaDoorHdD
import Derived.Test.YtpfglincdlmfhaaDoorOfOne
import Derived.Test.YtpfglincdlmfhaaDoorSls
import Derived.Test.YtpfglincdlmfhaaDoorBits
namespace Go.Proofs.YtpfglincdlmfhaaDoor.headerNames
open Go.ChangeShapes Go.WideShapes Go.ChangeAt Go.RowKit
open Go.ChangeMaps (open_string shut_string)
set_option linter.unusedVariables false      -- a walk need not use every 'w<i>' (that an integer argument fits its kind)

theorem own : ownKnob Tryd.prog.godebug = none := by kernel_rfl

/-! ### the walk -/
open Go.Proofs.YtpfglincdlmfhaaDoor
theorem sizeDgH (k : Dg) : (Tryd.prog.info? 23).map (·.size) = some (k.1.map bv).toArray.size := by rw [List.size_toArray, List.length_map, k.2]; exact size32
theorem zDgH (k : Dg) : z32.size = (k.1.map bv).toArray.size := by rw [z32_size]; simp [k.2]
theorem oneDgH (k : Dg) : (k.1.map bv).toArray.all (·.oneCell') = true := all_oneCell_toArray fun u hu => by
  obtain ⟨x, -, rfl⟩ := List.mem_map.1 hu
  rfl
theorem far_set {j : Nat} (h : j < 108) : (((List.replicate j (255 : UInt8) ++ List.replicate (108 - j) 0).map bv).toArray.setIfInBounds j (bv 255)) = ((List.replicate (j + 1) (255 : UInt8) ++ List.replicate (108 - (j + 1)) 0).map bv).toArray := by
  rw [List.setIfInBounds_toArray, ← List.map_set]
  congr 2
  rw [List.set_append_right _ _ (by simp), List.length_replicate, Nat.sub_self, show 108 - j = (108 - (j + 1)) + 1 by omega, List.replicate_succ, List.set_cons_zero, List.replicate_succ', List.append_assoc]
  rfl
theorem hOne_built (d : Dg) (hd : d = nameD zH) : Tryd.prog.built 25 [(0, .int .i64 1), (1, .agg (d.1.map bv).toArray)] = some (hdC hOne).toArray := by
  have hdl : (d.1.map bv).length = 32 := by rw [List.length_map, d.2]
  have ez : (zeD.1.map bv) = (List.replicate 32 (0 : UInt8)).map bv := rfl
  have e0 : zHdC.toList = [.int .i64 0] ++ (zeD.1.map bv ++ (zeD.1.map bv ++ (zeD.1.map bv ++ [.int .i64 0]))) := by simp [zHdC, hdC, hdS, zH, zeD]
  rw [built_places placesHd, fill_cons (off := 0) (by rfl) (by show 0 + 1 ≤ zHdC.size; rw [zSizeHd zH, List.size_toArray, len_hd]; decide)]
  have e1 : lay zHdC.toList 0 (Value.int .i64 1).cells.toList = [.int .i64 1] ++ (zeD.1.map bv ++ (zeD.1.map bv ++ (zeD.1.map bv ++ [.int .i64 0]))) := by
    rw [e0]
    exact lay_mid [] [.int .i64 0] _ [.int .i64 1] rfl
  show Instr.fill _ (lay zHdC.toList 0 (Value.int .i64 1).cells.toList).toArray _ = _
  rw [e1, fill_cons (off := 1) (by show some (1, 32) = some (1, _); simp [Value.cells, hdl]) (by simp [Value.cells, hdl, ez])]
  have e2 : lay ([.int .i64 1] ++ (zeD.1.map bv ++ (zeD.1.map bv ++ (zeD.1.map bv ++ [.int .i64 0])))) 1 (Value.agg (d.1.map bv).toArray).cells.toList = hdC hOne := by
    have := lay_mid [.int .i64 1] (zeD.1.map bv) (zeD.1.map bv ++ (zeD.1.map bv ++ [.int .i64 0])) (d.1.map bv) (by rw [hdl, ez]; simp)
    refine Eq.trans this ?_
    subst hd
    simp [hdC, hdS, hOne]
  rw [e2, Instr.fill]
set_option linter.unusedSimpArgs false
set_option maxRecDepth 100000 in
set_option maxHeartbeats 8000000 in
theorem walk  (w : World) (hT : Tab w) :
    Calls Tryd.prog 3 #[] w fun e w' => e = .returned (.bool true) ∧ Below w.heap.size w w' := by
  have hu := Tryd.underlying23
  have huh := Tryd.underlying25
  have hlow := hid hT.low
  have H0 := hid hT
  have W0 := hid (Below.refl w.heap.size w)
  obtain ⟨i0, hi0, hz0, hz1, hz2⟩ := info_parts infoU8
  have hR107 := hid (fun A W (h : Rd W A (List.replicate 107 0)) => PHdRead_any A 107 (List.replicate 107 0) W h (by simp) (by decide) (by simp))
  rw [zer107.1, zer107.2, List.length_replicate] at hR107
  have hR109 := hid (fun A W (h : Rd W A (List.replicate 109 0)) => PHdRead_any A 109 (List.replicate 109 0) W h (by simp) (by decide) (by simp))
  rw [zer109.1, zer109.2, List.length_replicate] at hR109
  have hR108 := hid (fun A W (h : Rd W A (List.replicate 108 255)) => PHdRead_any A 108 (List.replicate 108 255) W h (by simp) (by decide) (by simp))
  rw [far108.1, far108.2, List.length_replicate] at hR108
  have hAl := hid (fun W => alive14_any W)
  have hHa := fun W hT => PHdHash_any zH zH_okq W hT
  rw [zH_hash, zH_e] at hHa
  replace hHa := hid hHa
  have hCB := fun W => PHdCheck_any hB_ hB_ok W
  rw [hB_e] at hCB
  replace hCB := hid hCB
  have hCC := fun W => PHdCheck_any hC_ hC_ok W
  rw [hC_e] at hCC
  replace hCC := hid hCC
  have hF1 := fun W hT => PHdFollows_any hOne zH hOne_ok zH_okq W hT
  rw [hOne_follows] at hF1
  replace hF1 := hid hF1
  have hF2 := fun W hT => PHdFollows_any hTwo zH hTwo_ok zH_okq W hT
  rw [hTwo_follows] at hF2
  replace hF2 := hid hF2
  have bB := hid hB_built
  have bC := hid hC_built
  have bT := hid hTwo_built
  have bO := hid (hOne_built (nameD zH) rfl)
  have bZ := hid (show Tryd.prog.built 25 [] = some (hdC zH).toArray from built_hd0)
  have hOf := fun g W (h : Rds W (some ⟨g, 0, none⟩) [hdB zH]) hT => of_rds_any 6 g (hdB zH) W h (by rw [zH_bytes]; decide) hT
  rw [show sha256 (tagB 6 [hdB zH]) = (nameD zH).1 from rfl, zH_bytes] at hOf
  replace hOf := hid hOf
  have hE : ∀ W, (Op.equalIn 10000 23 (.agg ((nameD zH).1.map bv).toArray) (.agg ((nameD zH).1.map bv).toArray)).run Tryd.prog W = .ok true W := fun W => eqd_is _ _ true (decide_eq_true rfl) W
  have hsz := hid (show (Tryd.prog.info? 5).map (·.size) = some 1 by kernel_rfl)
  have nz := hid (one_hd zH)
  have az := hid (sizeHdA zH)
  have zz := hid (zSizeHd zH)
  clear hT
  generalize nameD zH = xd at *
  have ixd := hid (show (Tryd.prog.info? 23).map (·.size) = some (xd.1.map bv).length from by rw [List.length_map, xd.2]; exact size32)
  have zC : zHdC = (hdC zH).toArray := rfl
  replace zC := hid zC
  generalize hdC hB_ = cB at *
  generalize hdC hC_ = cC at *
  generalize hdC hOne = cO at *
  generalize hdC hTwo = cT at *
  go_enter Tryd.func3, Tryd.ntmps3
  go_wp2_with (first
    | (at_make; refine wpList_make_full _ rfl _ _ 29 rfl w.heap.size 5 i0 (.int .u8 0) 1 Tryd.underlying29 hi0 hz0 hz1 _ _ _ _ 107 rfl rfl rfl rfl (by rw [hz2]; omega) (by unfold maxLen; omega) (Nat.le_refl _) ?_; intro w1 hown hgrow; have X1 := hid ((Below.refl _ w).grown hgrow (Nat.le_refl _) (by simp)); have Q1 := hid ((Own.of_block (B := 0) (made_block hown) (Nat.zero_le _) (by decide)).rd); clear hown hgrow; have H1 := hid (H0.out.bel X1.out (Nat.lt_of_lt_of_le hlow.out W0.out.size)); have W1 := hid (W0.out.trans (X1.out.mono W0.out.size)); clear H0 W0))
  refine (hR107.out _ _ Q1.out).mono ?_
  rintro e w2 ⟨rfl, hb⟩
  have H2 := hid (H1.out.bel hb (Nat.lt_of_lt_of_le hlow.out W1.out.size))
  have W2 := hid (W1.out.trans (hb.mono W1.out.size))
  clear H1 W1
  clear hb hR107 Q1
  have e2 := hid (heap_alloc_new w2 (.cells zHdC 25))
  go_wp2_with (first
    | (with_reducible refine wpList_alloc_row rfl 25 rfl zHdC zInfoHd ?_)
    | ((with_reducible refine wpList_store_row rfl 25 (.tmp 1) (.tmp 15) rfl _ _ rfl rfl 25 zHdC ?_ ?_ ?_ ?_ ?_); exact e2.out; exact az.out; exact zz.out; exact nz.out; intro w3 hgS hbS hsS; have X3 := hid (xnewP rfl hbS); clear hgS hbS hsS; have H3 := hid (H2.out.bel X3.out (Nat.lt_of_lt_of_le hlow.out W2.out.size)); have W3 := hid (W2.out.trans (X3.out.mono W2.out.size)); clear H2 W2)
    | (at_make; refine wpList_make_full _ rfl _ _ 29 rfl w3.heap.size 5 i0 (.int .u8 0) 1 Tryd.underlying29 hi0 hz0 hz1 _ _ _ _ 109 rfl rfl rfl rfl (by rw [hz2]; omega) (by unfold maxLen; omega) (Nat.le_refl _) ?_; intro w4 hown hgrow; have X4 := hid ((Below.refl _ w3).grown hgrow (Nat.le_refl _) (by simp)); have Q4 := hid ((Own.of_block (B := 0) (made_block hown) (Nat.zero_le _) (by decide)).rd); clear hown hgrow; have H4 := hid (H3.out.bel X4.out (Nat.lt_of_lt_of_le hlow.out W3.out.size)); have W4 := hid (W3.out.trans (X4.out.mono W3.out.size)); clear H3 W3))
  refine (hR109.out _ _ Q4.out).mono ?_
  rintro e w5 ⟨rfl, hb⟩
  have H5 := hid (H4.out.bel hb (Nat.lt_of_lt_of_le hlow.out W4.out.size))
  have W5 := hid (W4.out.trans (hb.mono W4.out.size))
  clear H4 W4
  clear hb hR109 Q4
  have e5 := hid (heap_alloc_new w5 (.cells zHdC 25))
  go_wp2_with (first
    | (with_reducible refine wpList_alloc_row rfl 25 rfl zHdC zInfoHd ?_)
    | ((with_reducible refine wpList_store_row rfl 25 (.tmp 3) (.tmp 20) rfl _ _ rfl rfl 25 zHdC ?_ ?_ ?_ ?_ ?_); exact e5.out; exact az.out; exact zz.out; exact nz.out; intro w6 hgS hbS hsS; have X6 := hid (xnewP rfl hbS); clear hgS hbS hsS; have H6 := hid (H5.out.bel X6.out (Nat.lt_of_lt_of_le hlow.out W5.out.size)); have W6 := hid (W5.out.trans (X6.out.mono W5.out.size)); clear H5 W5)
    | (at_make; refine wpList_make_full _ rfl _ _ 29 rfl w6.heap.size 5 i0 (.int .u8 0) 1 Tryd.underlying29 hi0 hz0 hz1 _ _ _ _ 108 rfl rfl rfl rfl (by rw [hz2]; omega) (by unfold maxLen; omega) (Nat.le_refl _) ?_; intro w7 hown hgrow; have S6 := hid H6.out; have R6 := hid W6.out;  have X7 := hid ((Below.refl _ w6).grown hgrow (Nat.le_refl _) (by simp)); have Q7 := hid (made_block hown); clear hown hgrow; have H7 := hid (H6.out.bel X7.out (Nat.lt_of_lt_of_le hlow.out W6.out.size)); have W7 := hid (W6.out.trans (X7.out.mono W6.out.size)); clear H6 W6))
  have E6 := hid X7.out
  go_loopw [6] (fun i wr => ∃ j : Nat, j ≤ 108 ∧ i = .int .i64 j ∧ wr.heap[w6.heap.size]? = some (.cells ((List.replicate j (255 : UInt8) ++ List.replicate (108 - j) 0).map bv).toArray 5 (0, 0)) ∧ Below w6.heap.size w6 wr) (fun i _ => 108 - (intOf i).toNat)
  case atStart => exact ⟨0, Nat.zero_le _, rfl, by simpa using Q7.out, X7.out⟩
  case round =>
    obtain ⟨j, hj, rfl, hg, hB⟩ := hrel
    by_cases hlt : j < 108
    · have hlt2 : (j : Int) < 108 := by omega
      have Qr := hid hg
      have Br := hid hB
      clear hg hB
      go_wp2_with (first
        | ((with_reducible refine wpList_store_oneB rfl 5 (.tmp 31) _ rfl w6.heap.size j (bv 255) _ 5 rfl rfl rfl rfl Qr.out ?_ ?_ ?_); exact (by simp; omega); exact hsz.out; intro w8 hg8 hc8; have Q8 := hid hg8; have C8 := hid hc8; clear hg8 hc8))
      go_round
      case rel => exact ⟨j + 1, by omega, by go_num, by rw [← far_set hlt]; exact Q8.out, Br.out.trans (C8.out.below (B := w6.heap.size) Br.out.size (fun b hb e => by omega))⟩
      case measure => simp [intOf]; omega
    · obtain rfl : j = 108 := by omega
      have Q9 := hid ((Own.of_block (B := 0) (l := List.replicate 108 255) (by simpa using hg) (Nat.zero_le _) (by simp [maxLen])).rd)
      have X8 := hid hB
      clear hg hB
      generalize wr = w8 at *
      have H8 := hid (S6.out.bel X8.out (Nat.lt_of_lt_of_le hlow.out R6.out.size))
      have W8 := hid (R6.out.trans (X8.out.mono R6.out.size))
      clear X7 Q7 H7 W7
      go_wp2_with fail
      refine (hR108.out _ _ Q9.out).mono ?_
      rintro e w9 ⟨rfl, hb⟩
      have H9 := hid (H8.out.bel hb (Nat.lt_of_lt_of_le hlow.out W8.out.size))
      have W9 := hid (W8.out.trans (hb.mono W8.out.size))
      clear H8 W8
      clear hb hR108 Q9
      have e9 := hid (heap_alloc_new w9 (.cells zHdC 25))
      go_wp2_with (first
        | (with_reducible refine wpList_alloc_row rfl 25 rfl zHdC zInfoHd ?_)
        | ((with_reducible refine wpList_store_row rfl 25 (.tmp 7) (.tmp 35) rfl _ _ rfl rfl 25 zHdC ?_ ?_ ?_ ?_ ?_); exact e9.out; exact az.out; exact zz.out; exact nz.out; intro w10 hgS hbS hsS; have X10 := hid (xnewP rfl hbS); clear hgS hbS hsS; have H10 := hid (H9.out.bel X10.out (Nat.lt_of_lt_of_le hlow.out W9.out.size)); have W10 := hid (W9.out.trans (X10.out.mono W9.out.size)); clear H9 W9)
        | ((with_reducible refine wpList_built rfl 25 _ rfl (hdC zH).toArray [] ?_ ?_ ?_); exact bZ.out; rfl))
      refine (hHa.out _ H10.out).mono ?_
      rintro e w11 ⟨rfl, hb⟩
      have H11 := hid (H10.out.bel hb (Nat.lt_of_lt_of_le hlow.out W10.out.size))
      have W11 := hid (W10.out.trans (hb.mono W10.out.size))
      clear H10 W10
      clear hb 
      have e11 := hid (heap_alloc_new w11 (.cells z32 23))
      go_wp2_with (first
        | (with_reducible refine wpList_alloc_row rfl 23 rfl z32 info32 ?_)
        | ((with_reducible refine wpList_store_row rfl 23 (.tmp 9) (.tmp 40) rfl _ _ rfl rfl 23 z32 ?_ ?_ ?_ ?_ ?_); exact e11.out; exact sizeDgH xd; exact zDgH xd; exact oneDgH xd; intro w12 hgS hbS hsS; have X12 := hid (xnewP rfl hbS); have D12 := hid (rangeOf (l := xd.1.map bv) hgS); clear hgS hbS hsS; have H12 := hid (H11.out.bel X12.out (Nat.lt_of_lt_of_le hlow.out W11.out.size)); have W12 := hid (W11.out.trans (X12.out.mono W11.out.size)); clear H11 W11)
        | ((with_reducible refine wpList_built rfl 25 _ rfl cB.toArray [(0, .int .i64 (-1))] ?_ ?_ ?_); exact bB.out; rfl))
      refine (hCB.out _).mono ?_
      rintro e w13 ⟨rfl, hb⟩
      have H13 := hid (H12.out.bel hb (Nat.lt_of_lt_of_le hlow.out W12.out.size))
      have W13 := hid (W12.out.trans (hb.mono W12.out.size))
      have D13 := hid (rangeBel2 hb D12.out)
      clear H12 W12 D12
      clear hb 
      go_wp2_with (first
        | ((with_reducible refine wpList_built ?_ 25 _ rfl cC.toArray [(4, .int .i64 257)] ?_ ?_ ?_); rfl; exact bC.out; rfl))
      refine (hCC.out _).mono ?_
      rintro e w14 ⟨rfl, hb⟩
      have H14 := hid (H13.out.bel hb (Nat.lt_of_lt_of_le hlow.out W13.out.size))
      have W14 := hid (W13.out.trans (hb.mono W13.out.size))
      have D14 := hid (rangeBel2 hb D13.out)
      clear H13 W13 D13
      clear hb 
      go_wp2_with fail
      refine wp_region_noPanic ?_
      refine wp_region_held_drew (S := fun w' => Below w14.heap.size w14 w') (by kernel_rfl) ?_ (fun hHeld => ?_)
      · exact bel_drew w14
      refine' wpAnyH_take (i := 0) (oi := _) (v := ?_) rfl (by kernel_rfl) (by kernel_rfl) (by kernel_rfl) (fun _ _ _ h => h) (Or.inl ⟨by rfl, ?_⟩) (by assumption) ?_
      rotate_left
      · intro W hSw
        go_simp
        first | done | (with_reducible rfl)
      try simp only [Act.put, sQa, sQb, sQc, gQa, gQb, gQc]
      refine wpAnyH_ready (rs := [1]) (by kernel_rfl) (by simp) ?_
      refine AllReadyH.cons (o := _) rfl (fun K hK => ?_) AllReadyH.nil
      go_simp
      refine (hAl.out _).mono ?_
      rintro e v1 ⟨rfl, hB⟩
      go_wp2_with fail
      refine hK.out _ _ ?_ (fun hHeld => ?_)
      · exact hHeld.trans (hB.mono hHeld.size)
      clear hK K
      try simp only [Act.put, sQa, sQb, sQc, gQa, gQb, gQc]
      refine' wpAnyH_take (i := 2) (oi := _) (v := ?_) rfl (by kernel_rfl) (by kernel_rfl) (by kernel_rfl) (fun _ _ _ h => h) (Or.inl ⟨by rfl, ?_⟩) (by assumption) ?_
      rotate_left
      · intro W hSw
        go_simp
        first | done | (with_reducible rfl)
      try simp only [Act.put, sQa, sQb, sQc, gQa, gQb, gQc]
      refine' wpAnyH_take (i := 3) (oi := _) (v := ?_) rfl (by kernel_rfl) (by kernel_rfl) (by kernel_rfl) (fun _ _ _ h => h) (Or.inl ⟨by rfl, ?_⟩) (by assumption) ?_
      rotate_left
      · intro W hSw
        go_simp
        first | done | (with_reducible rfl)
      try simp only [Act.put, sQa, sQb, sQc, gQa, gQb, gQc]
      refine' wpAnyH_take (i := 4) (oi := _) (v := ?_) rfl (by kernel_rfl) (by kernel_rfl) (by kernel_rfl) (fun _ _ _ h => h) (Or.inl ⟨by rfl, ?_⟩) (by assumption) ?_
      rotate_left
      · intro W hSw
        go_simp
        first | done | (with_reducible rfl)
      try simp only [Act.put, sQa, sQb, sQc, gQa, gQb, gQc]
      refine' wpAnyH_take (i := 5) (oi := _) (v := ?_) rfl (by kernel_rfl) (by kernel_rfl) (by kernel_rfl) (fun _ _ _ h => h) (Or.inl ⟨by rfl, ?_⟩) (by assumption) ?_
      rotate_left
      · intro W hSw
        go_simp
        first | done | (with_reducible rfl)
      try simp only [Act.put, sQa, sQb, sQc, gQa, gQb, gQc]
      refine' wpAnyH_take (i := 6) (oi := _) (v := ?_) rfl (by kernel_rfl) (by kernel_rfl) (by kernel_rfl) (fun _ _ _ h => h) (Or.inl ⟨by rfl, ?_⟩) (by assumption) ?_
      rotate_left
      · intro W hSw
        go_simp
        first | done | (with_reducible rfl)
      try simp only [Act.put, sQa, sQb, sQc, gQa, gQb, gQc]
      refine' wpAnyH_take (i := 7) (oi := _) (v := ?_) rfl (by kernel_rfl) (by kernel_rfl) (by kernel_rfl) (fun _ _ _ h => h) (Or.inl ⟨by rfl, ?_⟩) (by assumption) ?_
      rotate_left
      · intro W hSw
        go_simp
        first | done | (with_reducible rfl)
      try simp only [Act.put, sQa, sQb, sQc, gQa, gQb, gQc]
      refine' wpAnyH_take (i := 8) (oi := _) (v := ?_) rfl (by kernel_rfl) (by kernel_rfl) (by kernel_rfl) (fun _ _ _ h => h) (Or.inl ⟨by rfl, ?_⟩) (by assumption) ?_
      rotate_left
      · intro W hSw
        go_simp
        first | done | (with_reducible rfl)
      try simp only [Act.put, sQa, sQb, sQc, gQa, gQb, gQc]
      refine' wpAnyH_take (i := 9) (oi := _) (v := ?_) rfl (by kernel_rfl) (by kernel_rfl) (by kernel_rfl) (fun _ _ _ h => h) (Or.inl ⟨by rfl, ?_⟩) (by assumption) ?_
      rotate_left
      · intro W hSw
        go_simp
        first | done | (with_reducible rfl)
      try simp only [Act.put, sQa, sQb, sQc, gQa, gQb, gQc]
      refine' wpAnyH_take (i := 10) (oi := _) (v := ?_) rfl (by kernel_rfl) (by kernel_rfl) (by kernel_rfl) (fun _ _ _ h => h) (Or.inl ⟨by rfl, ?_⟩) (by assumption) ?_
      rotate_left
      · intro W hSw
        go_simp
        first | done | (with_reducible rfl)
      try simp only [Act.put, sQa, sQb, sQc, gQa, gQb, gQc]
      refine' wpAnyH_take (i := 11) (oi := _) (v := ?_) rfl (by kernel_rfl) (by kernel_rfl) (by kernel_rfl) (fun _ _ _ h => h) (Or.inl ⟨by rfl, ?_⟩) (by assumption) ?_
      rotate_left
      · intro W hSw
        go_simp
        first | done | (with_reducible rfl)
      try simp only [Act.put, sQa, sQb, sQc, gQa, gQb, gQc]
      refine' wpAnyH_take (i := 12) (oi := _) (v := ?_) rfl (by kernel_rfl) (by kernel_rfl) (by kernel_rfl) (fun _ _ _ h => h) (Or.inl ⟨by rfl, ?_⟩) (by assumption) ?_
      rotate_left
      · intro W hSw
        go_simp
        first | done | (with_reducible rfl)
      try simp only [Act.put, sQa, sQb, sQc, gQa, gQb, gQc]
      refine' wpAnyH_take (i := 13) (oi := _) (v := ?_) rfl (by kernel_rfl) (by kernel_rfl) (by kernel_rfl) (fun _ _ _ h => h) (Or.inl ⟨by rfl, ?_⟩) (by assumption) ?_
      rotate_left
      · intro W hSw
        go_simp
        first | done | (with_reducible rfl)
      try simp only [Act.put, sQa, sQb, sQc, gQa, gQb, gQc]
      refine' wpAnyH_take (i := 14) (oi := _) (v := ?_) rfl (by kernel_rfl) (by kernel_rfl) (by kernel_rfl) (fun _ _ _ h => h) (Or.inl ⟨by rfl, ?_⟩) (by assumption) ?_
      rotate_left
      · intro W hSw
        go_simp
        first | done | (with_reducible rfl)
      try simp only [Act.put, sQa, sQb, sQc, gQa, gQb, gQc]
      refine' wpAnyH_take (i := 15) (oi := _) (v := ?_) rfl (by kernel_rfl) (by kernel_rfl) (by kernel_rfl) (fun _ _ _ h => h) (Or.inl ⟨by rfl, ?_⟩) (by assumption) ?_
      rotate_left
      · intro W hSw
        go_simp
        first | done | (with_reducible rfl)
      try simp only [Act.put, sQa, sQb, sQc, gQa, gQb, gQc]
      refine' wpAnyH_take (i := 16) (oi := _) (v := ?_) rfl (by kernel_rfl) (by kernel_rfl) (by kernel_rfl) (fun _ _ _ h => h) (Or.inl ⟨by rfl, ?_⟩) (by assumption) ?_
      rotate_left
      · intro W hSw
        go_simp
        first | done | (with_reducible rfl)
      try simp only [Act.put, sQa, sQb, sQc, gQa, gQb, gQc]
      refine' wpAnyH_take (i := 17) (oi := _) (v := ?_) rfl (by kernel_rfl) (by kernel_rfl) (by kernel_rfl) (fun _ _ _ h => h) (Or.inl ⟨by rfl, ?_⟩) (by assumption) ?_
      rotate_left
      · intro W hSw
        go_simp
        first | done | (with_reducible rfl)
      try simp only [Act.put, sQa, sQb, sQc, gQa, gQb, gQc]
      refine' wpAnyH_take (i := 18) (oi := _) (v := ?_) rfl (by kernel_rfl) (by kernel_rfl) (by kernel_rfl) (fun _ _ _ h => h) (Or.inl ⟨by rfl, ?_⟩) (by assumption) ?_
      rotate_left
      · intro W hSw
        go_simp
        first | done | (with_reducible rfl)
      try simp only [Act.put, sQa, sQb, sQc, gQa, gQb, gQc]
      refine' wpAnyH_take (i := 19) (oi := _) (v := ?_) rfl (by kernel_rfl) (by kernel_rfl) (by kernel_rfl) (fun _ _ _ h => h) (Or.inl ⟨by rfl, ?_⟩) (by assumption) ?_
      rotate_left
      · intro W hSw
        go_simp
        first | done | (with_reducible rfl)
      try simp only [Act.put, sQa, sQb, sQc, gQa, gQb, gQc]
      refine' wpAnyH_take (i := 20) (oi := _) (v := _) rfl (by kernel_rfl) (by kernel_rfl) (by kernel_rfl) (fun _ _ _ h => h) (yieldsIf_load_mid (by rfl) _ _ rfl _ _ rfl _ _ (fun _ h => rangeBel2 h D14.out) hu rfl ixd.out) (by assumption) ?_
      try simp only [Act.put, sQa, sQb, sQc, gQa, gQb, gQc]
      refine wpAnyH_ready (rs := [21]) (by kernel_rfl) (by simp) ?_
      refine AllReadyH.cons (o := _) rfl (fun K hK => ?_) AllReadyH.nil
      refine step_makeB (by rfl) _ _ rfl 108 rfl rfl (by decide) ?_
      intro g21 v21 e21 hR21 hB
      have R21 := hid hR21
      clear hR21
      refine hK.out _ _ ?_ (fun hHeld => ?_)
      · exact hHeld.trans (hB.mono hHeld.size)
      clear hK K
      try simp only [Act.put, sQa, sQb, sQc, gQa, gQb, gQc]
      refine wpAnyH_ready (rs := [22]) (by kernel_rfl) (by simp) ?_
      refine AllReadyH.cons (o := _) rfl (fun K hK => ?_) AllReadyH.nil
      refine step_buildSl (by rfl) (.tmp 71) rfl (some ⟨g21, 0, none⟩) 108 108 (List.replicate 108 0) rfl (by simp) R21.out ⟨by simp, by decide⟩ ?_
      intro g22 v22 hR22 hB
      have R22 := hid hR22
      clear hR22
      refine hK.out _ _ ?_ (fun hHeld => ?_)
      · exact hHeld.trans (hB.mono hHeld.size)
      clear hK K
      try simp only [Act.put, sQa, sQb, sQc, gQa, gQb, gQc]
      refine wpAnyH_ready (rs := [23]) (by kernel_rfl) (by simp) ?_
      refine AllReadyH.cons (o := _) rfl (fun K hK => ?_) AllReadyH.nil
      go_simp
      refine (hOf.out g22 _ R22.out (H14.out.bel hHeld (Nat.lt_of_lt_of_le hlow.out W14.out.size))).mono ?_
      rintro e v23 ⟨rfl, hB⟩
      go_wp2_with fail
      refine hK.out _ _ ?_ (fun hHeld => ?_)
      · exact hHeld.trans (hB.mono hHeld.size)
      clear hK K
      try simp only [Act.put, sQa, sQb, sQc, gQa, gQb, gQc]
      refine' wpAnyH_take (i := 24) (oi := _) (v := ?_) rfl (by kernel_rfl) (by kernel_rfl) (by kernel_rfl) (fun _ _ _ h => h) (Or.inl ⟨by rfl, ?_⟩) (by assumption) ?_
      rotate_left
      · intro W hSw
        go_simp
        first | done | (with_reducible rfl)
      try simp only [Act.put, sQa, sQb, sQc, gQa, gQb, gQc]
      refine' wpAnyH_take (i := 25) (oi := _) (v := ?_) rfl (by kernel_rfl) (by kernel_rfl) (by kernel_rfl) (fun _ _ _ h => h) (Or.inl ⟨by rfl, ?_⟩) (by assumption) ?_
      rotate_left
      · intro W hSw
        go_simp
        first | done | (with_reducible rfl)
      try simp only [Act.put, sQa, sQb, sQc, gQa, gQb, gQc]
      refine' wpAnyH_take (i := 26) (oi := _) (v := ?_) rfl (by kernel_rfl) (by kernel_rfl) (by kernel_rfl) (fun _ _ _ h => h) (Or.inl ⟨by rfl, ?_⟩) (by assumption) ?_
      rotate_left
      · intro W hSw
        go_simp
        first | done | (with_reducible rfl)
      try simp only [Act.put, sQa, sQb, sQc, gQa, gQb, gQc]
      refine' wpAnyH_take (i := 27) (oi := _) (v := ?_) rfl (by kernel_rfl) (by kernel_rfl) (by kernel_rfl) (fun _ _ _ h => h) (Or.inl ⟨by rfl, ?_⟩) (by assumption) ?_
      rotate_left
      · intro W hSw
        go_simp
        first | done | (with_reducible rfl)
      try simp only [Act.put, sQa, sQb, sQc, gQa, gQb, gQc]
      refine' wpAnyH_take (i := 28) (oi := _) (v := ?_) rfl (by kernel_rfl) (by kernel_rfl) (by kernel_rfl) (fun _ _ _ h => h) (Or.inl ⟨by rfl, ?_⟩) (by assumption) ?_
      rotate_left
      · intro W hSw
        go_simp
        first | done | (with_reducible rfl)
      try simp only [Act.put, sQa, sQb, sQc, gQa, gQb, gQc]
      refine' wpAnyH_take (i := 29) (oi := _) (v := ?_) rfl (by kernel_rfl) (by kernel_rfl) (by kernel_rfl) (fun _ _ _ h => h) (Or.inl ⟨by rfl, ?_⟩) (by assumption) ?_
      rotate_left
      · intro W hSw
        go_simp
        first | done | (with_reducible rfl)
      try simp only [Act.put, sQa, sQb, sQc, gQa, gQb, gQc]
      refine' wpAnyH_take (i := 30) (oi := _) (v := _) rfl (by kernel_rfl) (by kernel_rfl) (by kernel_rfl) (fun _ _ _ h => h) (yieldsIf_load_mid (by rfl) _ _ rfl _ _ rfl _ _ (fun _ h => rangeBel2 h D14.out) hu rfl ixd.out) (by assumption) ?_
      try simp only [Act.put, sQa, sQb, sQc, gQa, gQb, gQc]
      refine' wpAnyH_take (i := 31) (oi := _) (v := _) rfl (by kernel_rfl) (by kernel_rfl) (by kernel_rfl) (fun _ _ _ h => h) (yieldsIf_build (by rfl) _ _ rfl _ _ (bO.out) rfl) (by assumption) ?_
      try simp only [Act.put, sQa, sQb, sQc, gQa, gQb, gQc]
      refine' wpAnyH_take (i := 32) (oi := _) (v := _) rfl (by kernel_rfl) (by kernel_rfl) (by kernel_rfl) (fun _ _ _ h => h) (yieldsIf_build (by rfl) _ _ rfl _ _ (bZ.out) rfl) (by assumption) ?_
      try simp only [Act.put, sQa, sQb, sQc, gQa, gQb, gQc]
      refine wpAnyH_ready (rs := [33]) (by kernel_rfl) (by simp) ?_
      refine AllReadyH.cons (o := _) rfl (fun K hK => ?_) AllReadyH.nil
      go_simp
      refine (hF1.out _ (H14.out.bel hHeld (Nat.lt_of_lt_of_le hlow.out W14.out.size))).mono ?_
      rintro e v33 ⟨rfl, hB⟩
      try replace R21 := hid (R21.out.bel hB)
      try replace R22 := hid (R22.out.bel hB)
      go_wp2_with fail
      refine hK.out _ _ ?_ (fun hHeld => ?_)
      · exact hHeld.trans (hB.mono hHeld.size)
      clear hK K
      try simp only [Act.put, sQa, sQb, sQc, gQa, gQb, gQc]
      refine' wpAnyH_take (i := 34) (oi := _) (v := ?_) rfl (by kernel_rfl) (by kernel_rfl) (by kernel_rfl) (fun _ _ _ h => h) (Or.inl ⟨by rfl, ?_⟩) (by assumption) ?_
      rotate_left
      · intro W hSw
        go_simp
        first | done | (with_reducible rfl)
      try simp only [Act.put, sQa, sQb, sQc, gQa, gQb, gQc]
      refine' wpAnyH_take (i := 35) (oi := _) (v := ?_) rfl (by kernel_rfl) (by kernel_rfl) (by kernel_rfl) (fun _ _ _ h => h) (Or.inl ⟨by rfl, ?_⟩) (by assumption) ?_
      rotate_left
      · intro W hSw
        go_simp
        first | done | (with_reducible rfl)
      try simp only [Act.put, sQa, sQb, sQc, gQa, gQb, gQc]
      refine' wpAnyH_take (i := 36) (oi := _) (v := _) rfl (by kernel_rfl) (by kernel_rfl) (by kernel_rfl) (fun _ _ _ h => h) (yieldsIf_build (by rfl) _ _ rfl _ _ (bT.out) rfl) (by assumption) ?_
      try simp only [Act.put, sQa, sQb, sQc, gQa, gQb, gQc]
      refine' wpAnyH_take (i := 37) (oi := _) (v := _) rfl (by kernel_rfl) (by kernel_rfl) (by kernel_rfl) (fun _ _ _ h => h) (yieldsIf_build (by rfl) _ _ rfl _ _ (bZ.out) rfl) (by assumption) ?_
      try simp only [Act.put, sQa, sQb, sQc, gQa, gQb, gQc]
      refine wpAnyH_ready (rs := [38]) (by kernel_rfl) (by simp) ?_
      refine AllReadyH.cons (o := _) rfl (fun K hK => ?_) AllReadyH.nil
      go_simp
      refine (hF2.out _ (H14.out.bel hHeld (Nat.lt_of_lt_of_le hlow.out W14.out.size))).mono ?_
      rintro e v38 ⟨rfl, hB⟩
      try replace R21 := hid (R21.out.bel hB)
      try replace R22 := hid (R22.out.bel hB)
      go_wp2_with fail
      refine hK.out _ _ ?_ (fun hHeld => ?_)
      · exact hHeld.trans (hB.mono hHeld.size)
      clear hK K
      try simp only [Act.put, sQa, sQb, sQc, gQa, gQb, gQc]
      refine' wpAnyH_take (i := 39) (oi := _) (v := ?_) rfl (by kernel_rfl) (by kernel_rfl) (by kernel_rfl) (fun _ _ _ h => h) (Or.inl ⟨by rfl, ?_⟩) (by assumption) ?_
      rotate_left
      · intro W hSw
        go_simp
        first | done | (with_reducible rfl)
      try simp only [Act.put, sQa, sQb, sQc, gQa, gQb, gQc]
      refine' wpAnyH_take (i := 40) (oi := _) (v := ?_) rfl (by kernel_rfl) (by kernel_rfl) (by kernel_rfl) (fun _ _ _ h => h) (Or.inl ⟨by rfl, ?_⟩) (by assumption) ?_
      rotate_left
      · intro W hSw
        go_simp
        first | done | (with_reducible rfl)
      try simp only [Act.put, sQa, sQb, sQc, gQa, gQb, gQc]
      refine' wpAnyH_take (i := 41) (oi := _) (v := ?_) rfl (by kernel_rfl) (by kernel_rfl) (by kernel_rfl) (fun _ _ _ h => h) (Or.inl ⟨by rfl, ?_⟩) (by assumption) ?_
      rotate_left
      · intro W hSw
        go_simp
        first | done | (with_reducible rfl)
      try simp only [Act.put, sQa, sQb, sQc, gQa, gQb, gQc]
      refine wpAnyH_done (by kernel_rfl) ?_ _
      refine NoPanic.normal ?_
      go_wp2
      go_ret
      exact ⟨rfl, W14.out.trans (hHeld.mono W14.out.size)⟩

/-! ### WHAT THE WALK GIVES, FOR EVERY ARGUMENT AND EVERY WORLD THAT HOLDS THE TABLE -/
set_option maxRecDepth 100000 in
theorem contract (H : Type) (enc : TypeId × Value → H) (W : World) (base : Nat) (args : Array Value) (ds gs : List (DataW H)) (before : List MemPlace)
    (hval0 : ∀ (j : Nat) t v, Tryd.f3.params[j]? = some t → args[j]? = some v → Value.okWide Tryd.prog W .any base t v)
    (hW : DataW.Whole enc Tryd.prog Tryd.f3.params.toList Rows.headerNamesSpec.vars false W args.toList ds gs before) (hL : laidMetH Tryd.prog Rows.headerNamesRow.laid W) :
    Calls Tryd.prog 3 args W fun e W' => ∃ v, e = .returned v ∧ Rows.headerNamesSpec.post enc Tryd.prog Tryd.f3 false true false false W args v W' := by
  have hval : ∀ (j : Nat) t v, Tryd.f3.params[j]? = some t → args[j]? = some v → Value.okWide Tryd.prog W .any base t v := hval0
  have hW' := hW
  obtain ⟨p, q, hA0, hV, rfl, hfz, hnd⟩ := hW
  have hA : DataW.TrodAll enc Tryd.prog W 0 (fun _ => true) true Tryd.f3.params.toList args.toList ds p := hA0
  rw [Tryd.params3] at hA hval
  obtain ⟨rfl, rfl, rfl⟩ := trodAll_none hA
  obtain ⟨rfl, rfl⟩ := trodVars_none hV
  clear hA0 hval0
  refine (walk  W (tab_of hL)).mono fun e W' ⟨he, bel⟩ => ?_
  subst he
  exact ⟨_, rfl, _, _, _, [], _, [], hW', trodAll_mk1 (shut_bool Tryd.underlying4 _), trodAll_mk0, rfl, bel.frame _, fun h => by cases h⟩

theorem laid_met (os : Os) : laidMet Tryd.prog Rows.headerNamesRow.laid ((laidWorld os).forCall (fun _ _ => 0) ⟨#[], #[], []⟩).memory :=
  laidMet_of_run' 8 (by kernel_rfl) (by kernel_rfl)
theorem reads (os : Os) {H : Type} (enc : TypeId × Value → H) : ∃ places, DataW.whole enc Tryd.prog ((laidWorld os).forCall (fun _ _ => 0) ⟨#[], #[], []⟩).memory Tryd.f3.params.toList Rows.headerNamesSpec.vars false (#[] : Array Value).toList 8 = some ([], [], places) :=
  ⟨[], by kernel_rfl⟩
set_option maxRecDepth 100000 in
theorem lifted (os : Os) (started : os.Started) (H : Type) (enc : TypeId × Value → H) (F : Stop.Interp) :
    ReturnsInHanded {} Tryd.checked os 3 .any ((OpenSpec.ofChange Rows.headerNamesSpec).preRow enc Tryd.prog Tryd.f3 Rows.headerNamesRow.domain false Rows.headerNamesRow.laid) (((OpenSpec.ofChange Rows.headerNamesSpec).at F).post enc Tryd.prog Tryd.f3 false true false false) := by
  obtain ⟨places, hx⟩ := reads os enc
  refine returnsInHanded_of_row (C := Tryd.checked) (s := OpenSpec.ofChange Rows.headerNamesSpec) own started (by kernel_rfl) Tryd.func3
    (witness_row_at (enc := enc) (C := Tryd.checked) false (laidWorld os) #[] rfl (by kernel_rfl) (by kernel_rfl) (by kernel_rfl)
      (OpenSpec.preRow_of_cond 8 hx (by kernel_rfl) (fun k hk => by cases hk) (by kernel_rfl) (laid_met os))) ?_
  intro W base args ds gs before hval hW _ _ _ hL _ _
  exact contract H enc W base args ds gs before hval hW hL
theorem said : Rows.HeaderNamesSaid :=
  OpenClaim.holds_of_cond 3 Tryd.f3 rfl rfl rfl rfl rfl rfl rfl ⟨rfl, rfl, rfl, rfl, rfl⟩ rfl rfl rfl rfl rfl (by kernel_rfl) Tryd.func3 (by kernel_rfl)
    (of_decide_eq_true (by kernel_rfl)) (by unfold Func.isWrapper; first | (rw [if_pos (by decide +kernel)]; kernel_rfl) | (rw [if_neg (by decide +kernel)]; exact ⟨rfl, rfl⟩))
    (fun os started H enc _ F => by rw [OpenClaim.pre_eq_preRow]; exact lifted os started H enc F)
set_option maxRecDepth 100000 in
/-- No parameter wants a stand-in; the program's own looks are off: what the card asks. -/
theorem plain (f : FuncId) (fn : Func) (hf : Tryd.pinned.checked.prog.funcNamed "beadroll/beadrolllaw14.HeaderNames" = some f) (hfn : Tryd.pinned.checked.prog.funcs[f]? = some fn) :
    false = Tryd.pinned.checked.prog.looks [] ∧ ∀ (j : Nat) t, fn.params[j]? = some t → Tryd.pinned.checked.prog.wantsStandIn t = false := by
  obtain rfl : f = 3 := Option.some.inj ((show Tryd.prog.funcNamed "beadroll/beadrolllaw14.HeaderNames" = some 3 by kernel_rfl).symm.trans hf) |>.symm
  obtain rfl : fn = Tryd.f3 := (Option.some.inj (Tryd.func3.symm.trans hfn)).symm
  refine ⟨by kernel_rfl, fun j t ht => ?_⟩
  rw [Tryd.params3] at ht
  simp at ht
set_option maxRecDepth 100000 in
/-- ████ THE CARD ████ -/
theorem proved : Rows.HeaderNamesCardSaid :=
  Claim7.holds_tied_plain_at .later [] _ _ _ _ said (fun _ h => by cases h) (by kernel_rfl) (fun _ h => by cases h) headerNames_row_tie rfl ⟨rfl, rfl⟩ (by kernel_rfl) rfl plain (by kernel_rfl)
#print axioms proved
end Go.Proofs.YtpfglincdlmfhaaDoor.headerNames
