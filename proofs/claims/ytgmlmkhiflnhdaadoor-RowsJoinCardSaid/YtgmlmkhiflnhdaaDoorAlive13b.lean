/-
  Layer 13's laws: the chapter's first examples.
-/
import Derived.Test.YtgmlmkhiflnhdaaDoorRwS
import Derived.Test.YtgmlmkhiflnhdaaDoorAlive13
namespace Go.Proofs.YtgmlmkhiflnhdaaDoor
open Go.RowKit
set_option linter.unusedVariables false
set_option linter.unusedSimpArgs false
set_option maxRecDepth 100000

theorem rd_upto {w : World} {b o : Nat} {ls : List (List UInt8)} (h : Rds w (some ⟨b, o, none⟩) ls) (k : Nat) : Rds w (some ⟨b, o, none⟩) (ls.take k) := h.take k
set_option maxHeartbeats 4000000 in
theorem alive13_any (w0 : World) (hT : Tab w0) : Calls Tryd.prog 12 #[] w0 fun e w' => e = .returned (.bool true) ∧ Below w0.heap.size w0 w' := by
  have hu := Tryd.underlying29
  have hlow := hid hT.low
  have H0 := hid hT
  have W0 := hid (Below.refl w0.heap.size w0)
  have hRn := fun W hT => PRwRoot_any none 0 [] W (fun h => absurd h (by simp)) (Nat.le_refl _) (Nat.zero_le _) (by simp) hT
  rw [show rootRL [] = noneR from rfl, show (if listR [] = true then (0 : Int) else 8) = 0 from rfl, List.length_nil] at hRn
  replace hRn := hid hRn
  have hR1 := fun g W (h : Rds W (some ⟨g, 0, none⟩) [[97]]) hT => PRwRoot_any (some ⟨g, 0, none⟩) 3 [[97]] W h (by simp) (by decide) (by simp) hT
  rw [show rootRL [[97]] = laR from by unfold rootRL; rw [if_pos one_list]; rfl, show (if listR [[97]] = true then (0 : Int) else 8) = 0 from rfl, show [[(97 : UInt8)]].length = 1 from rfl] at hR1
  replace hR1 := hid hR1
  have hR3 := fun g W (h : Rds W (some ⟨g, 0, none⟩) abcR) hT => PRwRoot_any (some ⟨g, 0, none⟩) 3 abcR W h (by decide) (by decide) (by decide) hT
  rw [show rootRL abcR = forkR (forkR laR lbR) lcR from by unfold rootRL; rw [if_pos abc_list, root_abc], show (if listR abcR = true then (0 : Int) else 8) = 0 from by rw [if_pos abc_list], show abcR.length = 3 from rfl] at hR3
  replace hR3 := hid hR3
  have hA := hid (fun W => abc13_any W)
  have hN : Hid (∀ W, Tab W → Calls Tryd.prog 28 #[] W fun e w' => e = .returned (.agg (noneR.1.map bv).toArray) ∧ Below W.heap.size W w') := hid (fun W hT => TNone_any W hT)
  have hLa : Hid (∀ W, Tab W → Calls Tryd.prog 14 #[.string { data := #[97] }] W fun e w' => e = .returned (.agg (laR.1.map bv).toArray) ∧ Below W.heap.size W w') := hid (fun W hT => leaf13_any 97 _ rfl W hT)
  have hLb : Hid (∀ W, Tab W → Calls Tryd.prog 14 #[.string { data := #[98] }] W fun e w' => e = .returned (.agg (lbR.1.map bv).toArray) ∧ Below W.heap.size W w') := hid (fun W hT => leaf13_any 98 _ rfl W hT)
  have hLc : Hid (∀ W, Tab W → Calls Tryd.prog 14 #[.string { data := #[99] }] W fun e w' => e = .returned (.agg (lcR.1.map bv).toArray) ∧ Below W.heap.size W w') := hid (fun W hT => leaf13_any 99 _ rfl W hT)
  have hF1 := hid (fun W hT => fork13_any laR lbR W hT)
  have hF2 := hid (fun W hT => fork13_any (forkR laR lbR) lcR W hT)
  have eN : ∀ W, (Op.equalIn 10000 29 (.agg (noneR.1.map bv).toArray) (.agg (noneR.1.map bv).toArray)).run Tryd.prog W = .ok true W := fun W => eqd_is _ _ true (decide_eq_true rfl) W
  have eA : ∀ W, (Op.equalIn 10000 29 (.agg (laR.1.map bv).toArray) (.agg (laR.1.map bv).toArray)).run Tryd.prog W = .ok true W := fun W => eqd_is _ _ true (decide_eq_true rfl) W
  have eF : ∀ W, (Op.equalIn 10000 29 (.agg ((forkR (forkR laR lbR) lcR).1.map bv).toArray) (.agg ((forkR (forkR laR lbR) lcR).1.map bv).toArray)).run Tryd.prog W = .ok true W := fun W => eqd_is _ _ true (decide_eq_true rfl) W
  have uA : ∀ W, (Op.equalIn 10000 29 (.agg (laR.1.map bv).toArray) (.agg (noneR.1.map bv).toArray)).run Tryd.prog W = .ok false W := fun W => eqd_is _ _ false unlike1 W
  have uF : ∀ W, (Op.equalIn 10000 29 (.agg ((forkR (forkR laR lbR) lcR).1.map bv).toArray) (.agg (laR.1.map bv).toArray)).run Tryd.prog W = .ok false W := fun W => eqd_is _ _ false unlike2 W
  clear hT
  generalize forkR (forkR laR lbR) lcR = xf at *
  generalize forkR laR lbR = xab at *
  generalize laR = xa at *
  generalize lbR = xb at *
  generalize lcR = xc at *
  generalize noneR = xn at *
  have ixn := hid (show (Tryd.prog.info? 29).map (·.size) = some (xn.1.map bv).length from by rw [List.length_map, xn.2]; exact size32)
  have ixa := hid (show (Tryd.prog.info? 29).map (·.size) = some (xa.1.map bv).length from by rw [List.length_map, xa.2]; exact size32)
  have ixf := hid (show (Tryd.prog.info? 29).map (·.size) = some (xf.1.map bv).length from by rw [List.length_map, xf.2]; exact size32)
  go_enter Tryd.func12, Tryd.ntmps12
  go_wp2_with fail
  refine (hRn.out _ H0.out).mono ?_
  rintro e w1 ⟨rfl, hb⟩
  have H1 := hid (H0.out.bel hb (Nat.lt_of_lt_of_le hlow.out W0.out.size))
  have W1 := hid (W0.out.trans (hb.mono W0.out.size))
  clear H0 W0
  clear hb 
  have e1 := hid (heap_alloc_new w1 (.cells z32 29))
  go_wp2_with (first
    | (with_reducible refine wpList_alloc_row rfl 29 rfl z32 info32 ?_)
    | ((with_reducible refine wpList_store_row rfl 29 (.tmp 1) (.tmp 9) rfl _ _ rfl rfl 29 z32 ?_ ?_ ?_ ?_ ?_); exact e1.out; exact sizeDgR xn; exact zDgR xn; exact oneDgR xn; intro w2 hgS hbS hsS; have X2 := hid (xnewP rfl hbS); have N2 := hid (rangeOf (l := xn.1.map bv) hgS); clear hgS hbS hsS; have H2 := hid (H1.out.bel X2.out (Nat.lt_of_lt_of_le hlow.out W1.out.size)); have W2 := hid (W1.out.trans (X2.out.mono W1.out.size)); clear H1 W1))
  refine (hA.out _).mono ?_
  rintro e w3 ⟨g3, rfl, hR, hb⟩
  have H3 := hid (H2.out.bel hb (Nat.lt_of_lt_of_le hlow.out W2.out.size))
  have W3 := hid (W2.out.trans (hb.mono W2.out.size))
  have N3 := hid (rangeBel2 hb N2.out)
  clear H2 W2 N2
  have R3 := hid (hR.take 1)
  clear hb hR
  go_wp2_with fail
  refine (hR1.out g3 _ R3.out H3.out).mono ?_
  rintro e w4 ⟨rfl, hb⟩
  have H4 := hid (H3.out.bel hb (Nat.lt_of_lt_of_le hlow.out W3.out.size))
  have W4 := hid (W3.out.trans (hb.mono W3.out.size))
  have N4 := hid (rangeBel2 hb N3.out)
  clear H3 W3 N3
  clear hb R3
  have e4 := hid (heap_alloc_new w4 (.cells z32 29))
  go_wp2_with (first
    | (with_reducible refine wpList_alloc_row rfl 29 rfl z32 info32 ?_)
    | ((with_reducible refine wpList_store_row rfl 29 (.tmp 3) (.tmp 15) rfl _ _ rfl rfl 29 z32 ?_ ?_ ?_ ?_ ?_); exact e4.out; exact sizeDgR xa; exact zDgR xa; exact oneDgR xa; intro w5 hgS hbS hsS; have X5 := hid (xnewP rfl hbS); have A5 := hid (rangeOf (l := xa.1.map bv) hgS); clear hgS hbS hsS; have H5 := hid (H4.out.bel X5.out (Nat.lt_of_lt_of_le hlow.out W4.out.size)); have W5 := hid (W4.out.trans (X5.out.mono W4.out.size)); have N5 := hid (rangeBel2 X5.out N4.out); clear H4 W4 N4))
  refine (hA.out _).mono ?_
  rintro e w6 ⟨g6, rfl, hR, hb⟩
  have H6 := hid (H5.out.bel hb (Nat.lt_of_lt_of_le hlow.out W5.out.size))
  have W6 := hid (W5.out.trans (hb.mono W5.out.size))
  have N6 := hid (rangeBel2 hb N5.out)
  have A6 := hid (rangeBel2 hb A5.out)
  clear H5 W5 N5 A5
  have R6 := hid hR
  clear hb hR
  go_wp2_with fail
  refine (hR3.out g6 _ R6.out H6.out).mono ?_
  rintro e w7 ⟨rfl, hb⟩
  have H7 := hid (H6.out.bel hb (Nat.lt_of_lt_of_le hlow.out W6.out.size))
  have W7 := hid (W6.out.trans (hb.mono W6.out.size))
  have N7 := hid (rangeBel2 hb N6.out)
  have A7 := hid (rangeBel2 hb A6.out)
  clear H6 W6 N6 A6
  clear hb R6
  have e7 := hid (heap_alloc_new w7 (.cells z32 29))
  go_wp2_with (first
    | (with_reducible refine wpList_alloc_row rfl 29 rfl z32 info32 ?_)
    | ((with_reducible refine wpList_store_row rfl 29 (.tmp 5) (.tmp 20) rfl _ _ rfl rfl 29 z32 ?_ ?_ ?_ ?_ ?_); exact e7.out; exact sizeDgR xf; exact zDgR xf; exact oneDgR xf; intro w8 hgS hbS hsS; have X8 := hid (xnewP rfl hbS); have F8 := hid (rangeOf (l := xf.1.map bv) hgS); clear hgS hbS hsS; have H8 := hid (H7.out.bel X8.out (Nat.lt_of_lt_of_le hlow.out W7.out.size)); have W8 := hid (W7.out.trans (X8.out.mono W7.out.size)); have N8 := hid (rangeBel2 X8.out N7.out); have A8 := hid (rangeBel2 X8.out A7.out); clear H7 W7 N7 A7))
  refine wp_region_noPanic ?_
  refine wp_region_held_drew (S := fun w' => Below w8.heap.size w8 w') (by kernel_rfl) ?_ (fun hHeld => ?_)
  · exact bel_drew w8
  refine' wpAnyH_take (i := 0) (oi := _) (v := ?_) rfl (by kernel_rfl) (by kernel_rfl) (by kernel_rfl) (fun _ _ _ h => h) (Or.inl ⟨by rfl, ?_⟩) (by assumption) ?_
  rotate_left
  · intro W hSw
    go_simp
    first | done | (with_reducible rfl)
  try simp only [Act.put, sQa, sQb, sQc, gQa, gQb, gQc]
  refine' wpAnyH_take (i := 1) (oi := _) (v := ?_) rfl (by kernel_rfl) (by kernel_rfl) (by kernel_rfl) (fun _ _ _ h => h) (Or.inl ⟨by rfl, ?_⟩) (by assumption) ?_
  rotate_left
  · intro W hSw
    go_simp
    first | done | (with_reducible rfl)
  try simp only [Act.put, sQa, sQb, sQc, gQa, gQb, gQc]
  refine' wpAnyH_take (i := 2) (oi := _) (v := ?_) rfl (by kernel_rfl) (by kernel_rfl) (by kernel_rfl) (fun _ _ _ h => h) (Or.inl ⟨by rfl, ?_⟩) (by assumption) ?_
  rotate_left
  · intro W hSw
    go_simp
    first | done | (with_reducible rfl)
  try simp only [Act.put, sQa, sQb, sQc, gQa, gQb, gQc]
  refine' wpAnyH_take (i := 3) (oi := _) (v := _) rfl (by kernel_rfl) (by kernel_rfl) (by kernel_rfl) (fun _ _ _ h => h) (yieldsIf_load_mid (by rfl) _ _ rfl _ _ rfl _ _ (fun _ h => rangeBel2 h N8.out) hu rfl ixn.out) (by assumption) ?_
  try simp only [Act.put, sQa, sQb, sQc, gQa, gQb, gQc]
  refine wpAnyH_ready (rs := [4]) (by kernel_rfl) (by simp) ?_
  refine AllReadyH.cons (o := _) rfl (fun K hK => ?_) AllReadyH.nil
  go_simp
  refine (hN.out _ (H8.out.bel hHeld (Nat.lt_of_lt_of_le hlow.out W8.out.size))).mono ?_
  rintro e v4 ⟨rfl, hB⟩
  go_wp2_with fail
  refine hK.out _ _ ?_ (fun hHeld => ?_)
  · exact hHeld.trans (hB.mono hHeld.size)
  clear hK K
  try simp only [Act.put, sQa, sQb, sQc, gQa, gQb, gQc]
  refine' wpAnyH_take (i := 5) (oi := _) (v := ?_) rfl (by kernel_rfl) (by kernel_rfl) (by kernel_rfl) (fun _ _ _ h => h) (Or.inl ⟨by rfl, ?_⟩) (by assumption) ?_
  rotate_left
  · intro W hSw
    go_simp
    first | done | (with_reducible rfl)
  try simp only [Act.put, sQa, sQb, sQc, gQa, gQb, gQc]
  refine' wpAnyH_take (i := 6) (oi := _) (v := ?_) rfl (by kernel_rfl) (by kernel_rfl) (by kernel_rfl) (fun _ _ _ h => h) (Or.inl ⟨by rfl, ?_⟩) (by assumption) ?_
  rotate_left
  · intro W hSw
    go_simp
    first | done | (with_reducible rfl)
  try simp only [Act.put, sQa, sQb, sQc, gQa, gQb, gQc]
  refine' wpAnyH_take (i := 7) (oi := _) (v := ?_) rfl (by kernel_rfl) (by kernel_rfl) (by kernel_rfl) (fun _ _ _ h => h) (Or.inl ⟨by rfl, ?_⟩) (by assumption) ?_
  rotate_left
  · intro W hSw
    go_simp
    first | done | (with_reducible rfl)
  try simp only [Act.put, sQa, sQb, sQc, gQa, gQb, gQc]
  refine' wpAnyH_take (i := 8) (oi := _) (v := ?_) rfl (by kernel_rfl) (by kernel_rfl) (by kernel_rfl) (fun _ _ _ h => h) (Or.inl ⟨by rfl, ?_⟩) (by assumption) ?_
  rotate_left
  · intro W hSw
    go_simp
    first | done | (with_reducible rfl)
  try simp only [Act.put, sQa, sQb, sQc, gQa, gQb, gQc]
  refine' wpAnyH_take (i := 9) (oi := _) (v := ?_) rfl (by kernel_rfl) (by kernel_rfl) (by kernel_rfl) (fun _ _ _ h => h) (Or.inl ⟨by rfl, ?_⟩) (by assumption) ?_
  rotate_left
  · intro W hSw
    go_simp
    first | done | (with_reducible rfl)
  try simp only [Act.put, sQa, sQb, sQc, gQa, gQb, gQc]
  refine' wpAnyH_take (i := 10) (oi := _) (v := ?_) rfl (by kernel_rfl) (by kernel_rfl) (by kernel_rfl) (fun _ _ _ h => h) (Or.inl ⟨by rfl, ?_⟩) (by assumption) ?_
  rotate_left
  · intro W hSw
    go_simp
    first | done | (with_reducible rfl)
  try simp only [Act.put, sQa, sQb, sQc, gQa, gQb, gQc]
  refine' wpAnyH_take (i := 11) (oi := _) (v := ?_) rfl (by kernel_rfl) (by kernel_rfl) (by kernel_rfl) (fun _ _ _ h => h) (Or.inl ⟨by rfl, ?_⟩) (by assumption) ?_
  rotate_left
  · intro W hSw
    go_simp
    first | done | (with_reducible rfl)
  try simp only [Act.put, sQa, sQb, sQc, gQa, gQb, gQc]
  refine' wpAnyH_take (i := 12) (oi := _) (v := _) rfl (by kernel_rfl) (by kernel_rfl) (by kernel_rfl) (fun _ _ _ h => h) (yieldsIf_load_mid (by rfl) _ _ rfl _ _ rfl _ _ (fun _ h => rangeBel2 h A8.out) hu rfl ixa.out) (by assumption) ?_
  try simp only [Act.put, sQa, sQb, sQc, gQa, gQb, gQc]
  refine wpAnyH_ready (rs := [13]) (by kernel_rfl) (by simp) ?_
  refine AllReadyH.cons (o := _) rfl (fun K hK => ?_) AllReadyH.nil
  go_simp
  refine (hLa.out _ (H8.out.bel hHeld (Nat.lt_of_lt_of_le hlow.out W8.out.size))).mono ?_
  rintro e v13 ⟨rfl, hB⟩
  go_wp2_with fail
  refine hK.out _ _ ?_ (fun hHeld => ?_)
  · exact hHeld.trans (hB.mono hHeld.size)
  clear hK K
  try simp only [Act.put, sQa, sQb, sQc, gQa, gQb, gQc]
  refine' wpAnyH_take (i := 14) (oi := _) (v := ?_) rfl (by kernel_rfl) (by kernel_rfl) (by kernel_rfl) (fun _ _ _ h => h) (Or.inl ⟨by rfl, ?_⟩) (by assumption) ?_
  rotate_left
  · intro W hSw
    go_simp
    first | done | (with_reducible rfl)
  try simp only [Act.put, sQa, sQb, sQc, gQa, gQb, gQc]
  refine' wpAnyH_take (i := 15) (oi := _) (v := ?_) rfl (by kernel_rfl) (by kernel_rfl) (by kernel_rfl) (fun _ _ _ h => h) (Or.inl ⟨by rfl, ?_⟩) (by assumption) ?_
  rotate_left
  · intro W hSw
    go_simp
    first | done | (with_reducible rfl)
  try simp only [Act.put, sQa, sQb, sQc, gQa, gQb, gQc]
  refine' wpAnyH_take (i := 16) (oi := _) (v := ?_) rfl (by kernel_rfl) (by kernel_rfl) (by kernel_rfl) (fun _ _ _ h => h) (Or.inl ⟨by rfl, ?_⟩) (by assumption) ?_
  rotate_left
  · intro W hSw
    go_simp
    first | done | (with_reducible rfl)
  try simp only [Act.put, sQa, sQb, sQc, gQa, gQb, gQc]
  refine' wpAnyH_take (i := 17) (oi := _) (v := ?_) rfl (by kernel_rfl) (by kernel_rfl) (by kernel_rfl) (fun _ _ _ h => h) (Or.inl ⟨by rfl, ?_⟩) (by assumption) ?_
  rotate_left
  · intro W hSw
    go_simp
    first | done | (with_reducible rfl)
  try simp only [Act.put, sQa, sQb, sQc, gQa, gQb, gQc]
  refine' wpAnyH_take (i := 18) (oi := _) (v := ?_) rfl (by kernel_rfl) (by kernel_rfl) (by kernel_rfl) (fun _ _ _ h => h) (Or.inl ⟨by rfl, ?_⟩) (by assumption) ?_
  rotate_left
  · intro W hSw
    go_simp
    first | done | (with_reducible rfl)
  try simp only [Act.put, sQa, sQb, sQc, gQa, gQb, gQc]
  refine' wpAnyH_take (i := 19) (oi := _) (v := ?_) rfl (by kernel_rfl) (by kernel_rfl) (by kernel_rfl) (fun _ _ _ h => h) (Or.inl ⟨by rfl, ?_⟩) (by assumption) ?_
  rotate_left
  · intro W hSw
    go_simp
    first | done | (with_reducible rfl)
  try simp only [Act.put, sQa, sQb, sQc, gQa, gQb, gQc]
  refine' wpAnyH_take (i := 20) (oi := _) (v := ?_) rfl (by kernel_rfl) (by kernel_rfl) (by kernel_rfl) (fun _ _ _ h => h) (Or.inl ⟨by rfl, ?_⟩) (by assumption) ?_
  rotate_left
  · intro W hSw
    go_simp
    first | done | (with_reducible rfl)
  try simp only [Act.put, sQa, sQb, sQc, gQa, gQb, gQc]
  refine' wpAnyH_take (i := 21) (oi := _) (v := _) rfl (by kernel_rfl) (by kernel_rfl) (by kernel_rfl) (fun _ _ _ h => h) (yieldsIf_load_mid (by rfl) _ _ rfl _ _ rfl _ _ (fun _ h => rangeBel2 h F8.out) hu rfl ixf.out) (by assumption) ?_
  try simp only [Act.put, sQa, sQb, sQc, gQa, gQb, gQc]
  refine wpAnyH_ready (rs := [22]) (by kernel_rfl) (by simp) ?_
  refine AllReadyH.cons (o := _) rfl (fun K hK => ?_) AllReadyH.nil
  go_simp
  refine (hLa.out _ (H8.out.bel hHeld (Nat.lt_of_lt_of_le hlow.out W8.out.size))).mono ?_
  rintro e v22 ⟨rfl, hB⟩
  go_wp2_with fail
  refine hK.out _ _ ?_ (fun hHeld => ?_)
  · exact hHeld.trans (hB.mono hHeld.size)
  clear hK K
  try simp only [Act.put, sQa, sQb, sQc, gQa, gQb, gQc]
  refine wpAnyH_ready (rs := [23]) (by kernel_rfl) (by simp) ?_
  refine AllReadyH.cons (o := _) rfl (fun K hK => ?_) AllReadyH.nil
  go_simp
  refine (hLb.out _ (H8.out.bel hHeld (Nat.lt_of_lt_of_le hlow.out W8.out.size))).mono ?_
  rintro e v23 ⟨rfl, hB⟩
  go_wp2_with fail
  refine hK.out _ _ ?_ (fun hHeld => ?_)
  · exact hHeld.trans (hB.mono hHeld.size)
  clear hK K
  try simp only [Act.put, sQa, sQb, sQc, gQa, gQb, gQc]
  refine wpAnyH_ready (rs := [24]) (by kernel_rfl) (by simp) ?_
  refine AllReadyH.cons (o := _) rfl (fun K hK => ?_) AllReadyH.nil
  go_simp
  refine (hF1.out _ (H8.out.bel hHeld (Nat.lt_of_lt_of_le hlow.out W8.out.size))).mono ?_
  rintro e v24 ⟨rfl, hB⟩
  go_wp2_with fail
  refine hK.out _ _ ?_ (fun hHeld => ?_)
  · exact hHeld.trans (hB.mono hHeld.size)
  clear hK K
  try simp only [Act.put, sQa, sQb, sQc, gQa, gQb, gQc]
  refine wpAnyH_ready (rs := [25]) (by kernel_rfl) (by simp) ?_
  refine AllReadyH.cons (o := _) rfl (fun K hK => ?_) AllReadyH.nil
  go_simp
  refine (hLc.out _ (H8.out.bel hHeld (Nat.lt_of_lt_of_le hlow.out W8.out.size))).mono ?_
  rintro e v25 ⟨rfl, hB⟩
  go_wp2_with fail
  refine hK.out _ _ ?_ (fun hHeld => ?_)
  · exact hHeld.trans (hB.mono hHeld.size)
  clear hK K
  try simp only [Act.put, sQa, sQb, sQc, gQa, gQb, gQc]
  refine wpAnyH_ready (rs := [26]) (by kernel_rfl) (by simp) ?_
  refine AllReadyH.cons (o := _) rfl (fun K hK => ?_) AllReadyH.nil
  go_simp
  refine (hF2.out _ (H8.out.bel hHeld (Nat.lt_of_lt_of_le hlow.out W8.out.size))).mono ?_
  rintro e v26 ⟨rfl, hB⟩
  go_wp2_with fail
  refine hK.out _ _ ?_ (fun hHeld => ?_)
  · exact hHeld.trans (hB.mono hHeld.size)
  clear hK K
  try simp only [Act.put, sQa, sQb, sQc, gQa, gQb, gQc]
  refine' wpAnyH_take (i := 27) (oi := _) (v := ?_) rfl (by kernel_rfl) (by kernel_rfl) (by kernel_rfl) (fun _ _ _ h => h) (Or.inl ⟨by rfl, ?_⟩) (by assumption) ?_
  rotate_left
  · intro W hSw
    go_simp
    first | done | (with_reducible rfl)
  try simp only [Act.put, sQa, sQb, sQc, gQa, gQb, gQc]
  refine' wpAnyH_take (i := 28) (oi := _) (v := ?_) rfl (by kernel_rfl) (by kernel_rfl) (by kernel_rfl) (fun _ _ _ h => h) (Or.inl ⟨by rfl, ?_⟩) (by assumption) ?_
  rotate_left
  · intro W hSw
    go_simp
    first | done | (with_reducible rfl)
  try simp only [Act.put, sQa, sQb, sQc, gQa, gQb, gQc]
  refine' wpAnyH_take (i := 29) (oi := _) (v := ?_) rfl (by kernel_rfl) (by kernel_rfl) (by kernel_rfl) (fun _ _ _ h => h) (Or.inl ⟨by rfl, ?_⟩) (by assumption) ?_
  rotate_left
  · intro W hSw
    go_simp
    first | done | (with_reducible rfl)
  try simp only [Act.put, sQa, sQb, sQc, gQa, gQb, gQc]
  refine' wpAnyH_take (i := 30) (oi := _) (v := _) rfl (by kernel_rfl) (by kernel_rfl) (by kernel_rfl) (fun _ _ _ h => h) (yieldsIf_load_mid (by rfl) _ _ rfl _ _ rfl _ _ (fun _ h => rangeBel2 h A8.out) hu rfl ixa.out) (by assumption) ?_
  try simp only [Act.put, sQa, sQb, sQc, gQa, gQb, gQc]
  refine' wpAnyH_take (i := 31) (oi := _) (v := _) rfl (by kernel_rfl) (by kernel_rfl) (by kernel_rfl) (fun _ _ _ h => h) (yieldsIf_load_mid (by rfl) _ _ rfl _ _ rfl _ _ (fun _ h => rangeBel2 h N8.out) hu rfl ixn.out) (by assumption) ?_
  try simp only [Act.put, sQa, sQb, sQc, gQa, gQb, gQc]
  refine' wpAnyH_take (i := 32) (oi := _) (v := ?_) rfl (by kernel_rfl) (by kernel_rfl) (by kernel_rfl) (fun _ _ _ h => h) (Or.inl ⟨by rfl, ?_⟩) (by assumption) ?_
  rotate_left
  · intro W hSw
    go_simp
    first | done | (with_reducible rfl)
  try simp only [Act.put, sQa, sQb, sQc, gQa, gQb, gQc]
  refine' wpAnyH_take (i := 33) (oi := _) (v := ?_) rfl (by kernel_rfl) (by kernel_rfl) (by kernel_rfl) (fun _ _ _ h => h) (Or.inl ⟨by rfl, ?_⟩) (by assumption) ?_
  rotate_left
  · intro W hSw
    go_simp
    first | done | (with_reducible rfl)
  try simp only [Act.put, sQa, sQb, sQc, gQa, gQb, gQc]
  refine' wpAnyH_take (i := 34) (oi := _) (v := ?_) rfl (by kernel_rfl) (by kernel_rfl) (by kernel_rfl) (fun _ _ _ h => h) (Or.inl ⟨by rfl, ?_⟩) (by assumption) ?_
  rotate_left
  · intro W hSw
    go_simp
    first | done | (with_reducible rfl)
  try simp only [Act.put, sQa, sQb, sQc, gQa, gQb, gQc]
  refine' wpAnyH_take (i := 35) (oi := _) (v := _) rfl (by kernel_rfl) (by kernel_rfl) (by kernel_rfl) (fun _ _ _ h => h) (yieldsIf_load_mid (by rfl) _ _ rfl _ _ rfl _ _ (fun _ h => rangeBel2 h F8.out) hu rfl ixf.out) (by assumption) ?_
  try simp only [Act.put, sQa, sQb, sQc, gQa, gQb, gQc]
  refine' wpAnyH_take (i := 36) (oi := _) (v := _) rfl (by kernel_rfl) (by kernel_rfl) (by kernel_rfl) (fun _ _ _ h => h) (yieldsIf_load_mid (by rfl) _ _ rfl _ _ rfl _ _ (fun _ h => rangeBel2 h A8.out) hu rfl ixa.out) (by assumption) ?_
  try simp only [Act.put, sQa, sQb, sQc, gQa, gQb, gQc]
  refine' wpAnyH_take (i := 37) (oi := _) (v := ?_) rfl (by kernel_rfl) (by kernel_rfl) (by kernel_rfl) (fun _ _ _ h => h) (Or.inl ⟨by rfl, ?_⟩) (by assumption) ?_
  rotate_left
  · intro W hSw
    go_simp
    first | done | (with_reducible rfl)
  try simp only [Act.put, sQa, sQb, sQc, gQa, gQb, gQc]
  refine' wpAnyH_take (i := 38) (oi := _) (v := ?_) rfl (by kernel_rfl) (by kernel_rfl) (by kernel_rfl) (fun _ _ _ h => h) (Or.inl ⟨by rfl, ?_⟩) (by assumption) ?_
  rotate_left
  · intro W hSw
    go_simp
    first | done | (with_reducible rfl)
  try simp only [Act.put, sQa, sQb, sQc, gQa, gQb, gQc]
  refine' wpAnyH_take (i := 39) (oi := _) (v := ?_) rfl (by kernel_rfl) (by kernel_rfl) (by kernel_rfl) (fun _ _ _ h => h) (Or.inl ⟨by rfl, ?_⟩) (by assumption) ?_
  rotate_left
  · intro W hSw
    go_simp
    first | done | (with_reducible rfl)
  try simp only [Act.put, sQa, sQb, sQc, gQa, gQb, gQc]
  refine wpAnyH_done (by kernel_rfl) ?_ _
  refine NoPanic.normal ?_
  go_wp2
  go_ret
  exact ⟨rfl, W8.out.trans (hHeld.mono W8.out.size)⟩
end Go.Proofs.YtgmlmkhiflnhdaaDoor
