/-
  The Go function RowsNames returns true: the limit's and errors' numbers, and the chapter's examples.
  Conditions: none. The frame around the walk was written by program (proof-skeleton.mjs).
-/
import Derived.Test.YtgmlmkhiflnhdaaDoorRows
import Derived.Test.YtgmlmkhiflnhdaaDoorDoor
import Derived.WalkKit
import Derived.ProofKit
import Derived.OpenShut
import Derived.ShutString
import Derived.ChangeOld
import Derived.Below
import Derived.Test.YtgmlmkhiflnhdaaDoorRwN
import Derived.Test.YtgmlmkhiflnhdaaDoorRf6
namespace Go.Proofs.YtgmlmkhiflnhdaaDoor.rowsNames
open Go.ChangeShapes Go.WideShapes Go.ChangeAt Go.RowKit
open Go.ChangeMaps (open_string shut_string)
set_option linter.unusedVariables false      -- a walk need not use every 'w<i>' (that an integer argument fits its kind)

theorem own : ownKnob Tryd.prog.godebug = none := by kernel_rfl

/-! ### the walk -/
open Go.Proofs.YtgmlmkhiflnhdaaDoor
set_option linter.unusedSimpArgs false
set_option maxRecDepth 100000 in
set_option maxHeartbeats 8000000 in
theorem walk  (w : World) (hT : Tab w) :
    Calls Tryd.prog 3 #[] w fun e w' => e = .returned (.bool true) ∧ Below w.heap.size w w' := by
  have hu := Tryd.underlying29
  have hlow := hid hT.low
  have H0 := hid hT
  have W0 := hid (Below.refl w.heap.size w)
  obtain ⟨i0, hi0, hz0, hz1, hz2⟩ := info_parts (show (Tryd.prog.info? 33).map (fun i => (i.zero, i.size, i.bytes)) = some (some (.slice none 0 0), 1, 24) by kernel_rfl)
  have hA := hid (fun W => abc13_any W)
  have hAl := hid (fun W hT => alive13_any W hT)
  have hS0 := fun g W (h : Rds W (some ⟨g, 0, none⟩) abcR) hT => PRwSides_any (some ⟨g, 0, none⟩) 3 abcR 0 W h (by decide) (by decide) (by decide) hT
  rw [sidesL_abc0, sidesE_abc, if_neg (by decide), show abcR.length = 3 from rfl, show [lbR, lcR].length = 2 from rfl] at hS0
  replace hS0 := hid hS0
  have hS2 := fun g W (h : Rds W (some ⟨g, 0, none⟩) abcR) hT => PRwSides_any (some ⟨g, 0, none⟩) 3 abcR 2 W h (by decide) (by decide) (by decide) hT
  rw [sidesL_abc2, sidesE_abc, if_neg (by decide), show abcR.length = 3 from rfl, List.length_singleton] at hS2
  replace hS2 := hid hS2
  have hS3 := fun g W (h : Rds W (some ⟨g, 0, none⟩) abcR) hT => PRwSides_any (some ⟨g, 0, none⟩) 3 abcR 3 W h (by decide) (by decide) (by decide) hT
  rw [sidesL_abc3, sidesE_abc, if_pos (by decide), show abcR.length = 3 from rfl, List.length_nil] at hS3
  replace hS3 := hid hS3
  have hRm := fun g W (h : Rds W (some ⟨g, 0, none⟩) (List.replicate 257 [])) hT => PRwRoot_any (some ⟨g, 0, none⟩) 257 (List.replicate 257 []) W h (by simp) (by decide) (by simp) hT
  rw [show rootRL (List.replicate 257 []) = z0R from by unfold rootRL; rw [many_list]; rfl, many_list, List.length_replicate, show (if false = true then (0 : Int) else 8) = 8 from rfl] at hRm
  replace hRm := hid hRm
  have hR3 := fun g W (h : Rds W (some ⟨g, 0, none⟩) abcR) hT => PRwRoot_any (some ⟨g, 0, none⟩) 3 abcR W h (by decide) (by decide) (by decide) hT
  rw [show rootRL abcR = forkR (forkR laR lbR) lcR from by unfold rootRL; rw [if_pos abc_list, root_abc], show (if listR abcR = true then (0 : Int) else 8) = 0 from by rw [if_pos abc_list], show abcR.length = 3 from rfl] at hR3
  replace hR3 := hid hR3
  have hF1 := fun g F D d W (hr : Rd W (some ⟨g, 0, none⟩) [99]) (hs : Row F W D [forkR laR lbR]) hT => PRwFits_any (forkR (forkR laR lbR) lcR) 3 2 (some ⟨g, 0, none⟩) 1 [99] F D d [forkR laR lbR] W hr (by decide) (by decide) hs (by decide) hT
  rw [fits_abc, List.length_singleton, List.length_singleton] at hF1
  replace hF1 := hid hF1
  have hF2 := fun g F D d W (hr : Rd W (some ⟨g, 0, none⟩) [99]) (hs : Row F W D [forkR laR lbR]) hT => PRwFits_any (forkR (forkR laR lbR) lcR) 3 1 (some ⟨g, 0, none⟩) 1 [99] F D d [forkR laR lbR] W hr (by decide) (by decide) hs (by decide) hT
  rw [fits_abc1, List.length_singleton, List.length_singleton] at hF2
  replace hF2 := hid hF2
  have hF3 := fun g F D d W (hr : Rd W (some ⟨g, 0, none⟩) [99]) (hs : Row F W D [forkR laR lbR]) hT => PRwFits_any (forkR (forkR laR lbR) lcR) 4 2 (some ⟨g, 0, none⟩) 1 [99] F D d [forkR laR lbR] W hr (by decide) (by decide) hs (by decide) hT
  rw [fits_abc4, List.length_singleton, List.length_singleton] at hF3
  replace hF3 := hid hF3
  have hLa : Hid (∀ W, Tab W → Calls Tryd.prog 14 #[.string { data := #[97] }] W fun e w' => e = .returned (.agg (laR.1.map bv).toArray) ∧ Below W.heap.size W w') := hid (fun W hT => leaf13_any 97 _ rfl W hT)
  have hLb : Hid (∀ W, Tab W → Calls Tryd.prog 14 #[.string { data := #[98] }] W fun e w' => e = .returned (.agg (lbR.1.map bv).toArray) ∧ Below W.heap.size W w') := hid (fun W hT => leaf13_any 98 _ rfl W hT)
  have hLc : Hid (∀ W, Tab W → Calls Tryd.prog 14 #[.string { data := #[99] }] W fun e w' => e = .returned (.agg (lcR.1.map bv).toArray) ∧ Below W.heap.size W w') := hid (fun W hT => leaf13_any 99 _ rfl W hT)
  have hK := hid (fun W hT => fork13_any laR lbR W hT)
  have hD2 := fun F G A D c d W (h1 : Row F W A [lbR, lcR]) (h2 : Row G W D [lbR, lcR]) => RSameDg_any F G A D c d [lbR, lcR] [lbR, lcR] W h1 h2 (by decide) (by decide)
  rw [decide_eq_true rfl, show [lbR, lcR].length = 2 from rfl] at hD2
  replace hD2 := hid hD2
  have hD1 := fun F G A D c d W (h1 : Row F W A [forkR laR lbR]) (h2 : Row G W D [forkR laR lbR]) => RSameDg_any F G A D c d [forkR laR lbR] [forkR laR lbR] W h1 h2 (by decide) (by decide)
  rw [decide_eq_true rfl, List.length_singleton] at hD1
  replace hD1 := hid hD1
  clear hT
  generalize forkR (forkR laR lbR) lcR = xf at *
  generalize forkR laR lbR = xab at *
  generalize laR = xa at *
  generalize lbR = xb at *
  generalize lcR = xc at *
  generalize z0R = xz at *
  have ixf := hid (show (Tryd.prog.info? 29).map (·.size) = some (xf.1.map bv).length from by rw [List.length_map, xf.2]; exact size32)
  have ixz := hid (show (Tryd.prog.info? 29).map (·.size) = some (xz.1.map bv).length from by rw [List.length_map, xz.2]; exact size32)
  have lb9 := hid (show (xb.1.map bv).length = Enc.size Dg from by rw [List.length_map, xb.2]; rfl)
  have lc9 := hid (show (xc.1.map bv).length = Enc.size Dg from by rw [List.length_map, xc.2]; rfl)
  have lab9 := hid (show (xab.1.map bv).length = Enc.size Dg from by rw [List.length_map, xab.2]; rfl)
  go_enter Tryd.func3, Tryd.ntmps3
  go_wp2_with fail
  refine (hA.out _).mono ?_
  rintro e w1 ⟨g1, rfl, hR, hb⟩
  have H1 := hid (H0.out.bel hb (Nat.lt_of_lt_of_le hlow.out W0.out.size))
  have W1 := hid (W0.out.trans (hb.mono W0.out.size))
  clear H0 W0
  have R1 := hid hR
  clear hb hR
  go_wp2_with fail
  refine (hS0.out g1 _ R1.out H1.out).mono ?_
  rintro e w2 ⟨ad2, c2, rfl, hO, hb⟩
  have H2 := hid (H1.out.bel hb (Nat.lt_of_lt_of_le hlow.out W1.out.size))
  have W2 := hid (W1.out.trans (hb.mono W1.out.size))
  clear H1 W1
  have A2 := hid hO.row
  clear hb hO R1
  go_wp2_with fail
  refine (hA.out _).mono ?_
  rintro e w3 ⟨g3, rfl, hR, hb⟩
  have H3 := hid (H2.out.bel hb (Nat.lt_of_lt_of_le hlow.out W2.out.size))
  have W3 := hid (W2.out.trans (hb.mono W2.out.size))
  have A3 := hid (A2.out.bel hb)
  clear H2 W2 A2
  have R3 := hid hR
  clear hb hR
  go_wp2_with fail
  refine (hS2.out g3 _ R3.out H3.out).mono ?_
  rintro e w4 ⟨ad4, c4, rfl, hO, hb⟩
  have H4 := hid (H3.out.bel hb (Nat.lt_of_lt_of_le hlow.out W3.out.size))
  have W4 := hid (W3.out.trans (hb.mono W3.out.size))
  have A4 := hid (A3.out.bel hb)
  clear H3 W3 A3
  have B4 := hid hO.row
  clear hb hO R3
  go_wp2_with fail
  refine (hA.out _).mono ?_
  rintro e w5 ⟨g5, rfl, hR, hb⟩
  have H5 := hid (H4.out.bel hb (Nat.lt_of_lt_of_le hlow.out W4.out.size))
  have W5 := hid (W4.out.trans (hb.mono W4.out.size))
  have A5 := hid (A4.out.bel hb)
  have B5 := hid (B4.out.bel hb)
  clear H4 W4 A4 B4
  have R5 := hid hR
  clear hb hR
  go_wp2_with fail
  refine (hS3.out g5 _ R5.out H5.out).mono ?_
  rintro e w6 ⟨ad6, c6, rfl, -, hb⟩
  have H6 := hid (H5.out.bel hb (Nat.lt_of_lt_of_le hlow.out W5.out.size))
  have W6 := hid (W5.out.trans (hb.mono W5.out.size))
  have A6 := hid (A5.out.bel hb)
  have B6 := hid (B5.out.bel hb)
  clear H5 W5 A5 B5
  clear hb R5
  go_wp2_with (first
    | (at_make; refine wpList_make_full _ rfl _ _ 26 rfl w6.heap.size 33 i0 (.slice none 0 0) 1 Tryd.underlying26 hi0 hz0 hz1 _ _ _ _ 257 rfl rfl rfl rfl (by rw [hz2]; omega) (by unfold maxLen; omega) (Nat.le_refl _) ?_; intro w7 hown hgrow; have X7 := hid ((Below.refl _ w6).grown hgrow (Nat.le_refl _) (by simp)); have Q7 := hid (made_sls hown); clear hown hgrow; have H7 := hid (H6.out.bel X7.out (Nat.lt_of_lt_of_le hlow.out W6.out.size)); have W7 := hid (W6.out.trans (X7.out.mono W6.out.size)); have A7 := hid (A6.out.bel X7.out); have B7 := hid (B6.out.bel X7.out); clear H6 W6 A6 B6))
  refine (hRm.out _ _ Q7.out H7.out).mono ?_
  rintro e w8 ⟨rfl, hb⟩
  have H8 := hid (H7.out.bel hb (Nat.lt_of_lt_of_le hlow.out W7.out.size))
  have W8 := hid (W7.out.trans (hb.mono W7.out.size))
  have A8 := hid (A7.out.bel hb)
  have B8 := hid (B7.out.bel hb)
  clear H7 W7 A7 B7
  clear hb Q7
  have e8 := hid (heap_alloc_new w8 (.cells z32 29))
  go_wp2_with (first
    | (with_reducible refine wpList_alloc_row rfl 29 rfl z32 info32 ?_)
    | ((with_reducible refine wpList_store_row rfl 29 (.tmp 7) (.tmp 30) rfl _ _ rfl rfl 29 z32 ?_ ?_ ?_ ?_ ?_); exact e8.out; exact sizeDgR xz; exact zDgR xz; exact oneDgR xz; intro w9 hgS hbS hsS; have X9 := hid (xnewP rfl hbS); have Z9 := hid (rangeOf (l := xz.1.map bv) hgS); clear hgS hbS hsS; have H9 := hid (H8.out.bel X9.out (Nat.lt_of_lt_of_le hlow.out W8.out.size)); have W9 := hid (W8.out.trans (X9.out.mono W8.out.size)); have A9 := hid (A8.out.bel X9.out); have B9 := hid (B8.out.bel X9.out); clear H8 W8 A8 B8))
  refine (hA.out _).mono ?_
  rintro e w10 ⟨g10, rfl, hR, hb⟩
  have H10 := hid (H9.out.bel hb (Nat.lt_of_lt_of_le hlow.out W9.out.size))
  have W10 := hid (W9.out.trans (hb.mono W9.out.size))
  have A10 := hid (A9.out.bel hb)
  have B10 := hid (B9.out.bel hb)
  clear H9 W9 A9 B9
  have R10 := hid hR
  clear hb hR
  go_wp2_with fail
  refine (hR3.out g10 _ R10.out H10.out).mono ?_
  rintro e w11 ⟨rfl, hb⟩
  have H11 := hid (H10.out.bel hb (Nat.lt_of_lt_of_le hlow.out W10.out.size))
  have W11 := hid (W10.out.trans (hb.mono W10.out.size))
  have A11 := hid (A10.out.bel hb)
  have B11 := hid (B10.out.bel hb)
  clear H10 W10 A10 B10
  clear hb R10
  have e11 := hid (heap_alloc_new w11 (.cells z32 29))
  go_wp2_with (first
    | (with_reducible refine wpList_alloc_row rfl 29 rfl z32 info32 ?_)
    | ((with_reducible refine wpList_store_row rfl 29 (.tmp 9) (.tmp 35) rfl _ _ rfl rfl 29 z32 ?_ ?_ ?_ ?_ ?_); exact e11.out; exact sizeDgR xf; exact zDgR xf; exact oneDgR xf; intro w12 hgS hbS hsS; have X12 := hid (xnewP rfl hbS); have F12 := hid (rangeOf (l := xf.1.map bv) hgS); clear hgS hbS hsS; have kc := conv_lit w12; have H12 := hid (H11.out.bel X12.out (Nat.lt_of_lt_of_le hlow.out W11.out.size)); have W12 := hid (W11.out.trans (X12.out.mono W11.out.size)); have A12 := hid (A11.out.bel X12.out); have B12 := hid (B11.out.bel X12.out); clear H11 W11 A11 B11)
    | ((with_reducible refine wpList_load_rng rfl 29 (.tmp 9) rfl w11.heap.size 0 rfl (xf.1.map bv) _ ?_ hu rfl ixf.out ?_); exact F12.out))
  have D12 := hid (ext_alloc w12 (.cells #[.int .u8 99] 5 (1, 2)))
  refine (hF1.out w12.heap.size _ _ _ _ (Rd.litf w12 5 [99] #[.int .u8 99] _ (1, 2) rfl rfl) (B12.out.bel D12.out) (H12.out.bel D12.out H12.out.low)).mono ?_
  rintro e w13 ⟨rfl, hb⟩
  have hb2 := D12.out.trans (hb.mono D12.out.size)
  have H13 := hid (H12.out.bel hb2 (Nat.lt_of_lt_of_le hlow.out W12.out.size))
  have W13 := hid (W12.out.trans (hb2.mono W12.out.size))
  have A13 := hid (A12.out.bel hb2)
  have B13 := hid (B12.out.bel hb2)
  have F13 := hid (rangeBel2 hb2 F12.out)
  clear H12 W12 A12 B12 F12
  clear hb hb2 kc
  have kc := conv_lit w13
  go_wp2_with (first
    | ((with_reducible refine wpList_load_rng ?_ 29 (.tmp 9) rfl _ 0 rfl (xf.1.map bv) _ ?_ hu rfl ixf.out ?_); rfl; exact F13.out)
    | ((with_reducible refine wpList_load_rng rfl 29 (.tmp 9) rfl _ 0 rfl (xf.1.map bv) _ ?_ hu rfl ixf.out ?_); exact F13.out))
  have D13 := hid (ext_alloc w13 (.cells #[.int .u8 99] 5 (1, 2)))
  refine (hF2.out w13.heap.size _ _ _ _ (Rd.litf w13 5 [99] #[.int .u8 99] _ (1, 2) rfl rfl) (B13.out.bel D13.out) (H13.out.bel D13.out H13.out.low)).mono ?_
  rintro e w14 ⟨rfl, hb⟩
  have hb2 := D13.out.trans (hb.mono D13.out.size)
  have H14 := hid (H13.out.bel hb2 (Nat.lt_of_lt_of_le hlow.out W13.out.size))
  have W14 := hid (W13.out.trans (hb2.mono W13.out.size))
  have A14 := hid (A13.out.bel hb2)
  have B14 := hid (B13.out.bel hb2)
  have F14 := hid (rangeBel2 hb2 F13.out)
  clear H13 W13 A13 B13 F13
  clear hb hb2 kc
  have kc := conv_lit w14
  go_wp2_with (first
    | ((with_reducible refine wpList_load_rng ?_ 29 (.tmp 9) rfl _ 0 rfl (xf.1.map bv) _ ?_ hu rfl ixf.out ?_); rfl; exact F14.out)
    | ((with_reducible refine wpList_load_rng rfl 29 (.tmp 9) rfl _ 0 rfl (xf.1.map bv) _ ?_ hu rfl ixf.out ?_); exact F14.out))
  have D14 := hid (ext_alloc w14 (.cells #[.int .u8 99] 5 (1, 2)))
  refine (hF3.out w14.heap.size _ _ _ _ (Rd.litf w14 5 [99] #[.int .u8 99] _ (1, 2) rfl rfl) (B14.out.bel D14.out) (H14.out.bel D14.out H14.out.low)).mono ?_
  rintro e w15 ⟨rfl, hb⟩
  have hb2 := D14.out.trans (hb.mono D14.out.size)
  have H15 := hid (H14.out.bel hb2 (Nat.lt_of_lt_of_le hlow.out W14.out.size))
  have W15 := hid (W14.out.trans (hb2.mono W14.out.size))
  have A15 := hid (A14.out.bel hb2)
  have B15 := hid (B14.out.bel hb2)
  have F15 := hid (rangeBel2 hb2 F14.out)
  clear H14 W14 A14 B14 F14
  clear hb hb2 kc
  go_wp2_with fail
  refine (hAl.out _ H15.out).mono ?_
  rintro e w16 ⟨rfl, hb⟩
  have H16 := hid (H15.out.bel hb (Nat.lt_of_lt_of_le hlow.out W15.out.size))
  have W16 := hid (W15.out.trans (hb.mono W15.out.size))
  have A16 := hid (A15.out.bel hb)
  have B16 := hid (B15.out.bel hb)
  have F16 := hid (rangeBel2 hb F15.out)
  clear H15 W15 A15 B15 F15
  clear hb
  go_wp2_with fail
  refine (hLb.out _ H16.out).mono ?_
  rintro e w17 ⟨rfl, hb⟩
  have H17 := hid (H16.out.bel hb (Nat.lt_of_lt_of_le hlow.out W16.out.size))
  have W17 := hid (W16.out.trans (hb.mono W16.out.size))
  have A17 := hid (A16.out.bel hb)
  have B17 := hid (B16.out.bel hb)
  have F17 := hid (rangeBel2 hb F16.out)
  clear H16 W16 A16 B16 F16
  clear hb
  go_wp2_with fail
  refine (hLc.out _ H17.out).mono ?_
  rintro e w18 ⟨rfl, hb⟩
  have H18 := hid (H17.out.bel hb (Nat.lt_of_lt_of_le hlow.out W17.out.size))
  have W18 := hid (W17.out.trans (hb.mono W17.out.size))
  have A18 := hid (A17.out.bel hb)
  have B18 := hid (B17.out.bel hb)
  have F18 := hid (rangeBel2 hb F17.out)
  clear H17 W17 A17 B17 F17
  clear hb
  go_wp2_with (first
    | ((with_reducible refine wpList_buildVs slotDg13 ?_ 2 _ rfl [xb.1.map bv, xc.1.map bv] [.agg (xb.1.map bv).toArray, .agg (xc.1.map bv).toArray] rfl (by decide) (by decide) ?_ ?_ ?_ ?_); rfl; (intro cs hcs; simp at hcs; rcases hcs with rfl | rfl; exact lb9.out; exact lc9.out); rfl; rfl))
  have D18 := hid (ext_alloc w18 (.cells (xb.1.map bv ++ xc.1.map bv).toArray 29))
  refine (hD2.out _ _ _ _ _ _ _ (A18.out.bel D18.out) (row_twoN w18 xb xc 29)).mono ?_
  rintro e w19 ⟨rfl, hb⟩
  have hb2 := D18.out.trans (hb.mono D18.out.size)
  have H19 := hid (H18.out.bel hb2 (Nat.lt_of_lt_of_le hlow.out W18.out.size))
  have W19 := hid (W18.out.trans (hb2.mono W18.out.size))
  have A19 := hid (A18.out.bel hb2)
  have B19 := hid (B18.out.bel hb2)
  have F19 := hid (rangeBel2 hb2 F18.out)
  clear H18 W18 A18 B18 F18
  clear hb hb2
  go_wp2_with fail
  refine (hLa.out _ H19.out).mono ?_
  rintro e w20 ⟨rfl, hb⟩
  have H20 := hid (H19.out.bel hb (Nat.lt_of_lt_of_le hlow.out W19.out.size))
  have W20 := hid (W19.out.trans (hb.mono W19.out.size))
  have A20 := hid (A19.out.bel hb)
  have B20 := hid (B19.out.bel hb)
  have F20 := hid (rangeBel2 hb F19.out)
  clear H19 W19 A19 B19 F19
  clear hb
  go_wp2_with fail
  refine (hLb.out _ H20.out).mono ?_
  rintro e w21 ⟨rfl, hb⟩
  have H21 := hid (H20.out.bel hb (Nat.lt_of_lt_of_le hlow.out W20.out.size))
  have W21 := hid (W20.out.trans (hb.mono W20.out.size))
  have A21 := hid (A20.out.bel hb)
  have B21 := hid (B20.out.bel hb)
  have F21 := hid (rangeBel2 hb F20.out)
  clear H20 W20 A20 B20 F20
  clear hb
  go_wp2_with fail
  refine (hK.out _ H21.out).mono ?_
  rintro e w22 ⟨rfl, hb⟩
  have H22 := hid (H21.out.bel hb (Nat.lt_of_lt_of_le hlow.out W21.out.size))
  have W22 := hid (W21.out.trans (hb.mono W21.out.size))
  have A22 := hid (A21.out.bel hb)
  have B22 := hid (B21.out.bel hb)
  have F22 := hid (rangeBel2 hb F21.out)
  clear H21 W21 A21 B21 F21
  clear hb
  go_wp2_with (first
    | ((with_reducible refine wpList_buildVs slotDg13 ?_ 1 _ rfl [xab.1.map bv] [.agg (xab.1.map bv).toArray] rfl (by decide) (by decide) ?_ ?_ ?_ ?_); rfl; (intro cs hcs; simp at hcs; subst hcs; exact lab9.out); rfl; rfl))
  have D22 := hid (ext_alloc w22 (.cells (xab.1.map bv).toArray 29))
  refine (hD1.out _ _ _ _ _ _ _ (B22.out.bel D22.out) (row_oneN w22 xab 29)).mono ?_
  rintro e w23 ⟨rfl, hb⟩
  have hb2 := D22.out.trans (hb.mono D22.out.size)
  have H23 := hid (H22.out.bel hb2 (Nat.lt_of_lt_of_le hlow.out W22.out.size))
  have W23 := hid (W22.out.trans (hb2.mono W22.out.size))
  have A23 := hid (A22.out.bel hb2)
  have B23 := hid (B22.out.bel hb2)
  have F23 := hid (rangeBel2 hb2 F22.out)
  clear H22 W22 A22 B22 F22
  clear hb hb2
  go_wp2
  go_ret
  exact ⟨rfl, W23.out⟩

/-! ### WHAT THE WALK GIVES, FOR EVERY ARGUMENT AND EVERY WORLD THAT HOLDS THE TABLE -/
set_option maxRecDepth 100000 in
theorem contract (H : Type) (enc : TypeId × Value → H) (W : World) (base : Nat) (args : Array Value) (ds gs : List (DataW H)) (before : List MemPlace)
    (hval0 : ∀ (j : Nat) t v, Tryd.f3.params[j]? = some t → args[j]? = some v → Value.okWide Tryd.prog W .any base t v)
    (hW : DataW.Whole enc Tryd.prog Tryd.f3.params.toList Rows.rowsNamesSpec.vars false W args.toList ds gs before) (hL : laidMetH Tryd.prog Rows.rowsNamesRow.laid W) :
    Calls Tryd.prog 3 args W fun e W' => ∃ v, e = .returned v ∧ Rows.rowsNamesSpec.post enc Tryd.prog Tryd.f3 false true false false W args v W' := by
  have hval : ∀ (j : Nat) t v, Tryd.f3.params[j]? = some t → args[j]? = some v → Value.okWide Tryd.prog W .any base t v := hval0
  have hW' := hW
  obtain ⟨p, q, hA0, hV, rfl, hfz, hnd⟩ := hW
  have hA : DataW.TrodAll enc Tryd.prog W 0 (fun _ => true) true Tryd.f3.params.toList args.toList ds p := hA0
  rw [Tryd.params3] at hA hval
  obtain ⟨rfl, rfl, rfl⟩ := trodAll_none hA
  obtain ⟨rfl, rfl⟩ := trodVars_none hV
  clear hA0 hval0
  refine (walk  W (tab_of hL)).mono fun e W' ⟨he, bel⟩ => ?_
  subst he
  exact ⟨_, rfl, _, _, _, [], _, [], hW', trodAll_mk1 (shut_bool Tryd.underlying4 _), trodAll_mk0, rfl, bel.frame _, fun h => by cases h⟩

theorem laid_met (os : Os) : laidMet Tryd.prog Rows.rowsNamesRow.laid ((laidWorld os).forCall (fun _ _ => 0) ⟨#[], #[], []⟩).memory :=
  laidMet_of_run' 8 (by kernel_rfl) (by kernel_rfl)
theorem reads (os : Os) {H : Type} (enc : TypeId × Value → H) : ∃ places, DataW.whole enc Tryd.prog ((laidWorld os).forCall (fun _ _ => 0) ⟨#[], #[], []⟩).memory Tryd.f3.params.toList Rows.rowsNamesSpec.vars false (#[] : Array Value).toList 8 = some ([], [], places) :=
  ⟨[], by kernel_rfl⟩
set_option maxRecDepth 100000 in
theorem lifted (os : Os) (started : os.Started) (H : Type) (enc : TypeId × Value → H) (F : Stop.Interp) :
    ReturnsInHanded {} Tryd.checked os 3 .any ((OpenSpec.ofChange Rows.rowsNamesSpec).preRow enc Tryd.prog Tryd.f3 Rows.rowsNamesRow.domain false Rows.rowsNamesRow.laid) (((OpenSpec.ofChange Rows.rowsNamesSpec).at F).post enc Tryd.prog Tryd.f3 false true false false) := by
  obtain ⟨places, hx⟩ := reads os enc
  refine returnsInHanded_of_row (C := Tryd.checked) (s := OpenSpec.ofChange Rows.rowsNamesSpec) own started (by kernel_rfl) Tryd.func3
    (witness_row_at (enc := enc) (C := Tryd.checked) false (laidWorld os) #[] rfl (by kernel_rfl) (by kernel_rfl) (by kernel_rfl)
      (OpenSpec.preRow_of_cond 8 hx (by kernel_rfl) (fun k hk => by cases hk) (by kernel_rfl) (laid_met os))) ?_
  intro W base args ds gs before hval hW _ _ _ hL _ _
  exact contract H enc W base args ds gs before hval hW hL
theorem said : Rows.RowsNamesSaid :=
  OpenClaim.holds_of_cond 3 Tryd.f3 rfl rfl rfl rfl rfl rfl rfl ⟨rfl, rfl, rfl, rfl, rfl⟩ rfl rfl rfl rfl rfl (by kernel_rfl) Tryd.func3 (by kernel_rfl)
    (of_decide_eq_true (by kernel_rfl)) (by unfold Func.isWrapper; first | (rw [if_pos (by decide +kernel)]; kernel_rfl) | (rw [if_neg (by decide +kernel)]; exact ⟨rfl, rfl⟩))
    (fun os started H enc _ F => by rw [OpenClaim.pre_eq_preRow]; exact lifted os started H enc F)
set_option maxRecDepth 100000 in
/-- No parameter wants a stand-in; the program's own looks are off: what the card asks. -/
theorem plain (f : FuncId) (fn : Func) (hf : Tryd.pinned.checked.prog.funcNamed "beadroll/beadrolllaw13.RowsNames" = some f) (hfn : Tryd.pinned.checked.prog.funcs[f]? = some fn) :
    false = Tryd.pinned.checked.prog.looks [] ∧ ∀ (j : Nat) t, fn.params[j]? = some t → Tryd.pinned.checked.prog.wantsStandIn t = false := by
  obtain rfl : f = 3 := Option.some.inj ((show Tryd.prog.funcNamed "beadroll/beadrolllaw13.RowsNames" = some 3 by kernel_rfl).symm.trans hf) |>.symm
  obtain rfl : fn = Tryd.f3 := (Option.some.inj (Tryd.func3.symm.trans hfn)).symm
  refine ⟨by kernel_rfl, fun j t ht => ?_⟩
  rw [Tryd.params3] at ht
  simp at ht
set_option maxRecDepth 100000 in
/-- ████ THE CARD ████ -/
theorem proved : Rows.RowsNamesCardSaid :=
  Claim7.holds_tied_plain_at .later [] _ _ _ _ said (fun _ h => by cases h) (by kernel_rfl) (fun _ h => by cases h) rowsNames_row_tie rfl ⟨rfl, rfl⟩ (by kernel_rfl) rfl plain (by kernel_rfl)
#print axioms proved
end Go.Proofs.YtgmlmkhiflnhdaaDoor.rowsNames
