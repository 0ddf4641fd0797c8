/-
  The Go function PairsNames returns true: the limits' and errors' numbers, and the chapter's examples.
  Conditions: none. The frame around the walk was written by program (proof-skeleton.mjs).
-/
import Derived.Test.YtfjkcdccnbggnaaDoorRows
import Derived.Test.YtfjkcdccnbggnaaDoorDoor
import Derived.WalkKit
import Derived.ProofKit
import Derived.OpenShut
import Derived.ShutString
import Derived.ChangeOld
import Derived.Below
import Derived.Test.YtfjkcdccnbggnaaDoorPrNm
namespace Go.Proofs.YtfjkcdccnbggnaaDoor.pairsNames
open Go.ChangeShapes Go.WideShapes Go.ChangeAt Go.RowKit
open Go.ChangeMaps (open_string shut_string)
set_option linter.unusedVariables false      -- a walk need not use every 'w<i>' (that an integer argument fits its kind)

theorem own : ownKnob Tryd.prog.godebug = none := by kernel_rfl

/-! ### the walk -/
open Go.Proofs.YtfjkcdccnbggnaaDoor
set_option linter.unusedSimpArgs false
set_option maxRecDepth 100000 in
set_option maxHeartbeats 8000000 in
theorem walk  (w : World) (hT : Tab w) :
    Calls Tryd.prog 3 #[] w fun e w' => e = .returned (.bool true) ∧ Below w.heap.size w w' := by
  have hu := Tryd.underlying23
  have hsl := run_all32P
  have hlow := hid hT.low
  have hd3 := hid (built_dg1 3)
  have hd4 := hid (built_dg1 4)
  have hd200 := hid (built_dg1 200)
  have hiN := hid (sizeDgR pN)
  have hiX := hid (sizeDgR (pL 3 97))
  have hiY := hid (sizeDgR pT)
  have hP := fun F A B W (hW : Row F W A [(⟨dfst 3, [97]⟩ : Pr), ⟨dfst 9, [99]⟩]) (hV : Rd W B [120]) => PPut_any F A B 2 2 1 1 [(⟨dfst 3, [97]⟩ : Pr), ⟨dfst 9, [99]⟩] (dfst 3) [120] W hW rfl hV rfl (by decide) (by decide) (by decide) (by decide) (by decide)
  rw [put_x.1, put_x.2] at hP
  have hG := fun F A W (hW : Row F W A [(⟨dfst 3, [97]⟩ : Pr), ⟨dfst 9, [99]⟩]) => PGet_any F A 2 2 [(⟨dfst 3, [97]⟩ : Pr), ⟨dfst 9, [99]⟩] (dfst 4) W hW rfl (by decide)
  rw [get_4.1, get_4.2] at hG
  have hD := fun F A W (hW : Row F W A [(⟨dfst 3, [97]⟩ : Pr), ⟨dfst 9, [99]⟩]) => PDrop_any F A 2 2 [(⟨dfst 3, [97]⟩ : Pr), ⟨dfst 9, [99]⟩] (dfst 4) W hW rfl (by decide) (by decide) (by decide)
  rw [drop_4.1, drop_4.2] at hD
  have hR0 := fun W hTW => PRoot_any (fun _ => False) none 0 0 [] W (Row.nil _ _ _) rfl (by decide) (by decide) (by decide) hTW
  rw [root_nil.1, root_nil.2] at hR0
  have hR1 := fun F A W (hW : Row F W A [(⟨dfst 3, [97]⟩ : Pr)]) hTW => PRoot_any F A 2 1 [(⟨dfst 3, [97]⟩ : Pr)] W hW rfl (by decide) (by decide) (by decide) hTW
  rw [root_one.1, root_one.2] at hR1
  have hR2 := fun F A W (hW : Row F W A [(⟨dfst 3, [97]⟩ : Pr), ⟨dfst 200, [98]⟩]) hTW => PRoot_any F A 2 2 [(⟨dfst 3, [97]⟩ : Pr), ⟨dfst 200, [98]⟩] W hW rfl (by decide) (by decide) (by decide) hTW
  rw [root_two.1, root_two.2] at hR2
  have hC2 := fun F A W (hW : Row F W A [(⟨dfst 9, [99]⟩ : Pr), ⟨dfst 3, [97]⟩]) => PCheck_any F A 2 2 [(⟨dfst 9, [99]⟩ : Pr), ⟨dfst 3, [97]⟩] W hW rfl (by decide)
  rw [may_93] at hC2
  have hC1 := fun F A W (hW : Row F W A [(⟨dfst 9, []⟩ : Pr)]) => PCheck_any F A 1 1 [(⟨dfst 9, []⟩ : Pr)] W hW rfl (by decide)
  rw [may_9] at hC1
  simp only [Bool.false_eq_true, if_false, List.length_cons, List.length_nil, Nat.zero_add, Nat.reduceAdd] at hP hG hD hC2 hC1
  have hSm := fun F G A D c W (h1 : Row F W A [(⟨dfst 3, [120]⟩ : Pr), ⟨dfst 9, [99]⟩]) (h2 : Row G W D [(⟨dfst 3, [120]⟩ : Pr), ⟨dfst 9, [99]⟩]) => RSameP_any F G A D c 2 2 2 [(⟨dfst 3, [120]⟩ : Pr), ⟨dfst 9, [99]⟩] [(⟨dfst 3, [120]⟩ : Pr), ⟨dfst 9, [99]⟩] W h1 h2 rfl rfl (by decide) (by decide)
  rw [decide_eq_true rfl] at hSm
  have hNo : Hid (∀ W, Tab W → Calls Tryd.prog 19 #[] W fun r w' => r = .returned (.agg (pN.1.map bv).toArray) ∧ Below W.heap.size W w') := hid (fun W hTW => TNone_any W hTW)
  have hOt : Hid (∀ W A, Rds W A [(pL 3 97).1, (pL 200 98).1] → Tab W → Calls Tryd.prog 15 #[.int .u8 2, .slice A 2 2] W fun r w' => r = .returned (.agg (pT.1.map bv).toArray) ∧ Below W.heap.size W w') := hid (fun W A hW hTW => TOf_any 2 A 2 2 [(pL 3 97).1, (pL 200 98).1] W hW rfl (by simp) (tag2_leP 2 (by rw [(pL 3 97).2]; decide) (by rw [(pL 200 98).2]; decide)) hTW)
  have hEn : ∀ W, (Op.equalIn 10000 23 (.agg (pN.1.map bv).toArray) (.agg (pN.1.map bv).toArray)).run Tryd.prog W = .ok true W := fun W => eqd_is pN pN true (by simp) W
  have hEx : ∀ W, (Op.equalIn 10000 23 (.agg ((pL 3 97).1.map bv).toArray) (.agg ((pL 3 97).1.map bv).toArray)).run Tryd.prog W = .ok true W := fun W => eqd_is (pL 3 97) (pL 3 97) true (by simp) W
  have hEt : ∀ W, (Op.equalIn 10000 23 (.agg (pT.1.map bv).toArray) (.agg (pT.1.map bv).toArray)).run Tryd.prog W = .ok true W := fun W => eqd_is pT pT true (by simp) W
  have hAl := hid (fun W => alive5_any W)
  have htb := hid (fun W => two_boxes W)
  replace hG := hid hG
  replace hP := hid hP
  replace hD := hid hD
  replace hR0 := hid hR0
  replace hR1 := hid hR1
  replace hR2 := hid hR2
  replace hC2 := hid hC2
  replace hC1 := hid hC1
  replace hSm := hid hSm
  have H0 := hid hT
  have W0 := hid (Below.refl w.heap.size w)
  clear hT
  have o3 := hid (oneDgB (dfst 3))
  have o200 := hid (oneDgB (dfst 200))
  have q3 := hid (sizeDgB (dfst 3))
  have q200 := hid (sizeDgB (dfst 200))
  have z3 := hid (zDgB (dfst 3))
  have z200 := hid (zDgB (dfst 200))
  have hrep := hid (fun (W : World) (A : Option Addr) (c' : Nat) (v : List UInt8) (c : UInt8) (h : Rd W A v) h1 h2 => one_rep (c' := c') c h h1 h2)
  have hlen := hid (fun (c : UInt8) (v : Value) => len_pr (dfst c) v)
  generalize hdk3 : (dfst 3).1.map bv = d3 at hd3 o3 q3 z3 hP
  generalize hdk200 : (dfst 200).1.map bv = d200 at hd200 o200 q200 z200
  generalize (dfst 4).1.map bv = d4 at hd4 hG hD
  replace hdk3 := hid hdk3
  replace hdk200 := hid hdk200
  go_enter Tryd.func3, Tryd.ntmps3
  go_wp2_with fail
  refine (one_is 3 [97] _ _ _ rfl rfl (by decide)).mono ?_
  rintro e w1 ⟨a1, k1, rfl, hr, hp, hq, hb⟩
  have r1 := hid hr
  have j1 := hid (And.intro hp hq)
  have H1 := hid (H0.out.bel hb (Nat.lt_of_lt_of_le hlow.out W0.out.size))
  have W1 := hid (W0.out.trans (hb.mono W0.out.size))
  clear H0 W0
  clear hb hr hp hq
  go_wp2_with fail
  have rr := r1.out
  clear r1
  refine (one_is 9 [99] _ _ _ rfl rfl (by decide)).mono ?_
  rintro e w2 ⟨a2, k2, rfl, hr, hp, hq, hb⟩
  have r2 := hid hr
  have j2 := hid (And.intro hp hq)
  replace rr := rr.bel hb
  have H2 := hid (H1.out.bel hb (Nat.lt_of_lt_of_le hlow.out W1.out.size))
  have W2 := hid (W1.out.trans (hb.mono W1.out.size))
  clear H1 W1
  clear hb hr hp hq
  have h1 := hrep.out w2 a1 k1 [97] 3 rr j1.out.1 j1.out.2
  have h2 := hrep.out w2 a2 k2 [99] 9 r2.out j2.out.1 j2.out.2
  have m1 := hid (hlen.out 3 (Value.slice a1 ([97] : List UInt8).length k1))
  have m2 := hid (hlen.out 9 (Value.slice a2 ([99] : List UInt8).length k2))
  have R := hid (row_two (E := 26) h1 h2)
  clear h1 h2
  generalize ((dfst 3).1.map bv ++ [Value.slice a1 ([97] : List UInt8).length k1]) = u1 at *
  generalize ((dfst 9).1.map bv ++ [Value.slice a2 ([99] : List UInt8).length k2]) = u2 at *
  clear rr r2
  have kc := fun o C n c => conv_lit2 w2 o C n c
  go_wp2_with (first
    | ((with_reducible refine wpList_buildAll slotPr ?_ 2 _ rfl [u1, u2] rfl (by decide) (by decide) ?_ ?_ ?_); rfl; (intro cs hcs; simp at hcs; rcases hcs with rfl | rfl; exact m1.out; exact m2.out); rfl)
    | ((with_reducible refine wpList_built rfl 23 _ rfl d3.toArray [(0, .int .u8 3)] ?_ ?_ ?_); exact hd3.out; rfl))
  have B1 := ext_alloc w2 (.cells (u1 ++ u2).toArray 26)
  have B2 := ext_alloc (w2.alloc (.cells (u1 ++ u2).toArray 26)) (.cells #[.int .u8 120] 5 (1, 2))
  have Y := ext_trans B1 B2
  have l3 := hid (R.out.bel B2)
  have hrd := Rd.litf (w2.alloc (.cells (u1 ++ u2).toArray 26)) 5 [120] #[.int .u8 120] (w2.heap.size + 1) (1, 2) (World.size_alloc _ _) rfl
  have H3 := hid (H2.out.bel Y (Nat.lt_of_lt_of_le hlow.out W2.out.size))
  have W3 := hid (W2.out.trans (Y.mono W2.out.size))
  clear H2 W2
  refine (hP.out _ _ _ _ l3.out hrd).mono ?_
  rintro e w4 ⟨ad4, c4, rfl, ho, hb⟩
  have H4 := hid (H3.out.bel hb (Nat.lt_of_lt_of_le hlow.out W3.out.size))
  have W4 := hid (W3.out.trans (hb.mono W3.out.size))
  have l4 := hid (l3.out.bel hb)
  clear H3 W3 l3
  have p4 := hid (OwnR.row ho)
  clear hb ho hP Y B1 B2 hrd kc R m1 m2 j1 j2
  go_wp2_with (first
    | ((with_reducible refine wpList_built rfl 23 _ rfl d4.toArray [(0, .int .u8 4)] ?_ ?_ ?_); exact hd4.out; rfl))
  refine (hG.out _ (some ⟨w2.heap.size, 0, none⟩) _ l4.out).mono ?_
  rintro e w5 ⟨ad5, c5, rfl, ho, hb⟩
  have H5 := hid (H4.out.bel hb (Nat.lt_of_lt_of_le hlow.out W4.out.size))
  have W5 := hid (W4.out.trans (hb.mono W4.out.size))
  have l5 := hid (l4.out.bel hb)
  have p5 := hid (p4.out.bel hb)
  clear H4 W4 l4 p4
  clear hb ho hG
  go_wp2_with (first
    | ((with_reducible refine wpList_built rfl 23 _ rfl d4.toArray [(0, .int .u8 4)] ?_ ?_ ?_); exact hd4.out; rfl))
  refine (hD.out _ (some ⟨w2.heap.size, 0, none⟩) _ l5.out).mono ?_
  rintro e w6 ⟨ad6, c6, rfl, ho, hb⟩
  have H6 := hid (H5.out.bel hb (Nat.lt_of_lt_of_le hlow.out W5.out.size))
  have W6 := hid (W5.out.trans (hb.mono W5.out.size))
  have l6 := hid (l5.out.bel hb)
  have p6 := hid (p5.out.bel hb)
  clear H5 W5 l5 p5
  clear hb ho hD
  go_wp2_with fail
  refine (hR0.out _ H6.out).mono ?_
  rintro e w7 ⟨rfl, hb⟩
  have H7 := hid (H6.out.bel hb (Nat.lt_of_lt_of_le hlow.out W6.out.size))
  have W7 := hid (W6.out.trans (hb.mono W6.out.size))
  have l7 := hid (l6.out.bel hb)
  have p7 := hid (p6.out.bel hb)
  clear H6 W6 l6 p6
  clear hb hR0
  have e7 := hid (heap_alloc_new w7 (.cells z32 23))
  go_wp2_with (first
    | (with_reducible refine wpList_alloc_row rfl 23 rfl z32 info32 ?_)
    | ((with_reducible refine wpList_store_row rfl 23 (.tmp 8) (.tmp 44) rfl _ _ rfl rfl 23 z32 ?_ ?_ ?_ ?_ ?_); exact e7.out; exact sizeDgB pN; exact zDgB pN; exact oneDgB pN; intro w8 hgS hbS hsS; have X8 := hid (xnewB rfl hbS); have N8 := hid (rangeOf (l := pN.1.map bv) hgS); clear hgS hbS hsS; have H8 := hid (H7.out.bel X8.out (Nat.lt_of_lt_of_le hlow.out W7.out.size)); have W8 := hid (W7.out.trans (X8.out.mono W7.out.size)); have l8 := hid (l7.out.bel X8.out); have p8 := hid (p7.out.bel X8.out); clear H7 W7 l7 p7)
    | ((with_reducible refine wpList_built rfl 23 _ rfl d3.toArray [(0, .int .u8 3)] ?_ ?_ ?_); exact hd3.out; rfl)
    | ((with_reducible refine wpList_built rfl 23 _ rfl d200.toArray [(0, .int .u8 200)] ?_ ?_ ?_); exact hd200.out; rfl)
    | ((with_reducible refine wpList_store_row rfl 23 (.tmp 10) (.tmp 46) rfl _ _ rfl rfl 23 z32 ?_ ?_ ?_ ?_ ?_); exact (htb.out w8).1; exact q3.out; exact z3.out; exact o3.out; intro w9 g9 b9 s9; refine wpList_store_row rfl 23 (.tmp 11) (.tmp 47) rfl _ _ rfl rfl 23 z32 ?_ ?_ ?_ ?_ ?_; (first | exact (b9.block _ (block_lt (htb.out w8).2.1) (by simp)).trans (htb.out w8).2.1 | (simp only [World.size_alloc]; exact (b9.block _ (block_lt (htb.out w8).2.1) (by simp)).trans (htb.out w8).2.1)); exact q200.out; exact z200.out; exact o200.out; intro w10 g10 b10 s10; try simp only [World.size_alloc] at g10 b10; have X9 := (htb.out w8).2.2.grown b9 (htb.out w8).2.2.size (fun k e => by injection e with e; omega); have X10 := hid (X9.grown b10 X9.size (fun k e => by injection e with e; omega)); have K10 := hid (rangeOf (l := d3) ((b10.block _ (block_lt g9) (by simp)).trans g9)); have J10 := hid (rangeOf (l := d200) g10); clear g9 b9 s9 g10 b10 s10 X9; have H10 := hid (H8.out.bel X10.out (Nat.lt_of_lt_of_le hlow.out W8.out.size)); have W10 := hid (W8.out.trans (X10.out.mono W8.out.size)); have l10 := hid (l8.out.bel X10.out); have p10 := hid (p8.out.bel X10.out); have N10 := hid (rangeBel2 X10.out N8.out); clear H8 W8 l8 p8 N8))
  have kr3 := rd_keyP (k := dfst 3) (by rw [hdk3.out]; exact K10.out)
  have kr200 := rd_keyP (k := dfst 200) (by rw [hdk200.out]; exact J10.out)
  refine wp_region_noPanic ?_
  refine wp_region_held_drew (S := fun _ => True) (by kernel_rfl) trivial (fun _ => ?_)
  refine' wpAnyH_take (i := 0) (oi := _) (v := ?_) rfl (by kernel_rfl) (by kernel_rfl) (by kernel_rfl) (fun _ _ _ h => h) (Or.inl ⟨by rfl, ?_⟩) trivial ?_
  rotate_left
  · intro W hSw
    go_simp
    first | done | (with_reducible rfl)
  try simp only [Act.put, sQa, sQb, sQc, gQa, gQb, gQc]
  refine' wpAnyH_take (i := 5) (oi := _) (v := ?_) rfl (by kernel_rfl) (by kernel_rfl) (by kernel_rfl) (fun _ _ _ h => h) (Or.inl ⟨by rfl, ?_⟩) trivial ?_
  rotate_left
  · intro W hSw
    go_simp
    first | done | (with_reducible rfl)
  try simp only [Act.put, sQa, sQb, sQc, gQa, gQb, gQc]
  refine two_all (s0 := 48) (s5 := 53) (s1 := 49) (s2 := 50) (s3 := 51) (s4 := 52) (s6 := 54) (s7 := 55) (s8 := 56) (s9 := 57) (s10 := 12) (s11 := 13) (cA := 97) (cB := 98) (hf := rfl) (hl := rfl) (hS := ?_) (dfst 3) (dfst 200) w8.heap.size (w8.heap.size + 1) (hsz := ?_) rfl rfl kr3 kr200 H10.out ?_
  · exact ⟨⟨_, rfl, rfl, rfl, rfl⟩, ⟨_, rfl, rfl, rfl, rfl⟩, ⟨_, rfl, rfl, rfl, rfl⟩, ⟨_, rfl, rfl, rfl, _, rfl⟩, ⟨_, rfl, rfl, rfl, rfl⟩, ⟨_, rfl, rfl, rfl, rfl⟩, ⟨_, rfl, rfl, rfl, rfl⟩, ⟨_, rfl, rfl, rfl, _, rfl⟩, ⟨_, rfl, rfl, rfl, rfl⟩, ⟨_, rfl, rfl, rfl, rfl⟩, ⟨_, rfl, rfl, rfl, rfl⟩, ⟨_, rfl, rfl, rfl, rfl⟩, by decide +kernel, by kernel_rfl, by decide, by decide, by decide⟩
  · intro s hs
    show s < 137
    revert s
    decide
  intro v1 v2 v3 v4 v6 v7 v8 v9 w11 g h hb hg hh hne f4 f5
  refine NoPanic.normal ?_
  try simp only [Act.put, sQa, sQb, sQc, gQa, gQb, gQc]
  have hb2 : Below w10.heap.size w10 w11 := undrew hb
  clear kr3 kr200
  have H11 := hid (H10.out.bel hb2 (Nat.lt_of_lt_of_le hlow.out W10.out.size))
  have W11 := hid (W10.out.trans (hb2.mono W10.out.size))
  have l11 := hid (l10.out.bel hb2)
  have p11 := hid (p10.out.bel hb2)
  have N11 := hid (rangeBel2 hb2 N10.out)
  have K11 := hid (rangeBel2 hb2 K10.out)
  have J11 := hid (rangeBel2 hb2 J10.out)
  clear H10 W10 l10 p10 N10 K10 J10
  clear K11
  clear J11
  have L11 := hid (show w11.rangeAt g 0 ((pL 3 97).1.map bv) from rangeOf f4)
  have M11 := hid (show w11.rangeAt h 0 ((pL 200 98).1.map bv) from rangeOf f5)
  clear hb hb2 hg hh hne f4 f5
  have hcut := fun W => (show (Instr.sliceAt 28 (.slice (some ⟨w2.heap.size, 0, none⟩) 2 2) none (some (.int .i64 1)) none).run Tryd.prog W = .ok (.slice (some ⟨w2.heap.size, 0, none⟩) 1 2) W from run_upto slotPr (some ⟨w2.heap.size, 0, none⟩) 2 2 1 (by decide) W)
  go_wp2_with fail
  clear hcut
  refine (hR1.out _ (some ⟨w2.heap.size, 0, none⟩) _ (l11.out.take 1) H11.out).mono ?_
  rintro e w12 ⟨rfl, hb⟩
  have H12 := hid (H11.out.bel hb (Nat.lt_of_lt_of_le hlow.out W11.out.size))
  have W12 := hid (W11.out.trans (hb.mono W11.out.size))
  have l12 := hid (l11.out.bel hb)
  have p12 := hid (p11.out.bel hb)
  have N12 := hid (rangeBel2 hb N11.out)
  have L12 := hid (rangeBel2 hb L11.out)
  have M12 := hid (rangeBel2 hb M11.out)
  clear H11 W11 l11 p11 N11 L11 M11
  clear hb hR1
  have e12 := hid (heap_alloc_new w12 (.cells z32 23))
  go_wp2_with (first
    | (with_reducible refine wpList_alloc_row rfl 23 rfl z32 info32 ?_)
    | ((with_reducible refine wpList_store_row rfl 23 (.tmp 14) (.tmp 62) rfl _ _ rfl rfl 23 z32 ?_ ?_ ?_ ?_ ?_); exact e12.out; exact sizeDgB (pL 3 97); exact zDgB (pL 3 97); exact oneDgB (pL 3 97); intro w13 hgS hbS hsS; have X13 := hid (xnewB rfl hbS); have x13 := hid (rangeOf (l := (pL 3 97).1.map bv) hgS); clear hgS hbS hsS; have H13 := hid (H12.out.bel X13.out (Nat.lt_of_lt_of_le hlow.out W12.out.size)); have W13 := hid (W12.out.trans (X13.out.mono W12.out.size)); have l13 := hid (l12.out.bel X13.out); have p13 := hid (p12.out.bel X13.out); have N13 := hid (rangeBel2 X13.out N12.out); have L13 := hid (rangeBel2 X13.out L12.out); have M13 := hid (rangeBel2 X13.out M12.out); clear H12 W12 l12 p12 N12 L12 M12))
  refine (one_is 3 [97] _ _ _ rfl rfl (by decide)).mono ?_
  rintro e w14 ⟨a14, k14, rfl, hr, hp, hq, hb⟩
  have rr := hr
  have j14 := hid (And.intro hp hq)
  have H14 := hid (H13.out.bel hb (Nat.lt_of_lt_of_le hlow.out W13.out.size))
  have W14 := hid (W13.out.trans (hb.mono W13.out.size))
  have l14 := hid (l13.out.bel hb)
  have p14 := hid (p13.out.bel hb)
  have N14 := hid (rangeBel2 hb N13.out)
  have L14 := hid (rangeBel2 hb L13.out)
  have M14 := hid (rangeBel2 hb M13.out)
  have x14 := hid (rangeBel2 hb x13.out)
  clear H13 W13 l13 p13 N13 L13 M13 x13
  clear hb hr hp hq
  go_wp2_with fail
  refine (one_is 200 [98] _ _ _ rfl rfl (by decide)).mono ?_
  rintro e w15 ⟨a15, k15, rfl, hr, hp, hq, hb⟩
  have r15 := hid hr
  have j15 := hid (And.intro hp hq)
  replace rr := rr.bel hb
  have H15 := hid (H14.out.bel hb (Nat.lt_of_lt_of_le hlow.out W14.out.size))
  have W15 := hid (W14.out.trans (hb.mono W14.out.size))
  have l15 := hid (l14.out.bel hb)
  have p15 := hid (p14.out.bel hb)
  have N15 := hid (rangeBel2 hb N14.out)
  have L15 := hid (rangeBel2 hb L14.out)
  have M15 := hid (rangeBel2 hb M14.out)
  have x15 := hid (rangeBel2 hb x14.out)
  clear H14 W14 l14 p14 N14 L14 M14 x14
  clear hb hr hp hq
  have h1 := hrep.out w15 a14 k14 [97] 3 rr j14.out.1 j14.out.2
  have h2 := hrep.out w15 a15 k15 [98] 200 r15.out j15.out.1 j15.out.2
  have m14 := hid (hlen.out 3 (Value.slice a14 ([97] : List UInt8).length k14))
  have m15 := hid (hlen.out 200 (Value.slice a15 ([98] : List UInt8).length k15))
  have R := hid (row_two (E := 26) h1 h2)
  clear h1 h2
  generalize ((dfst 3).1.map bv ++ [Value.slice a14 ([97] : List UInt8).length k14]) = u14 at *
  generalize ((dfst 200).1.map bv ++ [Value.slice a15 ([98] : List UInt8).length k15]) = u15 at *
  go_wp2_with (first
    | ((with_reducible refine wpList_buildAll slotPr ?_ 2 _ rfl [u14, u15] rfl (by decide) (by decide) ?_ ?_ ?_); rfl; (intro cs hcs; simp at hcs; rcases hcs with rfl | rfl; exact m14.out; exact m15.out); rfl))
  have Y := ext_alloc w15 (.cells (u14 ++ u15).toArray 26)
  have H16 := hid (H15.out.bel Y (Nat.lt_of_lt_of_le hlow.out W15.out.size))
  have W16 := hid (W15.out.trans (Y.mono W15.out.size))
  have l16 := hid (l15.out.bel Y)
  have p16 := hid (p15.out.bel Y)
  have N16 := hid (rangeBel2 Y N15.out)
  have L16 := hid (rangeBel2 Y L15.out)
  have M16 := hid (rangeBel2 Y M15.out)
  have x16 := hid (rangeBel2 Y x15.out)
  clear H15 W15 l15 p15 N15 L15 M15 x15
  refine (hR2.out _ _ _ R.out H16.out).mono ?_
  rintro e w17 ⟨rfl, hb⟩
  have H17 := hid (H16.out.bel hb (Nat.lt_of_lt_of_le hlow.out W16.out.size))
  have W17 := hid (W16.out.trans (hb.mono W16.out.size))
  have l17 := hid (l16.out.bel hb)
  have p17 := hid (p16.out.bel hb)
  have N17 := hid (rangeBel2 hb N16.out)
  have L17 := hid (rangeBel2 hb L16.out)
  have M17 := hid (rangeBel2 hb M16.out)
  have x17 := hid (rangeBel2 hb x16.out)
  clear H16 W16 l16 p16 N16 L16 M16 x16
  clear hb Y R m14 m15 j14 j15 rr r15
  have e17 := hid (heap_alloc_new w17 (.cells z32 23))
  go_wp2_with (first
    | (with_reducible refine wpList_alloc_row rfl 23 rfl z32 info32 ?_)
    | ((with_reducible refine wpList_store_row rfl 23 (.tmp 16) (.tmp 69) rfl _ _ rfl rfl 23 z32 ?_ ?_ ?_ ?_ ?_); exact e17.out; exact sizeDgB pT; exact zDgB pT; exact oneDgB pT; intro w18 hgS hbS hsS; have X18 := hid (xnewB rfl hbS); have y18 := hid (rangeOf (l := pT.1.map bv) hgS); clear hgS hbS hsS; have H18 := hid (H17.out.bel X18.out (Nat.lt_of_lt_of_le hlow.out W17.out.size)); have W18 := hid (W17.out.trans (X18.out.mono W17.out.size)); have l18 := hid (l17.out.bel X18.out); have p18 := hid (p17.out.bel X18.out); have N18 := hid (rangeBel2 X18.out N17.out); have L18 := hid (rangeBel2 X18.out L17.out); have M18 := hid (rangeBel2 X18.out M17.out); have x18 := hid (rangeBel2 X18.out x17.out); clear H17 W17 l17 p17 N17 L17 M17 x17))
  refine (one_is 9 [99] _ _ _ rfl rfl (by decide)).mono ?_
  rintro e w19 ⟨a19, k19, rfl, hr, hp, hq, hb⟩
  have rr := hr
  have j19 := hid (And.intro hp hq)
  have H19 := hid (H18.out.bel hb (Nat.lt_of_lt_of_le hlow.out W18.out.size))
  have W19 := hid (W18.out.trans (hb.mono W18.out.size))
  have l19 := hid (l18.out.bel hb)
  have p19 := hid (p18.out.bel hb)
  have N19 := hid (rangeBel2 hb N18.out)
  have L19 := hid (rangeBel2 hb L18.out)
  have M19 := hid (rangeBel2 hb M18.out)
  have x19 := hid (rangeBel2 hb x18.out)
  have y19 := hid (rangeBel2 hb y18.out)
  clear H18 W18 l18 p18 N18 L18 M18 x18 y18
  clear hb hr hp hq
  go_wp2_with fail
  refine (one_is 3 [97] _ _ _ rfl rfl (by decide)).mono ?_
  rintro e w20 ⟨a20, k20, rfl, hr, hp, hq, hb⟩
  have r20 := hid hr
  have j20 := hid (And.intro hp hq)
  replace rr := rr.bel hb
  have H20 := hid (H19.out.bel hb (Nat.lt_of_lt_of_le hlow.out W19.out.size))
  have W20 := hid (W19.out.trans (hb.mono W19.out.size))
  have l20 := hid (l19.out.bel hb)
  have p20 := hid (p19.out.bel hb)
  have N20 := hid (rangeBel2 hb N19.out)
  have L20 := hid (rangeBel2 hb L19.out)
  have M20 := hid (rangeBel2 hb M19.out)
  have x20 := hid (rangeBel2 hb x19.out)
  have y20 := hid (rangeBel2 hb y19.out)
  clear H19 W19 l19 p19 N19 L19 M19 x19 y19
  clear hb hr hp hq
  have h1 := hrep.out w20 a19 k19 [99] 9 rr j19.out.1 j19.out.2
  have h2 := hrep.out w20 a20 k20 [97] 3 r20.out j20.out.1 j20.out.2
  have m19 := hid (hlen.out 9 (Value.slice a19 ([99] : List UInt8).length k19))
  have m20 := hid (hlen.out 3 (Value.slice a20 ([97] : List UInt8).length k20))
  have R := hid (row_two (E := 26) h1 h2)
  clear h1 h2
  generalize ((dfst 9).1.map bv ++ [Value.slice a19 ([99] : List UInt8).length k19]) = u19 at *
  generalize ((dfst 3).1.map bv ++ [Value.slice a20 ([97] : List UInt8).length k20]) = u20 at *
  go_wp2_with (first
    | ((with_reducible refine wpList_buildAll slotPr ?_ 2 _ rfl [u19, u20] rfl (by decide) (by decide) ?_ ?_ ?_); rfl; (intro cs hcs; simp at hcs; rcases hcs with rfl | rfl; exact m19.out; exact m20.out); rfl))
  have Y := ext_alloc w20 (.cells (u19 ++ u20).toArray 26)
  have H21 := hid (H20.out.bel Y (Nat.lt_of_lt_of_le hlow.out W20.out.size))
  have W21 := hid (W20.out.trans (Y.mono W20.out.size))
  have l21 := hid (l20.out.bel Y)
  have p21 := hid (p20.out.bel Y)
  have N21 := hid (rangeBel2 Y N20.out)
  have L21 := hid (rangeBel2 Y L20.out)
  have M21 := hid (rangeBel2 Y M20.out)
  have x21 := hid (rangeBel2 Y x20.out)
  have y21 := hid (rangeBel2 Y y20.out)
  clear H20 W20 l20 p20 N20 L20 M20 x20 y20
  refine (hC2.out _ _ _ R.out).mono ?_
  rintro e w22 ⟨rfl, hb⟩
  have H22 := hid (H21.out.bel hb (Nat.lt_of_lt_of_le hlow.out W21.out.size))
  have W22 := hid (W21.out.trans (hb.mono W21.out.size))
  have l22 := hid (l21.out.bel hb)
  have p22 := hid (p21.out.bel hb)
  have N22 := hid (rangeBel2 hb N21.out)
  have L22 := hid (rangeBel2 hb L21.out)
  have M22 := hid (rangeBel2 hb M21.out)
  have x22 := hid (rangeBel2 hb x21.out)
  have y22 := hid (rangeBel2 hb y21.out)
  clear H21 W21 l21 p21 N21 L21 M21 x21 y21
  clear hb Y R m19 m20 j19 j20 rr r20
  go_wp2_with fail
  refine (one_is 9 [] _ _ _ rfl rfl (by decide)).mono ?_
  rintro e w23 ⟨a23, k23, rfl, hr, hp, hq, hb⟩
  have H23 := hid (H22.out.bel hb (Nat.lt_of_lt_of_le hlow.out W22.out.size))
  have W23 := hid (W22.out.trans (hb.mono W22.out.size))
  have l23 := hid (l22.out.bel hb)
  have p23 := hid (p22.out.bel hb)
  have N23 := hid (rangeBel2 hb N22.out)
  have L23 := hid (rangeBel2 hb L22.out)
  have M23 := hid (rangeBel2 hb M22.out)
  have x23 := hid (rangeBel2 hb x22.out)
  have y23 := hid (rangeBel2 hb y22.out)
  clear H22 W22 l22 p22 N22 L22 M22 x22 y22
  have h1 := hrep.out w23 a23 k23 [] 9 hr hp hq
  have m23 := hid (hlen.out 9 (Value.slice a23 ([] : List UInt8).length k23))
  have R := hid (row_single (E := 26) h1)
  clear h1 hb hr hp hq
  generalize ((dfst 9).1.map bv ++ [Value.slice a23 ([] : List UInt8).length k23]) = u23 at *
  go_wp2_with (first
    | ((with_reducible refine wpList_buildAll slotPr ?_ 1 _ rfl [u23] rfl (by decide) (by decide) ?_ ?_ ?_); rfl; (intro cs hcs; simp at hcs; rcases hcs with rfl; exact m23.out); rfl))
  have Y := ext_alloc w23 (.cells u23.toArray 26)
  have H24 := hid (H23.out.bel Y (Nat.lt_of_lt_of_le hlow.out W23.out.size))
  have W24 := hid (W23.out.trans (Y.mono W23.out.size))
  have l24 := hid (l23.out.bel Y)
  have p24 := hid (p23.out.bel Y)
  have N24 := hid (rangeBel2 Y N23.out)
  have L24 := hid (rangeBel2 Y L23.out)
  have M24 := hid (rangeBel2 Y M23.out)
  have x24 := hid (rangeBel2 Y x23.out)
  have y24 := hid (rangeBel2 Y y23.out)
  clear H23 W23 l23 p23 N23 L23 M23 x23 y23
  refine (hC1.out _ _ _ R.out).mono ?_
  rintro e w25 ⟨rfl, hb⟩
  have H25 := hid (H24.out.bel hb (Nat.lt_of_lt_of_le hlow.out W24.out.size))
  have W25 := hid (W24.out.trans (hb.mono W24.out.size))
  have l25 := hid (l24.out.bel hb)
  have p25 := hid (p24.out.bel hb)
  have N25 := hid (rangeBel2 hb N24.out)
  have L25 := hid (rangeBel2 hb L24.out)
  have M25 := hid (rangeBel2 hb M24.out)
  have x25 := hid (rangeBel2 hb x24.out)
  have y25 := hid (rangeBel2 hb y24.out)
  clear H24 W24 l24 p24 N24 L24 M24 x24 y24
  clear hb Y R m23
  have l25b := hid (Nat.lt_of_lt_of_le hlow.out W25.out.size)
  go_wp2
  refine wp_region_noPanic ?_
  refine wp_region_held_drew (S := fun w' => Below w25.heap.size w25 w') (by kernel_rfl) ?_ (fun hHeld => ?_)
  · exact bel_drew w25
  refine' wpAnyH_take (i := 0) (oi := _) (v := ?_) rfl (by kernel_rfl) (by kernel_rfl) (by kernel_rfl) (fun _ _ _ h => h) (Or.inl ⟨by rfl, ?_⟩) (by assumption) ?_
  rotate_left
  · intro W hSw
    go_simp
    first | done | (with_reducible rfl)
  try simp only [Act.put, sQa, sQb, sQc, gQa, gQb, gQc]
  refine wpAnyH_ready (rs := [1]) (by kernel_rfl) (by simp) ?_
  refine AllReadyH.cons (o := _) rfl (fun K hK => ?_) AllReadyH.nil
  go_simp
  refine (hAl.out _).mono ?_
  rintro e26 w26 ⟨rfl, hB⟩
  go_wp2_with fail
  refine hK.out _ _ ?_ (fun hHeld => ?_)
  · exact hHeld.trans (hB.mono hHeld.size)
  clear hK K
  try simp only [Act.put, sQa, sQb, sQc, gQa, gQb, gQc]
  refine' wpAnyH_take (i := 2) (oi := _) (v := ?_) rfl (by kernel_rfl) (by kernel_rfl) (by kernel_rfl) (fun _ _ _ h => h) (Or.inl ⟨by rfl, ?_⟩) (by assumption) ?_
  rotate_left
  · intro W hSw
    go_simp
    first | done | (with_reducible rfl)
  try simp only [Act.put, sQa, sQb, sQc, gQa, gQb, gQc]
  refine' wpAnyH_take (i := 3) (oi := _) (v := ?_) rfl (by kernel_rfl) (by kernel_rfl) (by kernel_rfl) (fun _ _ _ h => h) (Or.inl ⟨by rfl, ?_⟩) (by assumption) ?_
  rotate_left
  · intro W hSw
    go_simp
    first | done | (with_reducible rfl)
  try simp only [Act.put, sQa, sQb, sQc, gQa, gQb, gQc]
  refine' wpAnyH_take (i := 4) (oi := _) (v := ?_) rfl (by kernel_rfl) (by kernel_rfl) (by kernel_rfl) (fun _ _ _ h => h) (Or.inl ⟨by rfl, ?_⟩) (by assumption) ?_
  rotate_left
  · intro W hSw
    go_simp
    first | done | (with_reducible rfl)
  try simp only [Act.put, sQa, sQb, sQc, gQa, gQb, gQc]
  refine' wpAnyH_take (i := 5) (oi := _) (v := ?_) rfl (by kernel_rfl) (by kernel_rfl) (by kernel_rfl) (fun _ _ _ h => h) (Or.inl ⟨by rfl, ?_⟩) (by assumption) ?_
  rotate_left
  · intro W hSw
    go_simp
    first | done | (with_reducible rfl)
  try simp only [Act.put, sQa, sQb, sQc, gQa, gQb, gQc]
  refine' wpAnyH_take (i := 6) (oi := _) (v := ?_) rfl (by kernel_rfl) (by kernel_rfl) (by kernel_rfl) (fun _ _ _ h => h) (Or.inl ⟨by rfl, ?_⟩) (by assumption) ?_
  rotate_left
  · intro W hSw
    go_simp
    first | done | (with_reducible rfl)
  try simp only [Act.put, sQa, sQb, sQc, gQa, gQb, gQc]
  refine' wpAnyH_take (i := 7) (oi := _) (v := ?_) rfl (by kernel_rfl) (by kernel_rfl) (by kernel_rfl) (fun _ _ _ h => h) (Or.inl ⟨by rfl, ?_⟩) (by assumption) ?_
  rotate_left
  · intro W hSw
    go_simp
    first | done | (with_reducible rfl)
  try simp only [Act.put, sQa, sQb, sQc, gQa, gQb, gQc]
  refine' wpAnyH_take (i := 8) (oi := _) (v := ?_) rfl (by kernel_rfl) (by kernel_rfl) (by kernel_rfl) (fun _ _ _ h => h) (Or.inl ⟨by rfl, ?_⟩) (by assumption) ?_
  rotate_left
  · intro W hSw
    go_simp
    first | done | (with_reducible rfl)
  try simp only [Act.put, sQa, sQb, sQc, gQa, gQb, gQc]
  refine wpAnyH_ready (rs := [9]) (by kernel_rfl) (by simp) ?_
  refine AllReadyH.cons (o := _) rfl (fun K hK => ?_) AllReadyH.nil
  go_simp
  refine (one_is 3 [120] _ _ _ rfl rfl (by decide)).mono ?_
  rintro e27 w27 ⟨a27, k27, rfl, hr1, hp1, hq1, hB⟩
  have m27 := hid (hlen.out 3 (Value.slice a27 ([120] : List UInt8).length k27))
  have f27 := hid (fun W (h : Rd W a27 [120]) => hrep.out W a27 k27 [120] 3 h hp1 hq1)
  generalize ((dfst 3).1.map bv ++ [Value.slice a27 ([120] : List UInt8).length k27]) = u27 at *
  go_wp2_with fail
  refine hK.out _ _ ?_ (fun hHeld => ?_)
  · exact hHeld.trans (hB.mono hHeld.size)
  clear hK K
  try simp only [Act.put, sQa, sQb, sQc, gQa, gQb, gQc]
  refine wpAnyH_ready (rs := [10]) (by kernel_rfl) (by simp) ?_
  refine AllReadyH.cons (o := _) rfl (fun K hK => ?_) AllReadyH.nil
  go_simp
  refine (one_is 9 [99] _ _ _ rfl rfl (by decide)).mono ?_
  rintro e28 w28 ⟨a28, k28, rfl, hr2, hp2, hq2, hB⟩
  have m28 := hid (hlen.out 9 (Value.slice a28 ([99] : List UInt8).length k28))
  have h2 := hrep.out w28 a28 k28 [99] 9 hr2 hp2 hq2
  generalize ((dfst 9).1.map bv ++ [Value.slice a28 ([99] : List UInt8).length k28]) = u28 at *
  have R := hid (row_two (E := 26) (f27.out _ (hr1.bel hB)) h2)
  go_wp2_with fail
  refine hK.out _ _ ?_ (fun hHeld => ?_)
  · exact hHeld.trans (hB.mono hHeld.size)
  clear hK K
  try simp only [Act.put, sQa, sQb, sQc, gQa, gQb, gQc]
  refine wpAnyH_ready (rs := [11]) (by kernel_rfl) (by simp) ?_
  refine AllReadyH.cons (o := _) rfl (fun K hK => ?_) AllReadyH.nil
  refine step_pairT (by rfl) (.tmp 91) (.tmp 92) rfl u27 u28 rfl rfl m27.out m28.out ?_
  have hB := ext_alloc w28 (.cells (u27 ++ u28).toArray 26)
  refine hK.out _ _ ?_ (fun hHeld => ?_)
  · exact hHeld.trans (hB.mono hHeld.size)
  clear hK K
  try simp only [Act.put, sQa, sQb, sQc, gQa, gQb, gQc]
  refine wpAnyH_ready (rs := [12]) (by kernel_rfl) (by simp) ?_
  refine AllReadyH.cons (o := _) rfl (fun K hK => ?_) AllReadyH.nil
  go_simp
  refine (hSm.out _ _ ad4 _ c4 _ (p25.out.bel hHeld) R.out).mono ?_
  rintro e29 w29 ⟨rfl, hB⟩
  go_wp2_with fail
  refine hK.out _ _ ?_ (fun hHeld => ?_)
  · exact hHeld.trans (hB.mono hHeld.size)
  clear hK K
  try simp only [Act.put, sQa, sQb, sQc, gQa, gQb, gQc]
  refine' wpAnyH_take (i := 13) (oi := _) (v := ?_) rfl (by kernel_rfl) (by kernel_rfl) (by kernel_rfl) (fun _ _ _ h => h) (Or.inl ⟨by rfl, ?_⟩) (by assumption) ?_
  rotate_left
  · intro W hSw
    go_simp
    first | done | (with_reducible rfl)
  try simp only [Act.put, sQa, sQb, sQc, gQa, gQb, gQc]
  refine' wpAnyH_take (i := 14) (oi := _) (v := ?_) rfl (by kernel_rfl) (by kernel_rfl) (by kernel_rfl) (fun _ _ _ h => h) (Or.inl ⟨by rfl, ?_⟩) (by assumption) ?_
  rotate_left
  · intro W hSw
    go_simp
    first | done | (with_reducible rfl)
  try simp only [Act.put, sQa, sQb, sQc, gQa, gQb, gQc]
  refine' wpAnyH_take (i := 15) (oi := _) (v := ?_) rfl (by kernel_rfl) (by kernel_rfl) (by kernel_rfl) (fun _ _ _ h => h) (Or.inl ⟨by rfl, ?_⟩) (by assumption) ?_
  rotate_left
  · intro W hSw
    go_simp
    first | done | (with_reducible rfl)
  try simp only [Act.put, sQa, sQb, sQc, gQa, gQb, gQc]
  refine' wpAnyH_take (i := 16) (oi := _) (v := ?_) rfl (by kernel_rfl) (by kernel_rfl) (by kernel_rfl) (fun _ _ _ h => h) (Or.inl ⟨by rfl, ?_⟩) (by assumption) ?_
  rotate_left
  · intro W hSw
    go_simp
    first | done | (with_reducible rfl)
  try simp only [Act.put, sQa, sQb, sQc, gQa, gQb, gQc]
  refine' wpAnyH_take (i := 17) (oi := _) (v := ?_) rfl (by kernel_rfl) (by kernel_rfl) (by kernel_rfl) (fun _ _ _ h => h) (Or.inl ⟨by rfl, ?_⟩) (by assumption) ?_
  rotate_left
  · intro W hSw
    go_simp
    first | done | (with_reducible rfl)
  try simp only [Act.put, sQa, sQb, sQc, gQa, gQb, gQc]
  refine' wpAnyH_take (i := 18) (oi := _) (v := ?_) rfl (by kernel_rfl) (by kernel_rfl) (by kernel_rfl) (fun _ _ _ h => h) (Or.inl ⟨by rfl, ?_⟩) (by assumption) ?_
  rotate_left
  · intro W hSw
    go_simp
    first | done | (with_reducible rfl)
  try simp only [Act.put, sQa, sQb, sQc, gQa, gQb, gQc]
  refine' wpAnyH_take (i := 19) (oi := _) (v := ?_) rfl (by kernel_rfl) (by kernel_rfl) (by kernel_rfl) (fun _ _ _ h => h) (Or.inl ⟨by rfl, ?_⟩) (by assumption) ?_
  rotate_left
  · intro W hSw
    go_simp
    first | done | (with_reducible rfl)
  try simp only [Act.put, sQa, sQb, sQc, gQa, gQb, gQc]
  refine' wpAnyH_take (i := 20) (oi := _) (v := ?_) rfl (by kernel_rfl) (by kernel_rfl) (by kernel_rfl) (fun _ _ _ h => h) (Or.inl ⟨by rfl, ?_⟩) (by assumption) ?_
  rotate_left
  · intro W hSw
    go_simp
    first | done | (with_reducible rfl)
  try simp only [Act.put, sQa, sQb, sQc, gQa, gQb, gQc]
  refine' wpAnyH_take (i := 21) (oi := _) (v := ?_) rfl (by kernel_rfl) (by kernel_rfl) (by kernel_rfl) (fun _ _ _ h => h) (Or.inl ⟨by rfl, ?_⟩) (by assumption) ?_
  rotate_left
  · intro W hSw
    go_simp
    first | done | (with_reducible rfl)
  try simp only [Act.put, sQa, sQb, sQc, gQa, gQb, gQc]
  refine' wpAnyH_take (i := 22) (oi := _) (v := ?_) rfl (by kernel_rfl) (by kernel_rfl) (by kernel_rfl) (fun _ _ _ h => h) (Or.inl ⟨by rfl, ?_⟩) (by assumption) ?_
  rotate_left
  · intro W hSw
    go_simp
    first | done | (with_reducible rfl)
  try simp only [Act.put, sQa, sQb, sQc, gQa, gQb, gQc]
  refine' wpAnyH_take (i := 23) (oi := _) (v := ?_) rfl (by kernel_rfl) (by kernel_rfl) (by kernel_rfl) (fun _ _ _ h => h) (Or.inl ⟨by rfl, ?_⟩) (by assumption) ?_
  rotate_left
  · intro W hSw
    go_simp
    first | done | (with_reducible rfl)
  try simp only [Act.put, sQa, sQb, sQc, gQa, gQb, gQc]
  refine' wpAnyH_take (i := 24) (oi := _) (v := ?_) rfl (by kernel_rfl) (by kernel_rfl) (by kernel_rfl) (fun _ _ _ h => h) (Or.inl ⟨by rfl, ?_⟩) (by assumption) ?_
  rotate_left
  · intro W hSw
    go_simp
    first | done | (with_reducible rfl)
  try simp only [Act.put, sQa, sQb, sQc, gQa, gQb, gQc]
  refine' wpAnyH_take (i := 25) (oi := _) (v := ?_) rfl (by kernel_rfl) (by kernel_rfl) (by kernel_rfl) (fun _ _ _ h => h) (Or.inl ⟨by rfl, ?_⟩) (by assumption) ?_
  rotate_left
  · intro W hSw
    go_simp
    first | done | (with_reducible rfl)
  try simp only [Act.put, sQa, sQb, sQc, gQa, gQb, gQc]
  refine' wpAnyH_take (i := 26) (oi := _) (v := ?_) rfl (by kernel_rfl) (by kernel_rfl) (by kernel_rfl) (fun _ _ _ h => h) (Or.inl ⟨by rfl, ?_⟩) (by assumption) ?_
  rotate_left
  · intro W hSw
    go_simp
    first | done | (with_reducible rfl)
  try simp only [Act.put, sQa, sQb, sQc, gQa, gQb, gQc]
  refine' wpAnyH_take (i := 27) (oi := _) (v := _) rfl (by kernel_rfl) (by kernel_rfl) (by kernel_rfl) (fun _ _ _ h => h) (yieldsIf_load_mid (by rfl) _ _ rfl _ _ rfl _ _ (fun _ h => rangeBel2 h N25.out) hu rfl hiN.out) (by assumption) ?_
  try simp only [Act.put, sQa, sQb, sQc, gQa, gQb, gQc]
  refine wpAnyH_ready (rs := [28]) (by kernel_rfl) (by simp) ?_
  refine AllReadyH.cons (o := _) rfl (fun K hK => ?_) AllReadyH.nil
  go_simp
  refine (hNo.out _ (H25.out.bel hHeld l25b.out)).mono ?_
  rintro e30 w30 ⟨rfl, hB⟩
  go_wp2_with fail
  refine hK.out _ _ ?_ (fun hHeld => ?_)
  · exact hHeld.trans (hB.mono hHeld.size)
  clear hK K
  try simp only [Act.put, sQa, sQb, sQc, gQa, gQb, gQc]
  refine' wpAnyH_take (i := 29) (oi := _) (v := ?_) rfl (by kernel_rfl) (by kernel_rfl) (by kernel_rfl) (fun _ _ _ h => h) (Or.inl ⟨by rfl, ?_⟩) (by assumption) ?_
  rotate_left
  · intro W hSw
    go_simp
    first | done | (with_reducible rfl)
  try simp only [Act.put, sQa, sQb, sQc, gQa, gQb, gQc]
  refine' wpAnyH_take (i := 30) (oi := _) (v := ?_) rfl (by kernel_rfl) (by kernel_rfl) (by kernel_rfl) (fun _ _ _ h => h) (Or.inl ⟨by rfl, ?_⟩) (by assumption) ?_
  rotate_left
  · intro W hSw
    go_simp
    first | done | (with_reducible rfl)
  try simp only [Act.put, sQa, sQb, sQc, gQa, gQb, gQc]
  refine' wpAnyH_take (i := 31) (oi := _) (v := ?_) rfl (by kernel_rfl) (by kernel_rfl) (by kernel_rfl) (fun _ _ _ h => h) (Or.inl ⟨by rfl, ?_⟩) (by assumption) ?_
  rotate_left
  · intro W hSw
    go_simp
    first | done | (with_reducible rfl)
  try simp only [Act.put, sQa, sQb, sQc, gQa, gQb, gQc]
  refine' wpAnyH_take (i := 32) (oi := _) (v := ?_) rfl (by kernel_rfl) (by kernel_rfl) (by kernel_rfl) (fun _ _ _ h => h) (Or.inl ⟨by rfl, ?_⟩) (by assumption) ?_
  rotate_left
  · intro W hSw
    go_simp
    first | done | (with_reducible rfl)
  try simp only [Act.put, sQa, sQb, sQc, gQa, gQb, gQc]
  refine' wpAnyH_take (i := 33) (oi := _) (v := ?_) rfl (by kernel_rfl) (by kernel_rfl) (by kernel_rfl) (fun _ _ _ h => h) (Or.inl ⟨by rfl, ?_⟩) (by assumption) ?_
  rotate_left
  · intro W hSw
    go_simp
    first | done | (with_reducible rfl)
  try simp only [Act.put, sQa, sQb, sQc, gQa, gQb, gQc]
  refine' wpAnyH_take (i := 34) (oi := _) (v := ?_) rfl (by kernel_rfl) (by kernel_rfl) (by kernel_rfl) (fun _ _ _ h => h) (Or.inl ⟨by rfl, ?_⟩) (by assumption) ?_
  rotate_left
  · intro W hSw
    go_simp
    first | done | (with_reducible rfl)
  try simp only [Act.put, sQa, sQb, sQc, gQa, gQb, gQc]
  refine' wpAnyH_take (i := 35) (oi := _) (v := ?_) rfl (by kernel_rfl) (by kernel_rfl) (by kernel_rfl) (fun _ _ _ h => h) (Or.inl ⟨by rfl, ?_⟩) (by assumption) ?_
  rotate_left
  · intro W hSw
    go_simp
    first | done | (with_reducible rfl)
  try simp only [Act.put, sQa, sQb, sQc, gQa, gQb, gQc]
  refine' wpAnyH_take (i := 36) (oi := _) (v := _) rfl (by kernel_rfl) (by kernel_rfl) (by kernel_rfl) (fun _ _ _ h => h) (yieldsIf_load_mid (by rfl) _ _ rfl _ _ rfl _ _ (fun _ h => rangeBel2 h x25.out) hu rfl hiX.out) (by assumption) ?_
  try simp only [Act.put, sQa, sQb, sQc, gQa, gQb, gQc]
  refine' wpAnyH_take (i := 37) (oi := _) (v := _) rfl (by kernel_rfl) (by kernel_rfl) (by kernel_rfl) (fun _ _ _ h => h) (yieldsIf_load_mid (by rfl) _ _ rfl _ _ rfl _ _ (fun _ h => rangeBel2 h L25.out) hu rfl hiX.out) (by assumption) ?_
  try simp only [Act.put, sQa, sQb, sQc, gQa, gQb, gQc]
  refine' wpAnyH_take (i := 38) (oi := _) (v := ?_) rfl (by kernel_rfl) (by kernel_rfl) (by kernel_rfl) (fun _ _ _ h => h) (Or.inl ⟨by rfl, ?_⟩) (by assumption) ?_
  rotate_left
  · intro W hSw
    go_simp
    first | done | (with_reducible rfl)
  try simp only [Act.put, sQa, sQb, sQc, gQa, gQb, gQc]
  refine' wpAnyH_take (i := 39) (oi := _) (v := ?_) rfl (by kernel_rfl) (by kernel_rfl) (by kernel_rfl) (fun _ _ _ h => h) (Or.inl ⟨by rfl, ?_⟩) (by assumption) ?_
  rotate_left
  · intro W hSw
    go_simp
    first | done | (with_reducible rfl)
  try simp only [Act.put, sQa, sQb, sQc, gQa, gQb, gQc]
  refine' wpAnyH_take (i := 40) (oi := _) (v := ?_) rfl (by kernel_rfl) (by kernel_rfl) (by kernel_rfl) (fun _ _ _ h => h) (Or.inl ⟨by rfl, ?_⟩) (by assumption) ?_
  rotate_left
  · intro W hSw
    go_simp
    first | done | (with_reducible rfl)
  try simp only [Act.put, sQa, sQb, sQc, gQa, gQb, gQc]
  refine' wpAnyH_take (i := 41) (oi := _) (v := ?_) rfl (by kernel_rfl) (by kernel_rfl) (by kernel_rfl) (fun _ _ _ h => h) (Or.inl ⟨by rfl, ?_⟩) (by assumption) ?_
  rotate_left
  · intro W hSw
    go_simp
    first | done | (with_reducible rfl)
  try simp only [Act.put, sQa, sQb, sQc, gQa, gQb, gQc]
  refine' wpAnyH_take (i := 42) (oi := _) (v := ?_) rfl (by kernel_rfl) (by kernel_rfl) (by kernel_rfl) (fun _ _ _ h => h) (Or.inl ⟨by rfl, ?_⟩) (by assumption) ?_
  rotate_left
  · intro W hSw
    go_simp
    first | done | (with_reducible rfl)
  try simp only [Act.put, sQa, sQb, sQc, gQa, gQb, gQc]
  refine' wpAnyH_take (i := 43) (oi := _) (v := ?_) rfl (by kernel_rfl) (by kernel_rfl) (by kernel_rfl) (fun _ _ _ h => h) (Or.inl ⟨by rfl, ?_⟩) (by assumption) ?_
  rotate_left
  · intro W hSw
    go_simp
    first | done | (with_reducible rfl)
  try simp only [Act.put, sQa, sQb, sQc, gQa, gQb, gQc]
  refine' wpAnyH_take (i := 44) (oi := _) (v := ?_) rfl (by kernel_rfl) (by kernel_rfl) (by kernel_rfl) (fun _ _ _ h => h) (Or.inl ⟨by rfl, ?_⟩) (by assumption) ?_
  rotate_left
  · intro W hSw
    go_simp
    first | done | (with_reducible rfl)
  try simp only [Act.put, sQa, sQb, sQc, gQa, gQb, gQc]
  refine' wpAnyH_take (i := 45) (oi := _) (v := _) rfl (by kernel_rfl) (by kernel_rfl) (by kernel_rfl) (fun _ _ _ h => h) (yieldsIf_load_mid (by rfl) _ _ rfl _ _ rfl _ _ (fun _ h => rangeBel2 h y25.out) hu rfl hiY.out) (by assumption) ?_
  try simp only [Act.put, sQa, sQb, sQc, gQa, gQb, gQc]
  refine' wpAnyH_take (i := 46) (oi := _) (v := ?_) rfl (by kernel_rfl) (by kernel_rfl) (by kernel_rfl) (fun _ _ _ h => h) (Or.inl ⟨by rfl, ?_⟩) (by assumption) ?_
  rotate_left
  · intro W hSw
    go_simp
    first | done | (with_reducible rfl)
  try simp only [Act.put, sQa, sQb, sQc, gQa, gQb, gQc]
  refine' wpAnyH_take (i := 47) (oi := _) (v := ?_) rfl (by kernel_rfl) (by kernel_rfl) (by kernel_rfl) (fun _ _ _ h => h) (Or.inl ⟨by rfl, ?_⟩) (by assumption) ?_
  rotate_left
  · intro W hSw
    go_simp
    first | done | (with_reducible rfl)
  try simp only [Act.put, sQa, sQb, sQc, gQa, gQb, gQc]
  refine wpAnyH_ready (rs := [48]) (by kernel_rfl) (by simp) ?_
  refine AllReadyH.cons (o := _) rfl (fun K hK => ?_) AllReadyH.nil
  refine step_twoW (by rfl) (.tmp 128) (.tmp 129) rfl (.slice (some ⟨g, 0, none⟩) 32 32) (.slice (some ⟨h, 0, none⟩) 32 32) rfl rfl rfl rfl ?_
  have hr3 := rds_two w30 (some ⟨g, 0, none⟩) (some ⟨h, 0, none⟩) 32 32 (pL 3 97).1 (pL 200 98).1 24 (rd_keyP (rangeBel2 hHeld L25.out)) (rd_keyP (rangeBel2 hHeld M25.out)) ⟨by rw [(pL 3 97).2]; omega, by unfold maxLen; omega⟩ ⟨by rw [(pL 200 98).2]; omega, by unfold maxLen; omega⟩
  rw [(pL 3 97).2, (pL 200 98).2] at hr3
  have hB := ext_alloc w30 (.cells #[Value.slice (some ⟨g, 0, none⟩) 32 32, .slice (some ⟨h, 0, none⟩) 32 32] 24)
  refine hK.out _ _ ?_ (fun hHeld => ?_)
  · exact hHeld.trans (hB.mono hHeld.size)
  clear hK K
  try simp only [Act.put, sQa, sQb, sQc, gQa, gQb, gQc]
  refine wpAnyH_ready (rs := [49]) (by kernel_rfl) (by simp) ?_
  refine AllReadyH.cons (o := _) rfl (fun K hK => ?_) AllReadyH.nil
  go_simp
  refine (hOt.out _ _ hr3 (H25.out.bel hHeld l25b.out)).mono ?_
  rintro e31 w31 ⟨rfl, hB⟩
  go_wp2_with fail
  refine hK.out _ _ ?_ (fun hHeld => ?_)
  · exact hHeld.trans (hB.mono hHeld.size)
  clear hK K
  try simp only [Act.put, sQa, sQb, sQc, gQa, gQb, gQc]
  refine' wpAnyH_take (i := 50) (oi := _) (v := ?_) rfl (by kernel_rfl) (by kernel_rfl) (by kernel_rfl) (fun _ _ _ h => h) (Or.inl ⟨by rfl, ?_⟩) (by assumption) ?_
  rotate_left
  · intro W hSw
    go_simp
    first | done | (with_reducible rfl)
  try simp only [Act.put, sQa, sQb, sQc, gQa, gQb, gQc]
  refine' wpAnyH_take (i := 51) (oi := _) (v := ?_) rfl (by kernel_rfl) (by kernel_rfl) (by kernel_rfl) (fun _ _ _ h => h) (Or.inl ⟨by rfl, ?_⟩) (by assumption) ?_
  rotate_left
  · intro W hSw
    go_simp
    first | done | (with_reducible rfl)
  try simp only [Act.put, sQa, sQb, sQc, gQa, gQb, gQc]
  refine' wpAnyH_take (i := 52) (oi := _) (v := ?_) rfl (by kernel_rfl) (by kernel_rfl) (by kernel_rfl) (fun _ _ _ h => h) (Or.inl ⟨by rfl, ?_⟩) (by assumption) ?_
  rotate_left
  · intro W hSw
    go_simp
    first | done | (with_reducible rfl)
  try simp only [Act.put, sQa, sQb, sQc, gQa, gQb, gQc]
  refine' wpAnyH_take (i := 53) (oi := _) (v := ?_) rfl (by kernel_rfl) (by kernel_rfl) (by kernel_rfl) (fun _ _ _ h => h) (Or.inl ⟨by rfl, ?_⟩) (by assumption) ?_
  rotate_left
  · intro W hSw
    go_simp
    first | done | (with_reducible rfl)
  try simp only [Act.put, sQa, sQb, sQc, gQa, gQb, gQc]
  refine' wpAnyH_take (i := 54) (oi := _) (v := ?_) rfl (by kernel_rfl) (by kernel_rfl) (by kernel_rfl) (fun _ _ _ h => h) (Or.inl ⟨by rfl, ?_⟩) (by assumption) ?_
  rotate_left
  · intro W hSw
    go_simp
    first | done | (with_reducible rfl)
  try simp only [Act.put, sQa, sQb, sQc, gQa, gQb, gQc]
  refine' wpAnyH_take (i := 55) (oi := _) (v := ?_) rfl (by kernel_rfl) (by kernel_rfl) (by kernel_rfl) (fun _ _ _ h => h) (Or.inl ⟨by rfl, ?_⟩) (by assumption) ?_
  rotate_left
  · intro W hSw
    go_simp
    first | done | (with_reducible rfl)
  try simp only [Act.put, sQa, sQb, sQc, gQa, gQb, gQc]
  refine wpAnyH_done (by kernel_rfl) ?_ _
  refine NoPanic.normal ?_
  go_wp2
  go_ret
  exact ⟨rfl, W25.out.trans (hHeld.mono W25.out.size)⟩

/-! ### WHAT THE WALK GIVES, FOR EVERY ARGUMENT AND EVERY WORLD THAT HOLDS THE TABLE -/
set_option maxRecDepth 100000 in
theorem contract (H : Type) (enc : TypeId × Value → H) (W : World) (base : Nat) (args : Array Value) (ds gs : List (DataW H)) (before : List MemPlace)
    (hval0 : ∀ (j : Nat) t v, Tryd.f3.params[j]? = some t → args[j]? = some v → Value.okWide Tryd.prog W .any base t v)
    (hW : DataW.Whole enc Tryd.prog Tryd.f3.params.toList Rows.pairsNamesSpec.vars false W args.toList ds gs before) (hL : laidMetH Tryd.prog Rows.pairsNamesRow.laid W) :
    Calls Tryd.prog 3 args W fun e W' => ∃ v, e = .returned v ∧ Rows.pairsNamesSpec.post enc Tryd.prog Tryd.f3 false true false false W args v W' := by
  have hval : ∀ (j : Nat) t v, Tryd.f3.params[j]? = some t → args[j]? = some v → Value.okWide Tryd.prog W .any base t v := hval0
  have hW' := hW
  obtain ⟨p, q, hA0, hV, rfl, hfz, hnd⟩ := hW
  have hA : DataW.TrodAll enc Tryd.prog W 0 (fun _ => true) true Tryd.f3.params.toList args.toList ds p := hA0
  rw [Tryd.params3] at hA hval
  obtain ⟨rfl, rfl, rfl⟩ := trodAll_none hA
  obtain ⟨rfl, rfl⟩ := trodVars_none hV
  clear hA0 hval0
  refine (walk  W (tab_of hL)).mono fun e W' ⟨he, bel⟩ => ?_
  subst he
  exact ⟨_, rfl, _, _, _, [], _, [], hW', trodAll_mk1 (shut_bool Tryd.underlying4 _), trodAll_mk0, rfl, bel.frame _, fun h => by cases h⟩

theorem laid_met (os : Os) : laidMet Tryd.prog Rows.pairsNamesRow.laid ((laidWorld os).forCall (fun _ _ => 0) ⟨#[], #[], []⟩).memory :=
  laidMet_of_run' 8 (by kernel_rfl) (by kernel_rfl)
theorem reads (os : Os) {H : Type} (enc : TypeId × Value → H) : ∃ places, DataW.whole enc Tryd.prog ((laidWorld os).forCall (fun _ _ => 0) ⟨#[], #[], []⟩).memory Tryd.f3.params.toList Rows.pairsNamesSpec.vars false (#[] : Array Value).toList 8 = some ([], [], places) :=
  ⟨[], by kernel_rfl⟩
set_option maxRecDepth 100000 in
theorem lifted (os : Os) (started : os.Started) (H : Type) (enc : TypeId × Value → H) (F : Stop.Interp) :
    ReturnsInHanded {} Tryd.checked os 3 .any ((OpenSpec.ofChange Rows.pairsNamesSpec).preRow enc Tryd.prog Tryd.f3 Rows.pairsNamesRow.domain false Rows.pairsNamesRow.laid) (((OpenSpec.ofChange Rows.pairsNamesSpec).at F).post enc Tryd.prog Tryd.f3 false true false false) := by
  obtain ⟨places, hx⟩ := reads os enc
  refine returnsInHanded_of_row (C := Tryd.checked) (s := OpenSpec.ofChange Rows.pairsNamesSpec) own started (by kernel_rfl) Tryd.func3
    (witness_row_at (enc := enc) (C := Tryd.checked) false (laidWorld os) #[] rfl (by kernel_rfl) (by kernel_rfl) (by kernel_rfl)
      (OpenSpec.preRow_of_cond 8 hx (by kernel_rfl) (fun k hk => by cases hk) (by kernel_rfl) (laid_met os))) ?_
  intro W base args ds gs before hval hW _ _ _ hL _ _
  exact contract H enc W base args ds gs before hval hW hL
theorem said : Rows.PairsNamesSaid :=
  OpenClaim.holds_of_cond 3 Tryd.f3 rfl rfl rfl rfl rfl rfl rfl ⟨rfl, rfl, rfl, rfl, rfl⟩ rfl rfl rfl rfl rfl (by kernel_rfl) Tryd.func3 (by kernel_rfl)
    (of_decide_eq_true (by kernel_rfl)) (by unfold Func.isWrapper; first | (rw [if_pos (by decide +kernel)]; kernel_rfl) | (rw [if_neg (by decide +kernel)]; exact ⟨rfl, rfl⟩))
    (fun os started H enc _ F => by rw [OpenClaim.pre_eq_preRow]; exact lifted os started H enc F)
set_option maxRecDepth 100000 in
/-- No parameter wants a stand-in; the program's own looks are off: what the card asks. -/
theorem plain (f : FuncId) (fn : Func) (hf : Tryd.pinned.checked.prog.funcNamed "beadroll/beadrolllaw05.PairsNames" = some f) (hfn : Tryd.pinned.checked.prog.funcs[f]? = some fn) :
    false = Tryd.pinned.checked.prog.looks [] ∧ ∀ (j : Nat) t, fn.params[j]? = some t → Tryd.pinned.checked.prog.wantsStandIn t = false := by
  obtain rfl : f = 3 := Option.some.inj ((show Tryd.prog.funcNamed "beadroll/beadrolllaw05.PairsNames" = some 3 by kernel_rfl).symm.trans hf) |>.symm
  obtain rfl : fn = Tryd.f3 := (Option.some.inj (Tryd.func3.symm.trans hfn)).symm
  refine ⟨by kernel_rfl, fun j t ht => ?_⟩
  rw [Tryd.params3] at ht
  simp at ht
set_option maxRecDepth 100000 in
/-- ████ THE CARD ████ -/
theorem proved : Rows.PairsNamesCardSaid :=
  Claim7.holds_tied_plain_at .later [] _ _ _ _ said (fun _ h => by cases h) (by kernel_rfl) (fun _ h => by cases h) pairsNames_row_tie rfl ⟨rfl, rfl⟩ (by kernel_rfl) rfl plain (by kernel_rfl)
#print axioms proved
end Go.Proofs.YtfjkcdccnbggnaaDoor.pairsNames
