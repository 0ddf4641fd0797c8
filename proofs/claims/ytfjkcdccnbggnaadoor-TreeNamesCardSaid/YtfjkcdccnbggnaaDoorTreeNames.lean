/-
  The Go function TreeNames returns true: the limits' and errors' numbers, and the chapter's examples.
  Conditions: none. The frame around the walk was written by program (proof-skeleton.mjs).
-/
import Derived.Test.YtfjkcdccnbggnaaDoorRows
import Derived.Test.YtfjkcdccnbggnaaDoorDoor
import Derived.WalkKit
import Derived.ProofKit
import Derived.OpenShut
import Derived.ShutString
import Derived.ChangeOld
import Derived.Below
import Derived.Test.YtfjkcdccnbggnaaDoorTreeNm
import Derived.Test.YtfjkcdccnbggnaaDoorTreeB
namespace Go.Proofs.YtfjkcdccnbggnaaDoor.treeNames
open Go.ChangeShapes Go.WideShapes Go.ChangeAt Go.RowKit
open Go.ChangeMaps (open_string shut_string)
set_option linter.unusedVariables false      -- a walk need not use every 'w<i>' (that an integer argument fits its kind)

theorem own : ownKnob Tryd.prog.godebug = none := by kernel_rfl

/-! ### the walk -/
open Go.Proofs.YtfjkcdccnbggnaaDoor
set_option linter.unusedSimpArgs false
set_option maxRecDepth 100000 in
set_option maxHeartbeats 8000000 in
theorem walk  (w : World) (hT : Tab w) :
    Calls Tryd.prog 4 #[] w fun e w' => e = .returned (.bool true) ∧ Below w.heap.size w w' := by
  have hut := Tryd.underlying44
  have hun := Tryd.underlying50
  have hlow := hid hT.low
  have hb0 := hid built_tr0
  have hn0 := hid built_nd0
  have hnb := hid built_badA
  have hd3 := hid (built_dg1 3)
  have hbl := hid (fun A c => show Tryd.prog.built 50 [(0, .bool true), (1, .agg ((dfst 3).1.map bv).toArray), (2, .slice A 1 c)] = some (ndC leafA A c).toArray from built_leaf (dfst 3) [97] A c)
  have hbt := fun A n c r => hid (built_trP A n c r)
  have hP := hid (fun (W : World) (A : Option Addr) (hrd : Rd W A [97]) => (show Calls Tryd.prog 20 #[.agg zTrC, .agg ((dfst 3).1.map bv).toArray, .slice A 1 1] W _ from PTPut_any (fun _ => False) none A 0 1 [] 0 (dfst 3) [97] W (Row.nil _ _ _) (by decide) hrd (by decide) (by decide)))
  rw [show tputT ⟨[], 0⟩ (dfst 3) [97] = oneT from rfl, one_E] at hP
  have h1000 : oneT.ns.length ≤ 1000000 := Nat.le_trans one_nodes (by decide)
  have hD1 := fun F A c W hW => PTDrop_any F A c oneT.ns oneT.root (dfst 3) W hW h1000
  rw [show (⟨oneT.ns, oneT.root⟩ : Tr) = oneT from rfl, dropA_E, show tdropT oneT (dfst 3) = dropA from rfl] at hD1
  have h1001 : dropA.ns.length ≤ 1000000 := Nat.le_trans dropA_len (by decide)
  have hQ := fun F A c W hW => PTPairs_any F A c dropA.ns dropA.root W hW h1001
  rw [show (⟨dropA.ns, dropA.root⟩ : Tr) = dropA from rfl, dropA_pairs, dropA_may, if_pos rfl] at hQ
  have hD2 := fun F A c W hW => PTDrop_any F A c dropA.ns dropA.root (dfst 3) W hW h1001
  rw [show (⟨dropA.ns, dropA.root⟩ : Tr) = dropA from rfl, dropA_none, dropA_noneT] at hD2
  have hA := fun F A c W hW => PTAt_any F A c oneT.ns oneT.root 2 W hW h1000
  rw [show (⟨oneT.ns, oneT.root⟩ : Tr) = oneT from rfl, one_at2, one_at2T] at hA
  have hC1 := fun F A c W hW => PTCheck_any F A c [nd0] 1 W hW (by decide)
  rw [may_bad1] at hC1
  have hC2 := fun F A c W hW => PTCheck_any F A c [leafA, badA] 2 W hW (by decide)
  rw [may_bad2] at hC2
  have hC3 := fun F A c W hW => PTCheck_any F A c [leafA] 1 W hW (by decide)
  rw [may_leaf, if_pos rfl] at hC3
  simp only [List.length_cons, List.length_nil, Nat.zero_add, Nat.reduceAdd, if_neg, Bool.false_eq_true, if_false] at hQ hD2 hA hC1 hC2 hC3
  have hAl := hid (fun W hTW => alive6_any W hTW)
  have hrl := hid (fun (W : World) (A : Option Addr) (h : Rd W A [97]) => rep_nd_mk (F := fun _ => True) (w := W) leafA A 1 (by decide) (by decide) (h.row fun _ _ _ => trivial) ⟨by decide, by decide⟩ ⟨by decide, by decide⟩)
  have hr0 := hid (fun (W : World) => rep_nd_mk (F := fun _ => True) (w := W) nd0 none 0 (by decide) (by decide) (Row.nil _ _ _) ⟨by decide, by decide⟩ ⟨by decide, by decide⟩)
  have hrb := hid (fun (W : World) => rep_nd_mk (F := fun _ => True) (w := W) badA none 0 (by decide) (by decide) (Row.nil _ _ _) ⟨by decide, by decide⟩ ⟨by decide, by decide⟩)
  have hll := fun A => hid (len_nd leafA A 1)
  have hl0 := hid (len_nd nd0 none 0)
  have hlb := hid (len_nd badA none 0)
  have hol := fun A => hid (one_nd leafA A 1)
  have hsl := fun A => hid (show (Tryd.prog.info? 50).map (·.size) = some (ndC leafA A 1).length by rw [len_nd]; exact sizeNd)
  have hsa := fun A => hid (show (Tryd.prog.info? 50).map (·.size) = some (ndC leafA A 1).toArray.size by rw [List.size_toArray, len_nd]; exact sizeNd)
  have hsz := fun A => hid (show zNdC.size = (ndC leafA A 1).toArray.size by rw [zSizeNd, List.size_toArray, len_nd])
  generalize oneT.ns = ns at *
  generalize oneT.root = root at *
  generalize dropA.ns = ms at *
  generalize dropA.root = rot at *
  generalize hd3e : (dfst 3).1.map bv = d3 at *
  replace hd3e := hid hd3e
  replace hD1 := hid hD1
  replace hQ := hid hQ
  replace hD2 := hid hD2
  replace hA := hid hA
  replace hC1 := hid hC1
  replace hC2 := hid hC2
  replace hC3 := hid hC3
  have kc := fun C n c => conv_lit w C n c
  have H0 := hid hT
  clear hT
  go_enter Tryd.func4, Tryd.ntmps4
  go_wp2_with (first
    | ((with_reducible refine wpList_built rfl 44 _ rfl zTrC [] ?_ ?_ ?_); exact hb0.out; rfl)
    | ((with_reducible refine wpList_built rfl 23 _ rfl d3.toArray [(0, .int .u8 3)] ?_ ?_ ?_); exact hd3.out; rfl))
  have hrd0 := Rd.litf w 5 [97] #[.int .u8 97] w.heap.size (1, 2) rfl rfl
  clear kc
  refine (hP.out _ (some ⟨w.heap.size, 0, none⟩) hrd0).mono ?_
  rintro e w1 ⟨ad1, c1, rfl, ho, hb⟩
  have W1 := hid ((ext_alloc w _).trans (hb.mono (ext_alloc w _).size))
  have H1 := hid ((H0.out.bel (ext_alloc w _) hlow.out).bel hb (Nat.lt_of_lt_of_le hlow.out (ext_alloc w _).size))
  have o1 := hid (OwnR.row ho)
  clear hb ho hP hrd0 H0
  have e1 := hid (heap_alloc_new w1 (.cells zTrC 44))
  have hiT := hid (show (Tryd.prog.info? 44).map (·.size) = some ([Value.slice ad1 ns.length c1, .int .i64 root]).length from sizeTr)
  go_wp2_with (first
    | (with_reducible refine wpList_alloc_row rfl 44 rfl zTrC zInfoTr ?_)
    | ((with_reducible refine wpList_store_row rfl 44 (.tmp 1) (.tmp 19) rfl _ _ rfl rfl 44 zTrC ?_ ?_ ?_ ?_ ?_); exact e1.out; exact sizeTr; rfl; exact one_trP ad1 ns.length c1 root; intro w2 hgS hbS hsS; have X2 := hid (xnewP rfl hbS); have lt2 := hid (block_lt hgS); have T2 := hid (BoxT.of (rangeOf (l := [Value.slice ad1 ns.length c1, .int .i64 root]) hgS)); clear hgS hbS hsS; have H2 := hid (H1.out.bel X2.out (Nat.lt_of_lt_of_le hlow.out W1.out.size)); have W2 := hid (W1.out.trans (X2.out.mono W1.out.size)); have o2 := hid (o1.out.bel X2.out); clear H1 W1 o1)
    | ((with_reducible refine wpList_load_rng rfl 44 (.tmp 1) rfl w1.heap.size 0 rfl [Value.slice ad1 ns.length c1, .int .i64 root] _ ?_ hut rfl hiT.out ?_); exact T2.out.all)
    | ((with_reducible refine wpList_built rfl 23 _ rfl d3.toArray [(0, .int .u8 3)] ?_ ?_ ?_); exact hd3.out; rfl))
  refine (hD1.out _ ad1 c1 _ o2.out).mono ?_
  rintro e w3 ⟨ad3, c3, rfl, ho, hb⟩
  have H3 := hid (H2.out.bel hb (Nat.lt_of_lt_of_le hlow.out W2.out.size))
  have W3 := hid (W2.out.trans (hb.mono W2.out.size))
  have o3 := hid (o2.out.bel hb)
  have T3 := hid (T2.out.bel hb)
  clear H2 W2 o2 T2
  have x3 := hid (OwnR.row ho)
  clear hb ho hD1
  have e3 := hid (heap_alloc_new w3 (.cells zTrC 44))
  have hiE := hid (show (Tryd.prog.info? 44).map (·.size) = some ([Value.slice ad3 ms.length c3, .int .i64 rot]).length from sizeTr)
  go_wp2_with (first
    | (with_reducible refine wpList_alloc_row rfl 44 rfl zTrC zInfoTr ?_)
    | ((with_reducible refine wpList_store_row rfl 44 (.tmp 3) (.tmp 25) rfl _ _ rfl rfl 44 zTrC ?_ ?_ ?_ ?_ ?_); exact e3.out; exact sizeTr; rfl; exact one_trP ad3 ms.length c3 rot; intro w4 hgS hbS hsS; have Z4 := hid (xnewP rfl hbS); have lt4 := hid (block_lt hgS); have E4 := hid (BoxT.of (rangeOf (l := [Value.slice ad3 ms.length c3, .int .i64 rot]) hgS)); clear hgS hbS hsS; have H4 := hid (H3.out.bel Z4.out (Nat.lt_of_lt_of_le hlow.out W3.out.size)); have W4 := hid (W3.out.trans (Z4.out.mono W3.out.size)); have o4 := hid (o3.out.bel Z4.out); have T4 := hid (T3.out.bel Z4.out); have x4 := hid (x3.out.bel Z4.out); clear H3 W3 o3 T3 x3)
    | ((with_reducible refine wpList_load_rng rfl 44 (.tmp 3) rfl w3.heap.size 0 rfl [Value.slice ad3 ms.length c3, .int .i64 rot] _ ?_ hut rfl hiE.out ?_); exact E4.out.all))
  refine (hQ.out _ ad3 c3 _ x4.out).mono ?_
  rintro e w5 ⟨ad5, c5, rfl, ho, hb⟩
  have H5 := hid (H4.out.bel hb (Nat.lt_of_lt_of_le hlow.out W4.out.size))
  have W5 := hid (W4.out.trans (hb.mono W4.out.size))
  have o5 := hid (o4.out.bel hb)
  have T5 := hid (T4.out.bel hb)
  have x5 := hid (x4.out.bel hb)
  have E5 := hid (E4.out.bel hb)
  clear H4 W4 o4 T4 x4 E4
  clear hb ho hQ
  go_wp2_with (first
    | ((with_reducible refine wpList_load_rng rfl 44 (.tmp 3) rfl w3.heap.size 0 rfl [Value.slice ad3 ms.length c3, .int .i64 rot] _ ?_ hut rfl hiE.out ?_); exact E5.out.all)
    | ((with_reducible refine wpList_built rfl 23 _ rfl d3.toArray [(0, .int .u8 3)] ?_ ?_ ?_); exact hd3.out; rfl))
  refine (hD2.out _ ad3 c3 _ x5.out).mono ?_
  rintro e w6 ⟨ad6, c6, rfl, ho, hb⟩
  have H6 := hid (H5.out.bel hb (Nat.lt_of_lt_of_le hlow.out W5.out.size))
  have W6 := hid (W5.out.trans (hb.mono W5.out.size))
  have o6 := hid (o5.out.bel hb)
  have T6 := hid (T5.out.bel hb)
  have x6 := hid (x5.out.bel hb)
  have E6 := hid (E5.out.bel hb)
  clear H5 W5 o5 T5 x5 E5
  clear hb ho hD2
  clear x6
  clear E6
  have e6 := hid (heap_alloc_new w6 (.cells zTrC 44))
  have hiG := hid (show (Tryd.prog.info? 44).map (·.size) = some ([Value.slice ad6 0 c6, .int .i64 0]).length from sizeTr)
  have e7 := hid (fun (W : World) => heap_alloc_new W (.cells zNdC 50))
  go_wp2_with (first
    | (with_reducible refine wpList_alloc_row rfl 44 rfl zTrC zInfoTr ?_)
    | ((with_reducible refine wpList_store_row rfl 44 (.tmp 7) (.tmp 36) rfl _ _ rfl rfl 44 zTrC ?_ ?_ ?_ ?_ ?_); exact e6.out; exact sizeTr; rfl; exact one_trP ad6 0 c6 0; intro w7 hgS hbS hsS; have X7 := hid (xnewP rfl hbS); have lt7 := hid (block_lt hgS); have G7 := hid (BoxT.of (rangeOf (l := [Value.slice ad6 0 c6, .int .i64 0]) hgS)); clear hgS hbS hsS; have H7 := hid (H6.out.bel X7.out (Nat.lt_of_lt_of_le hlow.out W6.out.size)); have W7 := hid (W6.out.trans (X7.out.mono W6.out.size)); have o7 := hid (o6.out.bel X7.out); have T7 := hid (T6.out.bel X7.out); have kc := fun C n c => conv_lit w7 C n c; clear H6 W6 o6 T6)
    | ((with_reducible refine wpList_built rfl 23 _ rfl d3.toArray [(0, .int .u8 3)] ?_ ?_ ?_); exact hd3.out; rfl)
    | ((with_reducible refine wpList_built rfl 50 _ rfl (ndC leafA (some ⟨w7.heap.size, 0, none⟩) 1).toArray [(0, .bool true), (1, .agg d3.toArray), (2, .slice (some ⟨w7.heap.size, 0, none⟩) 1 1)] ?_ ?_ ?_); exact hbl.out _ 1; rfl)
    | (with_reducible refine wpList_alloc_row rfl 50 rfl zNdC zInfoNd ?_)
    | ((with_reducible refine wpList_store_row rfl 50 (.tmp 9) (.tmp 41) rfl _ _ rfl rfl 50 zNdC ?_ ?_ ?_ ?_ ?_); exact e7.out _; exact (hsa (some ⟨w7.heap.size, 0, none⟩)).out; exact (hsz (some ⟨w7.heap.size, 0, none⟩)).out; exact (hol (some ⟨w7.heap.size, 0, none⟩)).out; intro w8 hgS hbS hsS; have Z8 := xnewP rfl hbS; have X8 := hid (ext_trans (ext_alloc w7 _) Z8); have L8 := hid ((Rd.litf w7 5 [97] #[.int .u8 97] w7.heap.size (1, 2) rfl rfl).bel Z8); have N8 := hid (show w8.rangeAt (w7.heap.size + 1) 0 (ndC leafA (some ⟨w7.heap.size, 0, none⟩) 1) from by have h := rangeOf (l := ndC leafA (some ⟨w7.heap.size, 0, none⟩) 1) hgS; rwa [World.size_alloc] at h); clear hgS hbS hsS Z8 kc; have H8 := hid (H7.out.bel X8.out (Nat.lt_of_lt_of_le hlow.out W7.out.size)); have W8 := hid (W7.out.trans (X8.out.mono W7.out.size)); have o8 := hid (o7.out.bel X8.out); have T8 := hid (T7.out.bel X8.out); have G8 := hid (G7.out.bel X8.out); clear H7 W7 o7 T7 G7)
    | ((with_reducible refine wpList_built rfl 50 _ rfl zNdC [] ?_ ?_ ?_); exact hn0.out; rfl)
    | ((with_reducible refine wpList_buildOne slotNd (by decide) ?_ (.tmp 42) rfl (ndC nd0 none 0) ?_ ?_ ?_); rfl; rfl; exact hl0.out)
    | ((with_reducible refine wpList_built ?_ 44 _ rfl #[.slice (some ⟨w8.heap.size, 0, none⟩) 1 1, .int .i64 1] [(0, .slice (some ⟨w8.heap.size, 0, none⟩) 1 1), (1, .int .i64 1)] ?_ ?_ ?_); rfl; exact (hbt _ 1 1 1).out; rfl))
  refine (hC1.out _ (some ⟨w8.heap.size, 0, none⟩) 1 _ (row_heap1 (hr0.out _) (heap_alloc_new _ _))).mono ?_
  rintro e w9 ⟨rfl, hb⟩
  replace hb := ext_trans (ext_alloc w8 _) hb
  have H9 := hid (H8.out.bel hb (Nat.lt_of_lt_of_le hlow.out W8.out.size))
  have W9 := hid (W8.out.trans (hb.mono W8.out.size))
  have o9 := hid (o8.out.bel hb)
  have T9 := hid (T8.out.bel hb)
  have G9 := hid (G8.out.bel hb)
  have L9 := hid (L8.out.bel hb)
  have N9 := hid (rangeBel2 hb N8.out)
  clear H8 W8 o8 T8 G8 L8 N8
  clear hb
  go_wp2_with (first
    | ((with_reducible refine wpList_load_rng ?_ 50 (.tmp 9) rfl (w7.heap.size + 1) 0 rfl (ndC leafA (some ⟨w7.heap.size, 0, none⟩) 1) _ ?_ hun rfl (hsl (some ⟨w7.heap.size, 0, none⟩)).out ?_); rfl; exact N9.out)
    | ((with_reducible refine wpList_built ?_ 50 _ rfl (ndC badA none 0).toArray [(3, .int .i64 1)] ?_ ?_ ?_); rfl; exact hnb.out; rfl)
    | ((with_reducible refine wpList_buildTwo slotNd (by decide) ?_ (.tmp 48) (.tmp 49) rfl (ndC leafA (some ⟨w7.heap.size, 0, none⟩) 1) (ndC badA none 0) ?_ ?_ ?_ ?_ ?_); rfl; rfl; rfl; exact (hll _).out; exact hlb.out)
    | ((with_reducible refine wpList_built ?_ 44 _ rfl #[.slice (some ⟨w9.heap.size, 0, none⟩) 2 2, .int .i64 2] [(0, .slice (some ⟨w9.heap.size, 0, none⟩) 2 2), (1, .int .i64 2)] ?_ ?_ ?_); rfl; exact (hbt _ 2 2 2).out; rfl))
  refine (hC2.out _ (some ⟨w9.heap.size, 0, none⟩) 2 _ (row_heap2 (hll _).out (hrl.out _ _ (L9.out.alloc _)) (hrb.out _) (heap_alloc_new _ _))).mono ?_
  rintro e w10 ⟨rfl, hb⟩
  replace hb := ext_trans (ext_alloc w9 _) hb
  have H10 := hid (H9.out.bel hb (Nat.lt_of_lt_of_le hlow.out W9.out.size))
  have W10 := hid (W9.out.trans (hb.mono W9.out.size))
  have o10 := hid (o9.out.bel hb)
  have T10 := hid (T9.out.bel hb)
  have G10 := hid (G9.out.bel hb)
  have L10 := hid (L9.out.bel hb)
  have N10 := hid (rangeBel2 hb N9.out)
  clear H9 W9 o9 T9 G9 L9 N9
  clear hb
  go_wp2_with (first
    | ((with_reducible refine wpList_load_rng rfl 44 (.tmp 1) rfl w1.heap.size 0 rfl [Value.slice ad1 ns.length c1, .int .i64 root] _ ?_ hut rfl hiT.out ?_); exact T10.out.all))
  refine (hA.out _ ad1 c1 _ o10.out).mono ?_
  rintro e w11 ⟨ad11, c11, rfl, ho, hb⟩
  have H11 := hid (H10.out.bel hb (Nat.lt_of_lt_of_le hlow.out W10.out.size))
  have W11 := hid (W10.out.trans (hb.mono W10.out.size))
  have o11 := hid (o10.out.bel hb)
  have T11 := hid (T10.out.bel hb)
  have G11 := hid (G10.out.bel hb)
  have L11 := hid (L10.out.bel hb)
  have N11 := hid (rangeBel2 hb N10.out)
  clear H10 W10 o10 T10 G10 L10 N10
  clear hb ho hA
  clear o11
  clear T11
  have e11 := hid (heap_alloc_new w11 (.cells zTrC 44))
  have hiQ := hid (show (Tryd.prog.info? 44).map (·.size) = some ([Value.slice ad11 0 c11, .int .i64 0]).length from sizeTr)
  go_wp2_with (first
    | (with_reducible refine wpList_alloc_row rfl 44 rfl zTrC zInfoTr ?_)
    | ((with_reducible refine wpList_store_row rfl 44 (.tmp 11) (.tmp 58) rfl _ _ rfl rfl 44 zTrC ?_ ?_ ?_ ?_ ?_); exact e11.out; exact sizeTr; rfl; exact one_trP ad11 0 c11 0; intro w12 hgS hbS hsS; have X12 := hid (xnewP rfl hbS); have lt12 := hid (block_lt hgS); have Q12 := hid (BoxT.of (rangeOf (l := [Value.slice ad11 0 c11, .int .i64 0]) hgS)); clear hgS hbS hsS; have H12 := hid (H11.out.bel X12.out (Nat.lt_of_lt_of_le hlow.out W11.out.size)); have W12 := hid (W11.out.trans (X12.out.mono W11.out.size)); have G12 := hid (G11.out.bel X12.out); have L12 := hid (L11.out.bel X12.out); have N12 := hid (rangeBel2 X12.out N11.out); clear H11 W11 G11 L11 N11))
  refine (hAl.out _ H12.out).mono ?_
  rintro e w13 ⟨rfl, hb⟩
  have H13 := hid (H12.out.bel hb (Nat.lt_of_lt_of_le hlow.out W12.out.size))
  have W13 := hid (W12.out.trans (hb.mono W12.out.size))
  have G13 := hid (G12.out.bel hb)
  have L13 := hid (L12.out.bel hb)
  have N13 := hid (rangeBel2 hb N12.out)
  have Q13 := hid (Q12.out.bel hb)
  clear H12 W12 G12 L12 N12 Q12
  clear hb hAl
  go_wp2_with (first
    | ((with_reducible refine wpList_load_rng ?_ 50 (.tmp 9) rfl (w7.heap.size + 1) 0 rfl (ndC leafA (some ⟨w7.heap.size, 0, none⟩) 1) _ ?_ hun rfl (hsl (some ⟨w7.heap.size, 0, none⟩)).out ?_); rfl; exact N13.out)
    | ((with_reducible refine wpList_buildOne slotNd (by decide) ?_ (.tmp 88) rfl (ndC leafA (some ⟨w7.heap.size, 0, none⟩) 1) ?_ ?_ ?_); rfl; rfl; exact (hll _).out)
    | ((with_reducible refine wpList_built ?_ 44 _ rfl #[.slice (some ⟨w13.heap.size, 0, none⟩) 1 1, .int .i64 1] [(0, .slice (some ⟨w13.heap.size, 0, none⟩) 1 1), (1, .int .i64 1)] ?_ ?_ ?_); rfl; exact (hbt _ 1 1 1).out; rfl))
  refine (hC3.out _ (some ⟨w13.heap.size, 0, none⟩) 1 _ (row_heap1 (hrl.out _ _ (L13.out.alloc _)) (heap_alloc_new _ _))).mono ?_
  rintro e w14 ⟨rfl, hb⟩
  replace hb := ext_trans (ext_alloc w13 _) hb
  have H14 := hid (H13.out.bel hb (Nat.lt_of_lt_of_le hlow.out W13.out.size))
  have W14 := hid (W13.out.trans (hb.mono W13.out.size))
  have G14 := hid (G13.out.bel hb)
  have L14 := hid (L13.out.bel hb)
  have N14 := hid (rangeBel2 hb N13.out)
  have Q14 := hid (Q13.out.bel hb)
  clear H13 W13 G13 L13 N13 Q13
  clear hb
  go_wp2
  go_ret
  exact ⟨rfl, W14.out⟩

/-! ### WHAT THE WALK GIVES, FOR EVERY ARGUMENT AND EVERY WORLD THAT HOLDS THE TABLE -/
set_option maxRecDepth 100000 in
theorem contract (H : Type) (enc : TypeId × Value → H) (W : World) (base : Nat) (args : Array Value) (ds gs : List (DataW H)) (before : List MemPlace)
    (hval0 : ∀ (j : Nat) t v, Tryd.f4.params[j]? = some t → args[j]? = some v → Value.okWide Tryd.prog W .any base t v)
    (hW : DataW.Whole enc Tryd.prog Tryd.f4.params.toList Rows.treeNamesSpec.vars false W args.toList ds gs before) (hL : laidMetH Tryd.prog Rows.treeNamesRow.laid W) :
    Calls Tryd.prog 4 args W fun e W' => ∃ v, e = .returned v ∧ Rows.treeNamesSpec.post enc Tryd.prog Tryd.f4 false true false false W args v W' := by
  have hval : ∀ (j : Nat) t v, Tryd.f4.params[j]? = some t → args[j]? = some v → Value.okWide Tryd.prog W .any base t v := hval0
  have hW' := hW
  obtain ⟨p, q, hA0, hV, rfl, hfz, hnd⟩ := hW
  have hA : DataW.TrodAll enc Tryd.prog W 0 (fun _ => true) true Tryd.f4.params.toList args.toList ds p := hA0
  rw [Tryd.params4] at hA hval
  obtain ⟨rfl, rfl, rfl⟩ := trodAll_none hA
  obtain ⟨rfl, rfl⟩ := trodVars_none hV
  clear hA0 hval0
  refine (walk  W (tab_of hL)).mono fun e W' ⟨he, bel⟩ => ?_
  subst he
  exact ⟨_, rfl, _, _, _, [], _, [], hW', trodAll_mk1 (shut_bool Tryd.underlying4 _), trodAll_mk0, rfl, bel.frame _, fun h => by cases h⟩

theorem laid_met (os : Os) : laidMet Tryd.prog Rows.treeNamesRow.laid ((laidWorld os).forCall (fun _ _ => 0) ⟨#[], #[], []⟩).memory :=
  laidMet_of_run' 8 (by kernel_rfl) (by kernel_rfl)
theorem reads (os : Os) {H : Type} (enc : TypeId × Value → H) : ∃ places, DataW.whole enc Tryd.prog ((laidWorld os).forCall (fun _ _ => 0) ⟨#[], #[], []⟩).memory Tryd.f4.params.toList Rows.treeNamesSpec.vars false (#[] : Array Value).toList 8 = some ([], [], places) :=
  ⟨[], by kernel_rfl⟩
set_option maxRecDepth 100000 in
theorem lifted (os : Os) (started : os.Started) (H : Type) (enc : TypeId × Value → H) (F : Stop.Interp) :
    ReturnsInHanded {} Tryd.checked os 4 .any ((OpenSpec.ofChange Rows.treeNamesSpec).preRow enc Tryd.prog Tryd.f4 Rows.treeNamesRow.domain false Rows.treeNamesRow.laid) (((OpenSpec.ofChange Rows.treeNamesSpec).at F).post enc Tryd.prog Tryd.f4 false true false false) := by
  obtain ⟨places, hx⟩ := reads os enc
  refine returnsInHanded_of_row (C := Tryd.checked) (s := OpenSpec.ofChange Rows.treeNamesSpec) own started (by kernel_rfl) Tryd.func4
    (witness_row_at (enc := enc) (C := Tryd.checked) false (laidWorld os) #[] rfl (by kernel_rfl) (by kernel_rfl) (by kernel_rfl)
      (OpenSpec.preRow_of_cond 8 hx (by kernel_rfl) (fun k hk => by cases hk) (by kernel_rfl) (laid_met os))) ?_
  intro W base args ds gs before hval hW _ _ _ hL _ _
  exact contract H enc W base args ds gs before hval hW hL
theorem said : Rows.TreeNamesSaid :=
  OpenClaim.holds_of_cond 4 Tryd.f4 rfl rfl rfl rfl rfl rfl rfl ⟨rfl, rfl, rfl, rfl, rfl⟩ rfl rfl rfl rfl rfl (by kernel_rfl) Tryd.func4 (by kernel_rfl)
    (of_decide_eq_true (by kernel_rfl)) (by unfold Func.isWrapper; first | (rw [if_pos (by decide +kernel)]; kernel_rfl) | (rw [if_neg (by decide +kernel)]; exact ⟨rfl, rfl⟩))
    (fun os started H enc _ F => by rw [OpenClaim.pre_eq_preRow]; exact lifted os started H enc F)
set_option maxRecDepth 100000 in
/-- No parameter wants a stand-in; the program's own looks are off: what the card asks. -/
theorem plain (f : FuncId) (fn : Func) (hf : Tryd.pinned.checked.prog.funcNamed "beadroll/beadrolllaw06.TreeNames" = some f) (hfn : Tryd.pinned.checked.prog.funcs[f]? = some fn) :
    false = Tryd.pinned.checked.prog.looks [] ∧ ∀ (j : Nat) t, fn.params[j]? = some t → Tryd.pinned.checked.prog.wantsStandIn t = false := by
  obtain rfl : f = 4 := Option.some.inj ((show Tryd.prog.funcNamed "beadroll/beadrolllaw06.TreeNames" = some 4 by kernel_rfl).symm.trans hf) |>.symm
  obtain rfl : fn = Tryd.f4 := (Option.some.inj (Tryd.func4.symm.trans hfn)).symm
  refine ⟨by kernel_rfl, fun j t ht => ?_⟩
  rw [Tryd.params4] at ht
  simp at ht
set_option maxRecDepth 100000 in
/-- ████ THE CARD ████ -/
theorem proved : Rows.TreeNamesCardSaid :=
  Claim7.holds_tied_plain_at .later [] _ _ _ _ said (fun _ h => by cases h) (by kernel_rfl) (fun _ h => by cases h) treeNames_row_tie rfl ⟨rfl, rfl⟩ (by kernel_rfl) rfl plain (by kernel_rfl)
#print axioms proved
end Go.Proofs.YtfjkcdccnbggnaaDoor.treeNames
