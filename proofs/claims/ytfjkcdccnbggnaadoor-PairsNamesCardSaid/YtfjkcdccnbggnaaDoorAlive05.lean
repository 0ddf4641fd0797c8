/-
  Layer 5's law: a pair of a byte and a text; the chapter's first examples.
-/
import Derived.Test.YtfjkcdccnbggnaaDoorBits
import Derived.Test.YtfjkcdccnbggnaaDoorPrA
import Derived.Test.YtfjkcdccnbggnaaDoorRefE
import Derived.Test.YtfjkcdccnbggnaaDoorMem
namespace Go.Proofs.YtfjkcdccnbggnaaDoor
open Go.RowKit
set_option linter.unusedVariables false
set_option linter.unusedSimpArgs false

set_option maxRecDepth 100000 in
set_option maxHeartbeats 800000 in
theorem one_any (c : UInt8) (v : List UInt8) (w : World) (hv : v.length ≤ 1000000) :
    Calls Tryd.prog 10 #[.int .u8 (c.toNat : Int), .string (bstr v)] w fun e w' => ∃ A' c', e = .returned (.agg ((dfst c).1.map bv ++ [Value.slice A' v.length c']).toArray) ∧ Rd w' A' v ∧ v.length ≤ c' ∧ c' ≤ maxLen ∧ Below w.heap.size w w' := by
  have hcv := fun W => run_str_bytes u8s underU8 9 underStr v W
  have hsz := fun x : Value => (len_pr (dfst c) x).trans size_pr
  have hs := sizePrP (dfst c)
  have hb1 := built_dg1 c
  have hb2 := fun (x : Value) hx => built_pr (dfst c) x hx
  have hall : ∀ (A : Option Addr) (c' : Nat), ((dfst c).1.map bv ++ [Value.slice A v.length c']).toArray.all (·.oneCell') = true := fun A c' => all_oneCell_toArray fun u hu => by
    rcases List.mem_append.1 hu with h | h
    · exact bvs_one _ u h
    · simp at h; subst h; rfl
  generalize hds : (dfst c).1.map bv = ds at *
  replace hds := hid hds
  replace hb1 := hid hb1
  replace hb2 := hid hb2
  replace hall := hid hall
  replace hs := hid hs
  replace hsz := hid hsz
  have B0 := ext_alloc w (.cells zPrC 26)
  have B1 := bytesWorld_bel (w.alloc (.cells zPrC 26)) 5 (bstr v)
  have R1 := bytesWorld_rd (w.alloc (.cells zPrC 26)) 5 v
  rw [World.size_alloc] at R1
  have hz0 := (B1.block w.heap.size (by simp)).trans (heap_alloc_new w (.cells zPrC 26))
  have hg1 := grownCap_ge (w.alloc (.cells zPrC 26)) v.length 0 5
  have hg2 := grownCap_le_maxLen (w.alloc (.cells zPrC 26)) v.length 0 5 (by unfold maxLen; omega)
  replace hz0 := hid hz0
  go_enter Tryd.func10, Tryd.ntmps10
  go_wp2_with (first
    | (with_reducible refine wpList_alloc_row rfl 26 rfl zPrC zInfoPr ?_)
    | ((with_reducible refine wpList_built rfl 23 _ rfl ds.toArray [(0, .int .u8 (c.toNat : Int))] ?_ ?_ ?_); exact hb1.out; rfl)
    | ((with_reducible refine wpList_built rfl 26 _ rfl (ds ++ [Value.slice (some ⟨w.heap.size + 1, 0, none⟩) v.length (grownCap (w.alloc (.cells zPrC 26)) v.length 0 5)] : List Value).toArray [(0, .agg ds.toArray), (1, Value.slice (some ⟨w.heap.size + 1, 0, none⟩) v.length (grownCap (w.alloc (.cells zPrC 26)) v.length 0 5))] ?_ ?_ ?_); exact hb2.out _ rfl; rfl)
    | ((with_reducible refine wpList_store_row rfl 26 (.tmp 4) (.tmp 9) rfl w.heap.size (ds ++ [Value.slice (some ⟨w.heap.size + 1, 0, none⟩) v.length (grownCap (w.alloc (.cells zPrC 26)) v.length 0 5)] : List Value).toArray rfl ?_ 26 zPrC ?_ ?_ ?_ ?_ ?_); rfl; exact hz0.out; exact hs.out _; exact zSizePr.trans (hsz.out _).symm; exact hall.out _ _; intro w4 hg4 hb4 hs4))
  refine bodyPost_ret (v := .agg (ds ++ [Value.slice (some ⟨w.heap.size + 1, 0, none⟩) v.length (grownCap (w.alloc (.cells zPrC 26)) v.length 0 5)] : List Value).toArray) ?_ rfl ⟨_, _, rfl, ?_, hg1, hg2, ?_⟩
  · exact results_cell_row Tryd.results10 _ _ w.heap.size 26 _ (0, 0) _ rfl hg4 Tryd.underlying26 rfl (hs.out _)
  · exact R1.grown hb4 (by intro a ha e; injection ha with ha; subst ha; injection e with e; exact absurd e (by show ¬ w.heap.size + 1 = w.heap.size; omega))
  · exact ((B0.trans (B1.mono B0.size)).grown hb4 (B0.trans (B1.mono B0.size)).size (fun g e => by injection e with e; subst e; exact Nat.le_refl _))

theorem one_is (c : UInt8) (v : List UInt8) (x s : Value) (w : World) (hx : x = .int .u8 (c.toNat : Int)) (hs : s = .string (bstr v)) (hv : v.length ≤ 1000000) :
    Calls Tryd.prog 10 #[x, s] w fun e w' => ∃ A' c', e = .returned (.agg ((dfst c).1.map bv ++ [Value.slice A' v.length c']).toArray) ∧ Rd w' A' v ∧ v.length ≤ c' ∧ c' ≤ maxLen ∧ Below w.heap.size w w' := by
  subst hx hs
  exact one_any c v w hv
theorem one_rep {w : World} {A : Option Addr} {c' : Nat} {v : List UInt8} (c : UInt8) (h : Rd w A v) (h1 : v.length ≤ c') (h2 : c' ≤ maxLen) : Enc.rep (fun b => b < w.heap.size) w (⟨dfst c, v⟩ : Pr) ((dfst c).1.map bv ++ [Value.slice A v.length c']) := rep_pr_mk _ v A c' h1 h2 h.row_lt

set_option maxRecDepth 100000 in
set_option maxHeartbeats 2000000 in
theorem alive5_any (w : World) : Calls Tryd.prog 17 #[] w fun e w' => e = .returned (.bool true) ∧ Below w.heap.size w w' := by
  have hd5 := hid (built_dg1 5)
  have hd9 := hid (built_dg1 9)
  go_enter Tryd.func17, Tryd.ntmps17
  go_wp2_with fail
  refine (one_is 3 [97] _ _ _ rfl rfl (by decide)).mono ?_
  rintro e w1 ⟨A1, c1, rfl, r1, p1, q1, hb1⟩
  go_wp2_with fail
  refine (one_is 9 [99] _ _ _ rfl rfl (by decide)).mono ?_
  rintro e w2 ⟨A2, c2, rfl, r2, p2, q2, hb2⟩
  have k1 := one_rep 3 (r1.bel hb2) p1 q1
  have k2 := one_rep 9 r2 p2 q2
  generalize hd3 : (dfst 3).1.map bv ++ [Value.slice A1 [97].length c1] = u1 at *
  generalize hd9v : (dfst 9).1.map bv ++ [Value.slice A2 [99].length c2] = u2 at *
  have n1 : u1.length = Enc.size Pr := by rw [← hd3]; exact len_pr _ _
  have n2 : u2.length = Enc.size Pr := by rw [← hd9v]; exact len_pr _ _
  have hrow := row_all (E := 26) (w := w2) (xs := [(⟨dfst 3, [97]⟩ : Pr), ⟨dfst 9, [99]⟩]) (css := [u1, u2]) rfl (fun j x vs hx hv => by
    rcases j with _ | _ | j
    · simp at hx hv; subst hx hv; exact k1
    · simp at hx hv; subst hx hv; exact k2
    · simp at hx)
  have kc := fun o C n c => conv_lit2 w2 o C n c
  have W2 := hid (hb1.trans (hb2.mono hb1.size))
  replace hrow := hid hrow
  replace hd3 := hid hd3
  replace hd9v := hid hd9v
  replace n1 := hid n1
  replace n2 := hid n2
  clear k1 k2 r1 r2 p1 p2 q1 q2 hb1 hb2
  generalize hds5 : (dfst 5).1.map bv = d5 at *
  generalize hds9 : (dfst 9).1.map bv = d9 at *
  replace hds5 := hid hds5
  replace hds9 := hid hds9
  go_wp2_with (first
    | ((with_reducible refine wpList_buildAll slotPr rfl 2 _ rfl [u1, u2] rfl (by decide) (by decide) ?_ ?_ ?_); (intro cs hcs; simp at hcs; rcases hcs with rfl | rfl; exact n1.out; exact n2.out); rfl)
    | ((with_reducible refine wpList_built rfl 23 _ rfl d5.toArray [(0, .int .u8 5)] ?_ ?_ ?_); exact hd5.out; rfl))
  have hfl : [u1, u2].flatten = u1 ++ u2 := by simp
  rw [hfl] at hrow
  have B3 := ext_alloc w2 (.cells (u1 ++ u2).toArray 26)
  have B4 := ext_alloc (w2.alloc (.cells (u1 ++ u2).toArray 26)) (.cells #[.int .u8 98] 5 (1, 2))
  have hrow4 := hrow.out.bel B4
  have hrd4 := Rd.litf (w2.alloc (.cells (u1 ++ u2).toArray 26)) 5 [98] #[.int .u8 98] (w2.heap.size + 1) (1, 2) (World.size_alloc _ _) rfl
  have hP := PPut_any _ _ _ 2 2 1 1 [(⟨dfst 3, [97]⟩ : Pr), ⟨dfst 9, [99]⟩] (dfst 5) [98] _ hrow4 rfl hrd4 rfl (by decide) (by decide) (by decide) (by decide) (by decide)
  rw [show mPutE [(⟨dfst 3, [97]⟩ : Pr), ⟨dfst 9, [99]⟩] (dfst 5) [98] = 0 by decide +kernel, show mPutL [(⟨dfst 3, [97]⟩ : Pr), ⟨dfst 9, [99]⟩] (dfst 5) [98] = [⟨dfst 3, [97]⟩, ⟨dfst 5, [98]⟩, ⟨dfst 9, [99]⟩] by decide +kernel, hds5.out] at hP
  have W4 := hid (W2.out.trans ((B3.trans (B4.mono B3.size)).mono W2.out.size))
  clear hrow hrow4 hrd4 hfl kc hd3 hd9v n1 n2 hd5 hds5
  refine hP.mono ?_
  clear hP
  rintro e w4 ⟨A4, c4, rfl, ho4, hb4⟩
  have W5 := hid (W4.out.trans (hb4.mono W4.out.size))
  clear hb4 W4 B3 B4
  have hrow4 := ho4.row
  have hcap4 := ho4.cap
  clear ho4
  have hG := PGet_any _ A4 c4 3 [(⟨dfst 3, [97]⟩ : Pr), ⟨dfst 5, [98]⟩, ⟨dfst 9, [99]⟩] (dfst 9) w4 hrow4 rfl (by decide)
  rw [show mGetB [(⟨dfst 3, [97]⟩ : Pr), ⟨dfst 5, [98]⟩, ⟨dfst 9, [99]⟩] (dfst 9) = true by decide +kernel, show mGetL [(⟨dfst 3, [97]⟩ : Pr), ⟨dfst 5, [98]⟩, ⟨dfst 9, [99]⟩] (dfst 9) = [99] by decide +kernel, hds9.out] at hG
  replace hG := hid hG
  go_wp2_with (first
    | ((with_reducible refine wpList_built rfl 23 _ rfl d9.toArray [(0, .int .u8 9)] ?_ ?_ ?_); exact hd9.out; rfl))
  refine hG.out.mono ?_
  rintro e w5 ⟨A5, c5, rfl, ho5, hb5⟩
  have hrd5 := ho5.rd
  have hrow5 := hrow4.bel hb5
  have W6 := hid (W5.out.trans (hb5.mono W5.out.size))
  clear hG ho5 hb5 hrow4 W5 hd9 hds9
  go_wp2_with fail
  refine (one_is 3 [97] _ _ _ rfl rfl (by decide)).mono ?_
  rintro e w6 ⟨A6, c6, rfl, r6, p6, q6, hb6⟩
  go_wp2_with fail
  refine (one_is 5 [98] _ _ _ rfl rfl (by decide)).mono ?_
  rintro e w7 ⟨A7, c7, rfl, r7, p7, q7, hb7⟩
  go_wp2_with fail
  refine (one_is 9 [99] _ _ _ rfl rfl (by decide)).mono ?_
  rintro e w8 ⟨A8, c8, rfl, r8, p8, q8, hb8⟩
  have k6 := one_rep 3 ((r6.bel hb7).bel hb8) p6 q6
  have k7 := one_rep 5 (r7.bel hb8) p7 q7
  have k8 := one_rep 9 r8 p8 q8
  have B58 := (hb6.trans (hb7.mono hb6.size)).trans (hb8.mono (Nat.le_trans hb6.size hb7.size))
  have n6 := len_pr (dfst 3) (Value.slice A6 [97].length c6)
  have n7 := len_pr (dfst 5) (Value.slice A7 [98].length c7)
  have n8 := len_pr (dfst 9) (Value.slice A8 [99].length c8)
  generalize (dfst 3).1.map bv ++ [Value.slice A6 [97].length c6] = u6 at *
  generalize (dfst 5).1.map bv ++ [Value.slice A7 [98].length c7] = u7 at *
  generalize (dfst 9).1.map bv ++ [Value.slice A8 [99].length c8] = u8 at *
  have hrow8 := row_all (E := 26) (w := w8) (xs := [(⟨dfst 3, [97]⟩ : Pr), ⟨dfst 5, [98]⟩, ⟨dfst 9, [99]⟩]) (css := [u6, u7, u8]) rfl (fun j x vs hx hv => by
    rcases j with _ | _ | _ | j
    · simp at hx hv; subst hx hv; exact k6
    · simp at hx hv; subst hx hv; exact k7
    · simp at hx hv; subst hx hv; exact k8
    · simp at hx)
  have hrd8 := hrd5.bel B58
  have hrow58 := hrow5.bel B58
  have W8 := hid (W6.out.trans (B58.mono W6.out.size))
  replace hrow8 := hid hrow8
  replace n6 := hid n6
  replace n7 := hid n7
  replace n8 := hid n8
  clear k6 k7 k8 r6 r7 r8 p6 p7 p8 q6 q7 q8 hb6 hb7 hb8 hrd5 hrow5 W6 B58
  go_wp2_with (first
    | ((with_reducible refine wpList_buildAll slotPr rfl 3 _ rfl [u6, u7, u8] rfl (by decide) (by decide) ?_ ?_ ?_); (intro cs hcs; simp at hcs; rcases hcs with rfl | rfl | rfl; exact n6.out; exact n7.out; exact n8.out); rfl))
  have B9 := ext_alloc w8 (.cells [u6, u7, u8].flatten.toArray 26)
  have hfl : [u6, u7, u8].flatten = u6 ++ (u7 ++ u8) := by simp
  rw [hfl] at hrow8 B9
  refine (RSameP_any _ _ A4 _ c4 3 3 3 [(⟨dfst 3, [97]⟩ : Pr), ⟨dfst 5, [98]⟩, ⟨dfst 9, [99]⟩] [(⟨dfst 3, [97]⟩ : Pr), ⟨dfst 5, [98]⟩, ⟨dfst 9, [99]⟩] _ (hrow58.bel B9) hrow8.out rfl rfl (by decide) (by decide)).mono ?_
  rintro e w9 ⟨rfl, hb9⟩
  rw [decide_eq_true rfl]
  have hrd9 := (hrd8.bel B9).bel hb9
  have hcv := run_conv_str u8s underU8 9 underStr hrd9 1 c5 rfl
  have ht : ((bstr [99]).toList == [99]) = true := by rw [bstr_toList]; rfl
  have W9 := hid (W8.out.trans ((B9.trans (hb9.mono B9.size)).mono W8.out.size))
  clear hrow8 hrow58 hrd8 hrd9 B9 hb9 W8 hfl n6 n7 n8
  go_wp2
  go_ret
  exact ⟨rfl, W9.out⟩
end Go.Proofs.YtfjkcdccnbggnaaDoor
