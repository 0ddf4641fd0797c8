/-
 The fifteenth law file's ten, pay, has, total.
-/
import Derived.Test.YtmjocmogfckmmaaDoorPuN
import Derived.Test.YtmjocmogfckmmaaDoorAcL
import Derived.Test.YtmjocmogfckmmaaDoorAcK
import Derived.Test.YtmjocmogfckmmaaDoorTxM
import Derived.Test.YtmjocmogfckmmaaDoorStX
namespace Go.Proofs.YtmjocmogfckmmaaDoor
open Go.RowKit
set_option linter.unusedVariables false
set_option linter.unusedSimpArgs false
set_option maxRecDepth 100000

theorem built_tree0 : Tryd.prog.built 27 [] = some zTrC := by kernel_rfl
theorem built_dg0h : Tryd.prog.built 23 [] = some (z0.1.map bv).toArray := by kernel_rfl
theorem built_ac10 : Tryd.prog.built 47 [(1, .int .u64 10)] = some (acC a10).toArray := by kernel_rfl
theorem built_payU (n a f : Nat) : Tryd.prog.built 34 [(1, .agg ((dfst 1).1.map bv).toArray), (2, .int .u64 (n : Int)), (3, .int .u64 (a : Int)), (4, .int .u64 (f : Int))] = some (txC (payU n a f)).toArray := by kernel_rfl
theorem nil_mayNh : mayT ⟨[], 0⟩ = true := by decide +kernel
theorem nil_allh : allT ⟨[], 0⟩ = [] := by decide +kernel
theorem nil_mayAh : mayA ⟨[], 0⟩ = true := by unfold mayA; rw [nil_mayNh, nil_allh]; rfl
def tenT : Tr := setT ⟨[], 0⟩ kMe a10
theorem ten_ten : Ten tenT := by
 obtain ⟨h1, -, h3, h4⟩ := setT_spec (k := kMe) a10_ok nil_mayAh (by simp)
 exact ⟨h1, by rw [show allT tenT = _ from h3, nil_allh], Nat.le_trans h4 (by simp)⟩
def TenPost (w : World) (e : Ending) (w' : World) : Prop := ∃ (t : Tr) (A : Option Addr) (c : Nat), Ten t ∧ e = .returned (.agg #[.slice A t.ns.length c, .int .i64 t.root]) ∧ OwnR 68 w' w.heap.size A c t.ns ∧ Below w.heap.size w w'
set_option maxHeartbeats 2000000 in
theorem ten_any (w : World) (hT : Tab w) : Calls Tryd.prog 8 #[] w (TenPost w) := by
 have hut := Tryd.underlying27
 have h0 := hid (heap_alloc_new w (.cells zTrC 27))
 have W0 := hid (ext_alloc w (.cells zTrC 27))
 have hlow := hid hT.low
 have T0 := hid (hT.bel W0.out hlow.out)
 have hK := hid (fun W hT => PAcKey_any z0 W hT)
 have hkm : keyD z0 = kMe := Subtype.ext (show sha256 (tagB 3 [z0.1]) = sha256 (tagB 3 [z0.1]) from rfl)
 rw [hkm] at hK
 have hS := fun W => PAcSet_any (fun _ => False) none 0 [] 0 kMe a10 W a10_ok (Row.nil _ _ _) (by simp)
 have hE : setE ⟨[], 0⟩ kMe a10 = 0 := by rw [setE_small _ (by simp), if_pos nil_mayAh]
 rw [hE] at hS
 have hten := hid ten_ten
 have hdef : setT ⟨[], 0⟩ kMe a10 = tenT := rfl
 rw [hdef] at hS
 replace hS := hid hS
 have b0 := hid built_tree0
 have b1 := hid built_dg0h
 have b2 := hid built_ac10
 clear hT hkm hE hdef
 generalize tenT = t at *
 obtain ⟨ns, root⟩ := t
 dsimp only at hS
 generalize kMe.1.map bv = dk at *
 generalize z0.1.map bv = dz at *
 generalize acC a10 = ca at *
 unfold TenPost
 go_enter Tryd.func8, Tryd.ntmps8
 go_wp2_with (first
  | (with_reducible refine wpList_alloc_row rfl 27 rfl zTrC zInfoTr ?_)
  | ((with_reducible refine wpList_built rfl 27 _ rfl zTrC [] ?_ ?_ ?_); exact b0.out; rfl)
  | ((with_reducible refine wpList_built rfl 23 _ rfl dz.toArray [] ?_ ?_ ?_); exact b1.out; rfl))
 refine (hK.out _ T0.out).mono ?_
 rintro e w1 ⟨rfl, hb⟩
 have h1 := hid ((hb.block _ (block_lt h0.out)).trans h0.out)
 have W1 := hid (W0.out.trans (hb.mono W0.out.size))
 clear hb h0 T0
 go_wp2_with (first
  | ((with_reducible refine wpList_built rfl 47 _ rfl ca.toArray [(1, .int .u64 10)] ?_ ?_ ?_); exact b2.out; rfl))
 refine (hS.out _).mono ?_
 rintro e w2 ⟨A2, c2, rfl, ho, hb⟩
 have h2 := hid ((hb.block _ (block_lt h1.out)).trans h1.out)
 have W2 := hid (W1.out.trans (hb.mono W1.out.size))
 have o2 := hid ho
 have lt1 := hid (block_lt h1.out)
 have e2 := hid (heap_alloc_new w2 (.cells zTrC 27))
 have hi2 := hid (show (Tryd.prog.info? 27).map (·.size) = some ([Value.slice A2 ns.length c2, .int .i64 root]).length from sizeTr)
 clear hb h1 W1 ho
 go_wp2_with (first
  | (with_reducible refine wpList_alloc_row rfl 27 rfl zTrC zInfoTr ?_)
  | ((with_reducible refine wpList_store_row rfl 27 (.tmp 1) (.tmp 9) rfl w2.heap.size _ rfl rfl 27 zTrC ?_ ?_ ?_ ?_ ?_); exact e2.out; exact sizeTr; rfl; exact one_trP A2 ns.length c2 root; intro w3 hgS hbS hsS; have X3 := hid (xnewP rfl hbS); have q3 := hid (rangeOf (l := [Value.slice A2 ns.length c2, .int .i64 root]) hgS); have h3 := hid ((X3.out.block _ (block_lt h2.out)).trans h2.out); have W3 := hid (W2.out.trans (X3.out.mono W2.out.size)); have o3 := hid (OwnQ.bel o2.out X3.out); clear hgS hbS hsS)
  | ((with_reducible refine wpList_load_rng rfl 27 (.tmp 1) rfl w2.heap.size 0 rfl [Value.slice A2 ns.length c2, .int .i64 root] _ ?_ hut rfl hi2.out ?_); exact q3.out)
  | ((with_reducible refine wpList_store_row rfl 27 (.tmp 0) (.tmp 11) rfl w.heap.size _ rfl rfl 27 zTrC ?_ ?_ ?_ ?_ ?_); exact h3.out; exact sizeTr; rfl; exact one_trP A2 ns.length c2 root; intro w4 hg4 hb4 hs4))
 refine bodyPost_ret (v := .agg #[.slice A2 ns.length c2, .int .i64 root]) ?_ rfl ⟨⟨ns, root⟩, A2, c2, hten.out, rfl, ?_, ?_⟩
 ·exact results_cell_row Tryd.results8 _ _ w.heap.size 27 _ (0, 0) _ rfl hg4 hut rfl sizeTr
 ·exact OwnR.base (OwnQ.keptAtP o3.out hb4 lt1.out lt1.out) (Nat.le_of_lt lt1.out)
 ·exact W3.out.grown hb4 W3.out.size (fun g e => by injection e with e; omega)
set_option maxHeartbeats 2000000 in
theorem pay15_any (n a f : Nat) (hn : n < 18446744073709551616) (ha : a < 18446744073709551616) (hf : f < 18446744073709551616) (w : World) (hT : Tab w) : Calls Tryd.prog 9 #[.int .u64 (n : Int), .int .u64 (a : Int), .int .u64 (f : Int)] w fun e w' => e = .returned (.agg (txC (payX n a f)).toArray) ∧ Below w.heap.size w w' := by
 have hux := Tryd.underlying34
 have h0 := hid (heap_alloc_new w (.cells zTxC 34))
 have W0 := hid (ext_alloc w (.cells zTxC 34))
 have hlow := hid hT.low
 have T0 := hid (hT.bel W0.out hlow.out)
 have hS := hid (fun W hT => PTxSign_any (payU n a f) ⟨hn, ha, hf⟩ W hT)
 have b1 := hid (show Tryd.prog.built 23 [(0, .int .u8 1)] = some ((dfst 1).1.map bv).toArray from built_dg1 1)
 have b2 := hid (built_payU n a f)
 have e3 : txC (payX n a f) = txC (signX (payU n a f)) := rfl
 rw [e3]
 have sA := hid (sizeTxA (signX (payU n a f)))
 have sZ := hid (zSizeTx (signX (payU n a f)))
 have s1 := hid (one_tx (signX (payU n a f)))
 clear hT e3 hn ha hf
 generalize txC (signX (payU n a f)) = cs at *
 generalize txC (payU n a f) = cu at *
 generalize (dfst 1).1.map bv = d1 at *
 go_enter Tryd.func9, Tryd.ntmps9
 go_wp2_with (first
  | (with_reducible refine wpList_alloc_row rfl 34 rfl zTxC zInfoTx ?_)
  | ((with_reducible refine wpList_built rfl 23 _ rfl d1.toArray [(0, .int .u8 1)] ?_ ?_ ?_); exact b1.out; rfl)
  | ((with_reducible refine wpList_built rfl 34 _ rfl cu.toArray [(1, .agg d1.toArray), (2, .int .u64 (n : Int)), (3, .int .u64 (a : Int)), (4, .int .u64 (f : Int))] ?_ ?_ ?_); exact b2.out; rfl))
 refine (hS.out _ T0.out).mono ?_
 rintro e w1 ⟨rfl, hb⟩
 have h1 := hid ((hb.block _ (block_lt h0.out)).trans h0.out)
 have W1 := hid (W0.out.trans (hb.mono W0.out.size))
 clear hb
 go_wp2_with (first
  | ((with_reducible refine wpList_store_row rfl 34 (.tmp 6) (.tmp 12) rfl w.heap.size _ rfl rfl 34 zTxC ?_ ?_ ?_ ?_ ?_); exact h1.out; exact sA.out; exact sZ.out; exact s1.out; intro w4 hg4 hb4 hs4))
 refine bodyPost_ret (v := .agg cs.toArray) ?_ rfl ⟨rfl, ?_⟩
 ·exact results_cell_row Tryd.results9 _ _ w.heap.size 34 _ (0, 0) _ rfl hg4 hux rfl sA.out
 ·exact W1.out.grown hb4 W1.out.size (fun g e => by injection e with e; omega)
set_option maxHeartbeats 2000000 in
theorem has15_any (F : Nat → Prop) (A : Option Addr) (c : Nat) (ns : List Nd) (root : Int) (k : Dg) (n b : Nat) (w : World) (hr : Row F w A ns) (hc : ns.length ≤ 1000000) (hm : mayA ⟨ns, root⟩ = true) (hn : n < 18446744073709551616) (hb : b < 18446744073709551616) (r : Bool) (hg : decide (getA ⟨ns, root⟩ k = ⟨n, b⟩) = r) :
  Calls Tryd.prog 12 #[.agg #[.slice A ns.length c, .int .i64 root], .agg (k.1.map bv).toArray, .int .u64 (n : Int), .int .u64 (b : Int)] w fun e w' => e = .returned (.bool r) ∧ Below w.heap.size w w' := by
 have hut := Tryd.underlying27
 have hu := Tryd.underlying23
 have hua := Tryd.underlying47
 obtain ⟨T0, K0, W0⟩ := boxesTDp w A ns.length c root k 27 23
 have hiT := hid (show (Tryd.prog.info? 27).map (·.size) = some ([Value.slice A ns.length c, .int .i64 root]).length from sizeTr)
 have hiK := hid (sizeDgT k)
 have hG := fun W hW => PAcGet_any F A c ns root k W hW hc
 rw [hm, if_pos rfl] at hG
 have hok : (getA ⟨ns, root⟩ k).ok := by
  rw [getA_in hm]
  exact inA_ok _ _
 obtain ⟨ga, hga⟩ : ∃ y, getA ⟨ns, root⟩ k = y := ⟨_, rfl⟩
 rw [hga] at hG hg hok
 have hE : ∀ W, (Op.equalIn 10000 47 (.agg (acC ga).toArray) (.agg (acC ⟨n, b⟩).toArray)).run Tryd.prog W = .ok r W := fun W => eqac_is ga ⟨n, b⟩ hok ⟨hn, hb⟩ r hg W
 have bl := hid (built_ac n b)
 have nga := hid (one_ac ga)
 have jga := hid (show (Tryd.prog.info? 47).map (·.size) = some (acC ga).length from sizeAc)
 have R0 := hid (hr.bel W0)
 replace hG := hid hG
 replace T0 := hid T0
 replace K0 := hid K0
 replace W0 := hid W0
 clear hm hga hg hr hok hn hb
 generalize k.1.map bv = dk at *
 go_enter Tryd.func12, Tryd.ntmps12
 go_wp2_with (first
  | ((with_reducible refine wpList_load_rng rfl 27 (.tmp 4) rfl w.heap.size 0 rfl [Value.slice A ns.length c, .int .i64 root] _ ?_ hut rfl hiT.out ?_); exact T0.out.all)
  | ((with_reducible refine wpList_load_rng rfl 23 (.tmp 5) rfl (w.heap.size + 1) 0 rfl dk _ ?_ hu rfl hiK.out ?_); exact K0.out))
 refine (hG.out _ R0.out).mono ?_
 rintro e w1 ⟨rfl, hb⟩
 have W1 := hid (W0.out.trans (hb.mono W0.out.size))
 have e1 := hid (heap_alloc_new w1 (.cells (acC ac0).toArray 47))
 clear hb
 go_wp2_with (first
  | (with_reducible refine wpList_alloc_row rfl 47 rfl (acC ac0).toArray zInfoAc ?_)
  | ((with_reducible refine wpList_store_row rfl 47 (.tmp 9) (.tmp 15) rfl w1.heap.size _ rfl rfl 47 (acC ac0).toArray ?_ ?_ ?_ ?_ ?_); exact e1.out; exact sizeAc; rfl; exact nga.out; intro w2 hgS hbS hsS; have X2 := hid (xnewP rfl hbS); have q2 := hid (rangeOf (l := acC ga) hgS); clear hgS hbS hsS)
  | ((with_reducible refine wpList_load_rng ?_ 47 (.tmp 9) rfl w1.heap.size 0 rfl (acC ga) _ ?_ hua rfl jga.out ?_); rfl; exact q2.out)
  | ((with_reducible refine wpList_built ?_ 47 _ rfl (acC ⟨n, b⟩).toArray [(0, .int .u64 (n : Int)), (1, .int .u64 (b : Int))] ?_ ?_ ?_); rfl; exact bl.out; rfl))
 go_ret
 exact ⟨rfl, W1.out.trans (X2.out.mono W1.out.size)⟩
set_option maxHeartbeats 1000000 in
theorem total15_any (F : Nat → Prop) (A : Option Addr) (c : Nat) (ns : List Nd) (root h l : Int) (w : World) (hr : Row F w A ns) (hc : ns.length ≤ 1000000) (hm : mayA ⟨ns, root⟩ = true) (hh : (totH (allT ⟨ns, root⟩) : Int) = h) (hl : (totL (allT ⟨ns, root⟩) : Int) = l) :
  Calls Tryd.prog 15 #[.agg #[.slice A ns.length c, .int .i64 root], .int .u64 h, .int .u64 l] w fun e w' => e = .returned (.bool true) ∧ Below w.heap.size w w' := by
 have hut := Tryd.underlying27
 have T0 := hid (BoxT.new w A ns.length c root 27)
 have W0 := hid (ext_alloc w (.cells #[.slice A ns.length c, .int .i64 root] 27))
 have hiT := hid (show (Tryd.prog.info? 27).map (·.size) = some ([Value.slice A ns.length c, .int .i64 root]).length from sizeTr)
 have hP := fun W hW => PAcTotal_any F A c ns root W hW hc
 rw [hm, if_pos rfl, if_pos rfl, if_pos rfl, hh, hl] at hP
 have R0 := hid (hr.bel W0.out)
 replace hP := hid hP
 have q1 : (h == h) = true := beq_self_eq_true h
 have q2 : (l == l) = true := beq_self_eq_true l
 clear hm hh hl hr
 go_enter Tryd.func15, Tryd.ntmps15
 go_wp2_with (first
  | ((with_reducible refine wpList_load_rng rfl 27 (.tmp 3) rfl w.heap.size 0 rfl [Value.slice A ns.length c, .int .i64 root] _ ?_ hut rfl hiT.out ?_); exact T0.out.all))
 refine (hP.out _ R0.out).mono ?_
 rintro e w1 ⟨rfl, hb⟩
 go_wp2
 go_ret
 exact ⟨rfl, W0.out.trans (hb.mono W0.out.size)⟩
end Go.Proofs.YtmjocmogfckmmaaDoor
