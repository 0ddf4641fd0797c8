/-
 Texts laid together: OfOne, TxD.
-/
import Derived.Test.YtmjocmogfckmmaaGreatDoorTagX
import Derived.Test.YtmjocmogfckmmaaGreatDoorMem
import Derived.Test.YtmjocmogfckmmaaGreatDoorTxL
import Derived.Test.YtmjocmogfckmmaaGreatDoorAcK
import Derived.Test.YtmjocmogfckmmaaGreatDoorStX
set_option maxRecDepth 100000
set_option linter.unusedVariables false
set_option linter.unusedSimpArgs false
namespace Go.Proofs.YtmjocmogfckmmaaGreatDoor
/- (OfOne)
 tag.Of at one part that lies in a new row, over the table sha.k.
-/
section
open Go.RowKit

theorem of_one_any (k : UInt8) (A : Option Addr) (c : Nat) (l : List UInt8) (w : World) (h : Rd w A l) (hc : l.length ≤ c ∧ c ≤ maxLen) (hl : l.length ≤ 90000) (hT : Tab w) :
  Calls Tryz.prog 44 #[.int .u8 (k.toNat : Int), .slice (some ⟨w.heap.size, 0, none⟩) 1 1] (w.alloc (.cells #[.slice A l.length c] 41)) fun e w' => e = .returned (.agg ((sha256 (tagB k [l])).map bv).toArray) ∧ Below w.heap.size w w' := by
 have hR := rds_one w A c l 41 h hc
 refine (TOf_any k (some ⟨w.heap.size, 0, none⟩) 1 1 [l] _ hR rfl (by simp) (by unfold tagB partB; simp [be_length]; omega) (hT.bel (ext_alloc w _) hT.low)).mono ?_
 rintro e w' ⟨rfl, hb⟩
 exact ⟨rfl, (ext_alloc w _).trans (hb.mono (ext_alloc w (.cells #[.slice A l.length c] 41)).size)⟩
end

/- (TxD)
 Contracts of the landed package tx over the table sha.k: Sign, Check, From, Id.
-/
section
open Go.RowKit

set_option maxHeartbeats 2000000 in
theorem PTxSign_any (x : Tx) (hx : x.ok) (w : World) (hT : Tab w) : Calls Tryz.prog 48 #[.agg (txC x).toArray] w fun e w' => e = .returned (.agg (txC (signX x)).toArray) ∧ Below w.heap.size w w' := by
 have hu := Tryz.underlying26
 have hux := Tryz.underlying29
 have h0 := heap_alloc_new w (.cells (txC x).toArray 29)
 have h1 := heap_alloc_new (w.alloc (.cells (txC x).toArray 29)) (.cells zTxC 29)
 have b1 := ext_alloc (w.alloc (.cells (txC x).toArray 29)) (.cells zTxC 29)
 rw [World.size_alloc] at h1
 have W1 := hid ((ext_alloc w (.cells (txC x).toArray 29)).trans (b1.mono (ext_alloc w _).size))
 replace h0 := hid ((b1.block _ (block_lt h0)).trans h0)
 have X1 := hid (rangeOf h0.out)
 have jx := hid (sizeTx x)
 have jy := hid (sizeTx (signX x))
 have jz := hid (sizeTxA (signX x))
 have oz := hid (one_tx (signX x))
 have ez := hid (zSizeTx (signX x))
 have jd := hid (sizeDxL (signD x))
 have od := hid (oneDx (signD x))
 have hBd := hid (fun W => PTxBody_any x hx W)
 have lb := body_len x
 have hO := fun A c W (h : Rd W A (bodyX x)) (h1 : (bodyX x).length ≤ c) (h2 : c ≤ maxLen) (hT : Tab W) => of_one_any 4 A c (bodyX x) W h ⟨h1, h2⟩ (by rw [lb]; decide) hT
 have hD : sha256 (tagB 4 [bodyX x]) = (signD x).1 := rfl
 rw [hD, lb] at hO
 replace hO := hid hO
 have hS := hid (setA_sign x (signD x))
 have hSx : ({ x with s := signD x } : Tx) = signX x := rfl
 rw [hSx] at hS
 have hfit := hid (show 67 + ((signD x).1.map bv).length ≤ (txC x).toArray.size from by rw [List.length_map, (signD x).2, List.size_toArray, len_tx]; decide)
 replace h1 := hid h1
 have hlow := hid hT.low
 replace hT := hid hT
 clear b1 hD hSx
 generalize (signD x).1.map bv = dD at *
 generalize txC (signX x) = cz at *
 generalize txC x = cx at *
 generalize bodyX x = zb at *
 go_enter Tryz.func48, Tryz.ntmps48
 go_wp2_with (first
  | (with_reducible refine wpList_alloc_row rfl 29 rfl zTxC zInfoTx ?_)
  | ((with_reducible refine wpList_load_rng rfl 29 (.tmp 1) rfl w.heap.size 0 rfl cx _ ?_ hux rfl jx.out ?_); exact X1.out))
 refine (hBd.out _).mono ?_
 rintro e w3 ⟨A3, c3, rfl, o3, hb3⟩
 have H3 := hid ((hb3.block _ (block_lt h0.out)).trans h0.out)
 have R3 := hid ((hb3.block _ (block_lt h1.out)).trans h1.out)
 have W3 := hid (W1.out.trans (hb3.mono W1.out.size))
 have q1 := o3.cap.1
 have q2 := o3.cap.2
 have q3 := hid o3.rd
 rw [lb] at q1
 have O3 := hid (hO.out A3 c3 w3 q3.out q1 q2 (hT.out.bel W3.out hlow.out))
 clear hb3 o3 q1 q2 hO
 go_wp2_with fail
 refine O3.out.mono ?_
 rintro e w4 ⟨rfl, hb4⟩
 have H4 := hid ((hb4.block _ (block_lt H3.out)).trans H3.out)
 have R4 := hid ((hb4.block _ (block_lt R3.out)).trans R3.out)
 have W4 := hid (W3.out.trans (hb4.mono W3.out.size))
 clear hb4
 go_wp2_with (first
  | ((with_reducible refine wpList_store_manyB rfl 26 (.tmp 7) (.tmp 6) rfl w.heap.size 67 dD cx.toArray 29 rfl rfl ?_ ?_ ?_ ?_ ?_); exact H4.out; exact hfit.out; exact jd.out; exact od.out; intro w5 hg5 hc5; rw [hS.out] at hg5; have Y5 := hid (rangeOf hg5); have R5 := hid ((hc5.block _ (block_lt R4.out) (by simp)).trans R4.out); have W5 := hid (W4.out.trans (hc5.below W4.out.size (fun b hb e => by omega))); clear hg5 hc5)
  | ((with_reducible refine wpList_load_rng rfl 29 (.tmp 1) rfl w.heap.size 0 rfl cz _ ?_ hux rfl jy.out ?_); exact Y5.out)
  | ((with_reducible refine wpList_store_row rfl 29 (.tmp 2) (.tmp 8) rfl (w.heap.size + 1) _ rfl rfl 29 zTxC ?_ ?_ ?_ ?_ ?_); exact R5.out; exact jz.out; exact ez.out; exact oz.out; intro w6 hg6 hb6 hs6))
 refine bodyPost_ret (v := .agg cz.toArray) ?_ rfl ⟨rfl, ?_⟩
 ·exact results_cell_row Tryz.results48 _ _ (w.heap.size + 1) 29 _ (0, 0) _ rfl hg6 hux rfl jz.out
 ·exact W5.out.grown hb6 W5.out.size (fun g e => by injection e with e; omega)
theorem sign_ok {x : Tx} (h : x.ok) : (signX x).ok := h
set_option maxHeartbeats 2000000 in
theorem PTxCheck_any (x : Tx) (hx : x.ok) (b : Bool) (hb : decide (x = signX x) = b) (w : World) (hT : Tab w) : Calls Tryz.prog 27 #[.agg (txC x).toArray] w fun e w' => e = .returned (.int .i64 (if b = true then 0 else 110)) ∧ Below w.heap.size w w' := by
 have hux := Tryz.underlying29
 have B0 := BoxX.new w x 29
 have W0 := hid (ext_alloc w (.cells (txC x).toArray 29))
 have X0 := hid B0.all
 have jx := hid (sizeTx x)
 have hS := hid (fun W hT => PTxSign_any x hx W hT)
 have hE : ∀ W, (Op.equalIn 10000 29 (.agg (txC x).toArray) (.agg (txC (signX x)).toArray)).run Tryz.prog W = .ok b W := fun W => eqtx_is x (signX x) hx (sign_ok hx) b hb W
 have hT1 := hid (hT.bel W0.out hT.low)
 have hl1 := hid hT1.out.low
 clear B0 hb hT
 generalize txC (signX x) = cz at *
 generalize txC x = cx at *
 cases b
 all_goals
  go_enter Tryz.func27, Tryz.ntmps27
  go_wp2
  generalize w.alloc (.cells cx.toArray 29) = w1 at *
  refine wp_region_noPanic ?_
  refine wp_region_held_drew (S := fun w' => Below w1.heap.size w1 w') (by kernel_rfl) ?_ (fun hHeld => ?_)
  ·exact bel_drew w1
  refine' tkH 0 rfl (yieldsIf_load_mid (by rfl) _ _ rfl _ _ rfl _ _ (fun _ h => rangeBel2 h X0.out) hux rfl jx.out) ?_
  try simp only [Act.put, sQ]
  refine' tkH 1 rfl (yieldsIf_load_mid (by rfl) _ _ rfl _ _ rfl _ _ (fun _ h => rangeBel2 h X0.out) hux rfl jx.out) ?_
  try simp only [Act.put, sQ]
  refine wpAnyH_ready (rs := [2]) (by kernel_rfl) (by simp) ?_
  refine AllReadyH.cons (o := _) rfl (fun K hK => ?_) AllReadyH.nil
  go_simp
  refine (hS.out _ (hT1.out.bel hHeld hl1.out)).mono ?_
  rintro e v1 ⟨rfl, hB⟩
  go_wp2_with fail
  refine hK.out _ _ ?_ (fun hHeld => ?_)
  ·exact hHeld.trans (hB.mono hHeld.size)
  clear hK K
  try simp only [Act.put, sQ]
  refine' tkL 3 ?_ rfl ?_ ?_
  rotate_left
  ·intro W hSw
   go_simp
   first | done | (with_reducible rfl)
  try simp only [Act.put, sQ]
  refine wpAnyH_done (by kernel_rfl) ?_ _
  refine NoPanic.normal ?_
  go_wp2
  go_ret
  exact ⟨rfl, W0.out.trans (hHeld.mono W0.out.size)⟩
set_option maxHeartbeats 2000000 in
theorem PTxFrom_any (x : Tx) (hx : x.ok) (w : World) (hT : Tab w) : Calls Tryz.prog 11 #[.agg (txC x).toArray] w fun e w' => e = .returned (.agg ((fromX x).1.map bv).toArray) ∧ Below w.heap.size w w' := by
 have hu := Tryz.underlying26
 have B0 := BoxX.new w x 29
 have h0 := heap_alloc_new w (.cells (txC x).toArray 29)
 have h1 := heap_alloc_new (w.alloc (.cells (txC x).toArray 29)) (.cells z32 26)
 have b1 := ext_alloc (w.alloc (.cells (txC x).toArray 29)) (.cells z32 26)
 rw [World.size_alloc] at h1
 have W1 := hid ((ext_alloc w (.cells (txC x).toArray 29)).trans (b1.mono (ext_alloc w _).size))
 have p0 := hid (rangeBel2 b1 B0.p)
 have js := hid (sizeDxL x.p)
 have jz := hid (sizeDx (fromX x))
 have ez := hid (zDx (fromX x))
 have oz := hid (oneDx (fromX x))
 have hK := hid (fun W hT => PAcKey_any x.p W hT)
 have hD : (keyD x.p).1.map bv = (fromX x).1.map bv := rfl
 rw [hD] at hK
 have hT1 := hid (hT.bel W1.out hT.low)
 replace h1 := hid h1
 clear B0 b1 h0 hD hT
 generalize (fromX x).1.map bv = cz at *
 generalize x.p.1.map bv = cp at *
 generalize txC x = cx at *
 go_enter Tryz.func11, Tryz.ntmps11
 go_wp2_with (first
  | (with_reducible refine wpList_alloc_row rfl 26 rfl z32 info32 ?_)
  | ((with_reducible refine wpList_load_rng rfl 26 (.tmp 3) rfl w.heap.size 0 rfl cp _ ?_ hu rfl js.out ?_); exact p0.out))
 refine (hK.out _ hT1.out).mono ?_
 rintro e w4 ⟨rfl, hb4⟩
 have R4 := hid ((hb4.block _ (block_lt h1.out)).trans h1.out)
 have W4 := hid (W1.out.trans (hb4.mono W1.out.size))
 clear hb4
 go_wp2_with (first
  | ((with_reducible refine wpList_store_row rfl 26 (.tmp 2) (.tmp 5) rfl (w.heap.size + 1) _ rfl rfl 26 z32 ?_ ?_ ?_ ?_ ?_); exact R4.out; exact jz.out; exact ez.out; exact oz.out; intro w6 hg6 hb6 hs6))
 refine bodyPost_ret (v := .agg cz.toArray) ?_ rfl ⟨rfl, ?_⟩
 ·exact results_cell_row Tryz.results11 _ _ (w.heap.size + 1) 26 _ (0, 0) _ rfl hg6 hu rfl jz.out
 ·exact W4.out.grown hb6 W4.out.size (fun g e => by injection e with e; omega)
end
end Go.Proofs.YtmjocmogfckmmaaGreatDoor
