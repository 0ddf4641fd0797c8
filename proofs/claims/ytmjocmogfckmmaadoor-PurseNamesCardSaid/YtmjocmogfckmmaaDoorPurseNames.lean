/-
  The Go function PurseNames returns true: the errors' numbers, and the chapter's examples.
  Conditions: none. The frame around the walk was written by program (proof-skeleton.mjs).
-/
import Derived.Test.YtmjocmogfckmmaaDoorRows
import Derived.Test.YtmjocmogfckmmaaDoorDoor
import Derived.WalkKit
import Derived.ProofKit
import Derived.OpenShut
import Derived.ShutString
import Derived.ChangeOld
import Derived.Below
import Derived.Test.YtmjocmogfckmmaaDoorAlive15
import Derived.Test.YtmjocmogfckmmaaDoorPuB
import Derived.Test.YtmjocmogfckmmaaDoorStX
namespace Go.Proofs.YtmjocmogfckmmaaDoor.purseNames
open Go.ChangeShapes Go.WideShapes Go.ChangeAt Go.RowKit
open Go.ChangeMaps (open_string shut_string)
set_option linter.unusedVariables false      -- a walk need not use every 'w<i>' (that an integer argument fits its kind)

theorem own : ownKnob Tryd.prog.godebug = none := by kernel_rfl

/-! ### the walk -/
open Go.Proofs.YtmjocmogfckmmaaDoor
theorem placesDpN : Places Tryd.prog 38 (.agg (dpC ⟨0, z0, 0⟩).toArray) [(0, 1), (1, 32), (33, 1)] := by unfold Places; kernel_rfl
theorem built_dpN (d : Dg) (a : Nat) : Tryd.prog.built 38 [(1, .agg (d.1.map bv).toArray), (2, .int .u64 (a : Int))] = some (dpC ⟨0, d, a⟩).toArray := by
  rw [built_places placesDpN]
  have h := fill_all (place := fun i => ([(0, 1), (1, 32), (33, 1)] : List (Nat × Nat)).toArray[i]?) [z0.1.map bv, [.int .u64 0]] [.agg (d.1.map bv).toArray, .int .u64 (a : Int)] 1 [.int .u64 0] (by
    have lz : ∀ d : Dg, (d.1.map bv).length = 32 := len_dgv
    refine ⟨?_, ?_, ?_, ?_, trivial⟩ <;> simp [lz, Value.cells])
  exact h
set_option linter.unusedSimpArgs false
set_option maxRecDepth 100000 in
set_option maxHeartbeats 16000000 in
theorem walk  (w : World) (hT : Tab w) :
    Calls Tryd.prog 3 #[] w fun e w' => e = .returned (.bool true) ∧ Below w.heap.size w w' := by
  have hut := Tryd.underlying27
  have hu := Tryd.underlying23
  have hlow := hid hT.low
  have H0 := hid hT
  have W0 := hid (Below.refl w.heap.size w)
  have hTe := hid (fun W hT => ten_any W hT)
  have hAl := hid (fun W hT => alive15_any W hT)
  have hY1 := hid (fun W hT => pay15_any 0 9 2 (by decide) (by decide) (by decide) W hT)
  have hY2 := hid (fun W hT => pay15_any 0 18446744073709551615 1 (by decide) (by decide) (by decide) W hT)
  have hY3 := hid (fun W hT => pay15_any 1 1 1 (by decide) (by decide) (by decide) W hT)
  have b2 := hid (show Tryd.prog.built 23 [(0, .int .u8 2)] = some ((dfst 2).1.map bv).toArray from built_dg1 2)
  have b1 := hid (show Tryd.prog.built 23 [(0, .int .u8 1)] = some ((dfst 1).1.map bv).toArray from built_dg1 1)
  have b0 := hid built_dg0h
  have bX := hid (show Tryd.prog.built 34 [] = some (txC zX).toArray from built_tx0)
  have hkm : keyD z0 = kMe := Subtype.ext (show sha256 (tagB 3 [z0.1]) = sha256 (tagB 3 [z0.1]) from rfl)
  have hKy := hid (fun W hT => hkm ▸ PAcKey_any z0 W hT)
  have hP1 := hid (fun F A c ns root W (ht : Ten ⟨ns, root⟩) hW hT => pay_q F A c ns root (payX 0 9 2) (dfst 2) W (payX_ok (by decide) (by decide) (by decide)) hW (by have := ht.len; dsimp only at this; omega) hT 150 0 (fun o => mayA o = true ∧ o.ns.length ≤ 1800 ∧ getA o kMe = ⟨1, 10⟩ ∧ getA o (dfst 1) = ac0) (ht.poor (by decide) _) (ht.pays 9 2) (fun o ho => ht.bare (by decide) ho))
  have hP2 := hid (fun F A c ns root W (ht : Ten ⟨ns, root⟩) hW hT => pay_q F A c ns root (payX 0 18446744073709551615 1) (dfst 2) W (payX_ok (by decide) (by decide) (by decide)) hW (by have := ht.len; dsimp only at this; omega) hT 150 0 (fun o => True) (ht.poor (by decide) _) (ht.pays _ _) (fun o ho => trivial))
  have hP3 := hid (fun F A c ns root W (ht : Ten ⟨ns, root⟩) hW hT => pay_q F A c ns root (payX 1 1 1) (dfst 2) W (payX_ok (by decide) (by decide) (by decide)) hW (by have := ht.len; dsimp only at this; omega) hT (payTC ⟨ns, root⟩ (payX 1 1 1) (dfst 2)) 2 (fun o => True) rfl (ht.late 1 1) (fun o ho => trivial))
  have hP4 := hid (fun F A c ns root W (ht : Ten ⟨ns, root⟩) hW hT => pay_q F A c ns root zX (dfst 2) W (show zX.ok from ⟨by decide, by decide, by decide⟩) hW (by have := ht.len; dsimp only at this; omega) hT (payTC ⟨ns, root⟩ zX (dfst 2)) 110 (fun o => True) rfl (ht.bareX zX unsigned0) (fun o ho => trivial))
  have hGv := hid (fun F A c ns root W (ht : Ten ⟨ns, root⟩) hW => give_q F A c ns root ⟨0, kMe, 18446744073709551615⟩ W ⟨by decide, by decide⟩ hW (by have := ht.len; dsimp only at this; omega) 151 0 (fun o => True) (ht.over ⟨0, kMe, 18446744073709551615⟩ rfl rfl) (ht.gives ⟨0, kMe, 18446744073709551615⟩) (fun o ho => trivial))
  have bD := hid (built_dpN kMe 18446744073709551615)
  have hA1 := hid (fun (o : Tr) (F : Nat → Prop) (A : Option Addr) (c : Nat) (W : World) (hW : Row F W A o.ns) (hm : mayA o = true) (hc : o.ns.length ≤ 1800) (hg : getA o kMe = ⟨1, 10⟩) => has15_any F A c o.ns o.root kMe 1 10 W hW (by omega) hm (by decide) (by decide) true (decide_eq_true hg))
  have hA2 := hid (fun (o : Tr) (F : Nat → Prop) (A : Option Addr) (c : Nat) (W : World) (hW : Row F W A o.ns) (hm : mayA o = true) (hc : o.ns.length ≤ 1800) (hg : getA o (dfst 1) = ac0) => has15_any F A c o.ns o.root (dfst 1) 0 0 W hW (by omega) hm (by decide) (by decide) true (decide_eq_true hg))
  clear hT hkm
  generalize kMe = me at *
  generalize hd1 : (dfst 1).1.map bv = d1 at *
  generalize hd2 : (dfst 2).1.map bv = d2 at *
  generalize hdz : z0.1.map bv = dz at *
  generalize txC zX = cz at *
  generalize txC (payX 0 9 2) = y1 at *
  generalize txC (payX 0 18446744073709551615 1) = y2 at *
  generalize txC (payX 1 1 1) = y3 at *
  generalize dpC ⟨0, me, 18446744073709551615⟩ = cd at *
  have hiM := hid (sizeDgT me)
  clear hd1 hd2 hdz
  go_enter Tryd.func3, Tryd.ntmps3
  go_wp2_with (first
    | ((with_reducible refine wpList_built rfl 23 _ rfl dz.toArray [] ?_ ?_ ?_); exact b0.out; rfl))
  refine (hKy.out _ H0.out).mono ?_
  rintro e w1 ⟨rfl, hb⟩
  have H1 := hid (H0.out.bel hb (Nat.lt_of_lt_of_le hlow.out W0.out.size))
  have W1 := hid (W0.out.trans (hb.mono W0.out.size))
  clear H0 W0
  clear hb 
  have e1 := hid (heap_alloc_new w1 (.cells z32 23))
  go_wp2_with (first
    | (with_reducible refine wpList_alloc_row rfl 23 rfl z32 info32 ?_)
    | ((with_reducible refine wpList_store_row rfl 23 (.tmp 1) (.tmp 18) rfl _ _ rfl rfl 23 z32 ?_ ?_ ?_ ?_ ?_); exact e1.out; exact sizeDgA me; exact zDg me; exact oneDg me; intro w2 hgS hbS hsS; have X2 := hid (xnewP rfl hbS); have D2 := hid (rangeOf (l := me.1.map bv) hgS); clear hgS hbS hsS; have H2 := hid (H1.out.bel X2.out (Nat.lt_of_lt_of_le hlow.out W1.out.size)); have W2 := hid (W1.out.trans (X2.out.mono W1.out.size)); clear H1 W1))
  refine (hTe.out _ H2.out).mono ?_
  rintro e w3 ⟨⟨nt3, rt3⟩, at3, ct3, hten, rfl, ho, hb⟩
  dsimp only at ho ⊢
  have H3 := hid (H2.out.bel hb (Nat.lt_of_lt_of_le hlow.out W2.out.size))
  have W3 := hid (W2.out.trans (hb.mono W2.out.size))
  have D3 := hid (rangeBel2 hb D2.out)
  clear H2 W2 D2
  replace hten := hid hten
  have K3 := hid (OwnR.row ho)
  clear hb ho
  go_wp2_with fail
  refine (hY1.out _ H3.out).mono ?_
  rintro e w4 ⟨rfl, hb⟩
  have H4 := hid (H3.out.bel hb (Nat.lt_of_lt_of_le hlow.out W3.out.size))
  have W4 := hid (W3.out.trans (hb.mono W3.out.size))
  have D4 := hid (rangeBel2 hb D3.out)
  have K4 := hid (K3.out.bel hb)
  clear H3 W3 D3 K3
  clear hb 
  go_wp2_with (first
    | ((with_reducible refine wpList_built rfl 23 _ rfl d2.toArray [(0, .int .u8 2)] ?_ ?_ ?_); exact b2.out; rfl))
  refine (hP1.out _ at3 ct3 nt3 rt3 _ hten.out K4.out H4.out).mono ?_
  rintro e w5 ⟨⟨na5, ra5⟩, ad5, cd5, rfl, ho, hb, k1, k2, k3, k4⟩
  dsimp only at ho k2 ⊢
  have H5 := hid (H4.out.bel hb (Nat.lt_of_lt_of_le hlow.out W4.out.size))
  have W5 := hid (W4.out.trans (hb.mono W4.out.size))
  have D5 := hid (rangeBel2 hb D4.out)
  have K5 := hid (K4.out.bel hb)
  clear H4 W4 D4 K4
  have E5 := hid (OwnR.row ho)
  have hA1' := hid (fun F W hW => hA1.out ⟨na5, ra5⟩ F ad5 cd5 W hW k1 k2 k3)
  have hA2' := hid (fun F W hW => hA2.out ⟨na5, ra5⟩ F ad5 cd5 W hW k1 k2 k4)
  dsimp only at hA1' hA2'
  clear hb ho k1 k2 k3 k4 hten K5 hA1 hA2 hP1 hY1
  have e5 := hid (heap_alloc_new w5 (.cells zTrC 27))
  have hiF := hid (show (Tryd.prog.info? 27).map (·.size) = some ([Value.slice ad5 na5.length cd5, .int .i64 ra5]).length from sizeTr)
  go_wp2_with (first
    | (with_reducible refine wpList_alloc_row rfl 27 rfl zTrC zInfoTr ?_)
    | ((with_reducible refine wpList_store_row rfl 27 (.tmp 2) (.tmp 24) rfl _ _ rfl rfl 27 zTrC ?_ ?_ ?_ ?_ ?_); exact e5.out; exact sizeTr; rfl; exact one_trP ad5 na5.length cd5 ra5; intro w6 hgS hbS hsS; have X6 := hid (xnewP rfl hbS); have lt6 := hid (block_lt hgS); have F6 := hid (BoxT.of (rangeOf (l := [Value.slice ad5 na5.length cd5, .int .i64 ra5]) hgS)); clear hgS hbS hsS; have H6 := hid (H5.out.bel X6.out (Nat.lt_of_lt_of_le hlow.out W5.out.size)); have W6 := hid (W5.out.trans (X6.out.mono W5.out.size)); have D6 := hid (rangeBel2 X6.out D5.out); have E6 := hid (E5.out.bel X6.out); clear H5 W5 D5 E5))
  refine (hTe.out _ H6.out).mono ?_
  rintro e w7 ⟨⟨nt7, rt7⟩, at7, ct7, hten, rfl, ho, hb⟩
  dsimp only at ho ⊢
  have H7 := hid (H6.out.bel hb (Nat.lt_of_lt_of_le hlow.out W6.out.size))
  have W7 := hid (W6.out.trans (hb.mono W6.out.size))
  have D7 := hid (rangeBel2 hb D6.out)
  have E7 := hid (E6.out.bel hb)
  have F7 := hid (F6.out.bel hb)
  clear H6 W6 D6 E6 F6
  replace hten := hid hten
  have K7 := hid (OwnR.row ho)
  clear hb ho
  go_wp2_with fail
  refine (hY2.out _ H7.out).mono ?_
  rintro e w8 ⟨rfl, hb⟩
  have H8 := hid (H7.out.bel hb (Nat.lt_of_lt_of_le hlow.out W7.out.size))
  have W8 := hid (W7.out.trans (hb.mono W7.out.size))
  have D8 := hid (rangeBel2 hb D7.out)
  have E8 := hid (E7.out.bel hb)
  have F8 := hid (F7.out.bel hb)
  have K8 := hid (K7.out.bel hb)
  clear H7 W7 D7 E7 F7 K7
  clear hb 
  go_wp2_with (first
    | ((with_reducible refine wpList_built rfl 23 _ rfl d2.toArray [(0, .int .u8 2)] ?_ ?_ ?_); exact b2.out; rfl))
  refine (hP2.out _ at7 ct7 nt7 rt7 _ hten.out K8.out H8.out).mono ?_
  rintro e w9 ⟨⟨na9, ra9⟩, ad9, cd9, rfl, ho, hb, -⟩
  dsimp only at ho ⊢
  have H9 := hid (H8.out.bel hb (Nat.lt_of_lt_of_le hlow.out W8.out.size))
  have W9 := hid (W8.out.trans (hb.mono W8.out.size))
  have D9 := hid (rangeBel2 hb D8.out)
  have E9 := hid (E8.out.bel hb)
  have F9 := hid (F8.out.bel hb)
  have K9 := hid (K8.out.bel hb)
  clear H8 W8 D8 E8 F8 K8
  clear hb ho hten K9 hP2
  have e9 := hid (heap_alloc_new w9 (.cells zTrC 27))
  have hiP := hid (show (Tryd.prog.info? 27).map (·.size) = some ([Value.slice ad9 na9.length cd9, .int .i64 ra9]).length from sizeTr)
  go_wp2_with (first
    | (with_reducible refine wpList_alloc_row rfl 27 rfl zTrC zInfoTr ?_)
    | ((with_reducible refine wpList_store_row rfl 27 (.tmp 5) (.tmp 32) rfl _ _ rfl rfl 27 zTrC ?_ ?_ ?_ ?_ ?_); exact e9.out; exact sizeTr; rfl; exact one_trP ad9 na9.length cd9 ra9; intro w10 hgS hbS hsS; have X10 := hid (xnewP rfl hbS); have lt10 := hid (block_lt hgS); have P10 := hid (BoxT.of (rangeOf (l := [Value.slice ad9 na9.length cd9, .int .i64 ra9]) hgS)); clear hgS hbS hsS; have H10 := hid (H9.out.bel X10.out (Nat.lt_of_lt_of_le hlow.out W9.out.size)); have W10 := hid (W9.out.trans (X10.out.mono W9.out.size)); have D10 := hid (rangeBel2 X10.out D9.out); have E10 := hid (E9.out.bel X10.out); have F10 := hid (F9.out.bel X10.out); clear H9 W9 D9 E9 F9))
  clear P10
  refine (hTe.out _ H10.out).mono ?_
  rintro e w11 ⟨⟨nt11, rt11⟩, at11, ct11, hten, rfl, ho, hb⟩
  dsimp only at ho ⊢
  have H11 := hid (H10.out.bel hb (Nat.lt_of_lt_of_le hlow.out W10.out.size))
  have W11 := hid (W10.out.trans (hb.mono W10.out.size))
  have D11 := hid (rangeBel2 hb D10.out)
  have E11 := hid (E10.out.bel hb)
  have F11 := hid (F10.out.bel hb)
  clear H10 W10 D10 E10 F10
  replace hten := hid hten
  have K11 := hid (OwnR.row ho)
  clear hb ho
  go_wp2_with fail
  refine (hY3.out _ H11.out).mono ?_
  rintro e w12 ⟨rfl, hb⟩
  have H12 := hid (H11.out.bel hb (Nat.lt_of_lt_of_le hlow.out W11.out.size))
  have W12 := hid (W11.out.trans (hb.mono W11.out.size))
  have D12 := hid (rangeBel2 hb D11.out)
  have E12 := hid (E11.out.bel hb)
  have F12 := hid (F11.out.bel hb)
  have K12 := hid (K11.out.bel hb)
  clear H11 W11 D11 E11 F11 K11
  clear hb 
  go_wp2_with (first
    | ((with_reducible refine wpList_built rfl 23 _ rfl d2.toArray [(0, .int .u8 2)] ?_ ?_ ?_); exact b2.out; rfl))
  refine (hP3.out _ at11 ct11 nt11 rt11 _ hten.out K12.out H12.out).mono ?_
  rintro e w13 ⟨⟨na13, ra13⟩, ad13, cd13, rfl, ho, hb, -⟩
  dsimp only at ho ⊢
  have H13 := hid (H12.out.bel hb (Nat.lt_of_lt_of_le hlow.out W12.out.size))
  have W13 := hid (W12.out.trans (hb.mono W12.out.size))
  have D13 := hid (rangeBel2 hb D12.out)
  have E13 := hid (E12.out.bel hb)
  have F13 := hid (F12.out.bel hb)
  have K13 := hid (K12.out.bel hb)
  clear H12 W12 D12 E12 F12 K12
  generalize payTC ⟨nt11, rt11⟩ (payX 1 1 1) (dfst 2) = pc11 at *
  clear hb ho hten K13 hP3
  have e13 := hid (heap_alloc_new w13 (.cells zTrC 27))
  have hiQ := hid (show (Tryd.prog.info? 27).map (·.size) = some ([Value.slice ad13 na13.length cd13, .int .i64 ra13]).length from sizeTr)
  go_wp2_with (first
    | (with_reducible refine wpList_alloc_row rfl 27 rfl zTrC zInfoTr ?_)
    | ((with_reducible refine wpList_store_row rfl 27 (.tmp 8) (.tmp 40) rfl _ _ rfl rfl 27 zTrC ?_ ?_ ?_ ?_ ?_); exact e13.out; exact sizeTr; rfl; exact one_trP ad13 na13.length cd13 ra13; intro w14 hgS hbS hsS; have X14 := hid (xnewP rfl hbS); have lt14 := hid (block_lt hgS); have Q14 := hid (BoxT.of (rangeOf (l := [Value.slice ad13 na13.length cd13, .int .i64 ra13]) hgS)); clear hgS hbS hsS; have H14 := hid (H13.out.bel X14.out (Nat.lt_of_lt_of_le hlow.out W13.out.size)); have W14 := hid (W13.out.trans (X14.out.mono W13.out.size)); have D14 := hid (rangeBel2 X14.out D13.out); have E14 := hid (E13.out.bel X14.out); have F14 := hid (F13.out.bel X14.out); clear H13 W13 D13 E13 F13))
  clear Q14
  refine wp_region_noPanic ?_
  refine wp_region_held_drew (S := fun w' => Below w14.heap.size w14 w') (by kernel_rfl) ?_ (fun hHeld => ?_)
  · exact bel_drew w14
  refine' tkH 1 rfl (yieldsIf_load_mid (by rfl) _ _ rfl _ _ rfl _ _ (fun _ h => rangeBel2 h D14.out) hu rfl hiM.out) ?_
  try simp only [Act.put, sQ]
  refine' tkH 2 rfl (yieldsIf_build (by rfl) _ _ rfl _ _ (bD.out) rfl) ?_
  try simp only [Act.put, sQ]
  refine wpAnyH_ready (rs := [0, 8]) (by kernel_rfl) (by simp) ?_
  refine AllReadyH.cons (o := _) rfl (fun K hK => ?_) ?_
  · skip
    go_simp
    refine (hTe.out _ (H14.out.bel hHeld (Nat.lt_of_lt_of_le hlow.out W14.out.size))).mono ?_
    rintro e v0 ⟨⟨nt0, rt0⟩, at0, ct0, hten, rfl, ho, hB⟩
    dsimp only at ho ⊢
    replace hten := hid hten
    have bz := hid (OwnR.row ho)
    have hB0 := hB
    go_wp2_with fail
    refine hK.out _ _ ?_ (fun hHeld => ?_)
    · exact hHeld.trans (hB.mono hHeld.size)
    clear hK K
    try simp only [Act.put, sQ]
    refine wpAnyH_ready (rs := [3, 8]) (by kernel_rfl) (by simp) ?_
    refine AllReadyH.cons (o := _) rfl (fun K hK => ?_) ?_
    · skip
      go_simp
      refine (hGv.out _ at0 ct0 nt0 rt0 _ hten.out (by first | exact bz.out | exact bz.out.bel hB7)).mono ?_
      rintro e v3 ⟨⟨nq, rq⟩, aq, cq, rfl, ho, hB, -⟩
      dsimp only at ho ⊢
      have hB3 := hB
      go_wp2_with fail
      refine hK.out _ _ ?_ (fun hHeld => ?_)
      · exact hHeld.trans (hB.mono hHeld.size)
      clear hK K
      try simp only [Act.put, sQ]
      refine' tkL 4 ?_ rfl ?_ ?_
      rotate_left
      · intro W hSw
        go_simp
        first | done | (with_reducible rfl)
      try simp only [Act.put, sQ]
      refine' tkL 5 ?_ rfl ?_ ?_
      rotate_left
      · intro W hSw
        go_simp
        first | done | (with_reducible rfl)
      try simp only [Act.put, sQ]
      refine' tkL 6 ?_ rfl ?_ ?_
      rotate_left
      · intro W hSw
        go_simp
        first | done | (with_reducible rfl)
      try simp only [Act.put, sQ]
      refine' tkL 7 ?_ rfl ?_ ?_
      rotate_left
      · intro W hSw
        go_simp
        first | done | (with_reducible rfl)
      try simp only [Act.put, sQ]
      refine wpAnyH_ready (rs := [8]) (by kernel_rfl) (by simp) ?_
      refine AllReadyH.cons (o := _) rfl (fun K hK => ?_) AllReadyH.nil
      refine step_alloc_rowT rfl 27 rfl zTrC zInfoTr ?_
      intro g6 v7 b6 e6 hB
      have z6 := Nat.le_trans hHeld.size b6
      have hB7 := hB
      refine hK.out _ _ ?_ (fun hHeld => ?_)
      · exact hHeld.trans (hB.mono hHeld.size)
      clear hK K
      try simp only [Act.put, sQ]
      refine wpAnyH_ready (rs := [9]) (by kernel_rfl) (by simp) ?_
      refine AllReadyH.cons (o := _) rfl (fun K hK => ?_) AllReadyH.nil
      refine step_store_rowT rfl 27 (.tmp 11) (.tmp 48) rfl g6 _ rfl rfl 27 zTrC (by first | exact e6 | exact (hB3.block _ (block_lt e6)).trans e6 | exact (hB3.block _ (block_lt ((hB0.block _ (block_lt e6)).trans e6))).trans ((hB0.block _ (block_lt e6)).trans e6)) sizeTr rfl (one_trP aq nq.length cq rq) ?_
      intro w15 d6 hG
      refine hK.out _ _ ?_ (fun hHeld => ?_)
      · exact hHeld.grown hG hHeld.size (by intro k hk; injection hk with hk; subst hk; exact z6)
      clear hK K
      try simp only [Act.put, sQ]
      refine' tkL 10 ?_ rfl ?_ ?_
      rotate_left
      · intro W hSw
        go_simp
        first | done | (with_reducible rfl)
      try simp only [Act.put, sQ]
      refine' tkL 11 ?_ rfl ?_ ?_
      rotate_left
      · intro W hSw
        go_simp
        first | done | (with_reducible rfl)
      try simp only [Act.put, sQ]
      refine wpAnyH_done (by kernel_rfl) ?_ _
      refine NoPanic.normal ?_
      have H15 := hid (H14.out.bel hHeld (Nat.lt_of_lt_of_le hlow.out W14.out.size))
      have W15 := hid (W14.out.trans (hHeld.mono W14.out.size))
      have D15 := hid (rangeBel2 hHeld D14.out)
      have E15 := hid (E14.out.bel hHeld)
      have F15 := hid (F14.out.bel hHeld)
      clear H14 W14 D14 E14 F14
      clear hHeld d6 hG b6 z6 hten
      try clear hB
      try clear e6
      go_wp2_with fail
      refine (hTe.out _ H15.out).mono ?_
      rintro e w16 ⟨⟨nt16, rt16⟩, at16, ct16, hten, rfl, ho, hb⟩
      dsimp only at ho ⊢
      have H16 := hid (H15.out.bel hb (Nat.lt_of_lt_of_le hlow.out W15.out.size))
      have W16 := hid (W15.out.trans (hb.mono W15.out.size))
      have D16 := hid (rangeBel2 hb D15.out)
      have E16 := hid (E15.out.bel hb)
      have F16 := hid (F15.out.bel hb)
      clear H15 W15 D15 E15 F15
      replace hten := hid hten
      have K16 := hid (OwnR.row ho)
      clear hb ho
      go_wp2_with (first
        | ((with_reducible refine wpList_built rfl 34 _ rfl cz.toArray [] ?_ ?_ ?_); exact bX.out; rfl)
        | ((with_reducible refine wpList_built rfl 23 _ rfl d2.toArray [(0, .int .u8 2)] ?_ ?_ ?_); exact b2.out; rfl))
      refine (hP4.out _ at16 ct16 nt16 rt16 _ hten.out K16.out H16.out).mono ?_
      rintro e w17 ⟨⟨na17, ra17⟩, ad17, cd17, rfl, ho, hb, -⟩
      dsimp only at ho ⊢
      have H17 := hid (H16.out.bel hb (Nat.lt_of_lt_of_le hlow.out W16.out.size))
      have W17 := hid (W16.out.trans (hb.mono W16.out.size))
      have D17 := hid (rangeBel2 hb D16.out)
      have E17 := hid (E16.out.bel hb)
      have F17 := hid (F16.out.bel hb)
      have K17 := hid (K16.out.bel hb)
      clear H16 W16 D16 E16 F16 K16
      generalize payTC ⟨nt16, rt16⟩ zX (dfst 2) = pc16 at *
      clear hb ho hten K17 hP4
      have e17 := hid (heap_alloc_new w17 (.cells zTrC 27))
      have hiQ := hid (show (Tryd.prog.info? 27).map (·.size) = some ([Value.slice ad17 na17.length cd17, .int .i64 ra17]).length from sizeTr)
      go_wp2_with (first
        | (with_reducible refine wpList_alloc_row rfl 27 rfl zTrC zInfoTr ?_)
        | ((with_reducible refine wpList_store_row rfl 27 (.tmp 14) (.tmp 56) rfl _ _ rfl rfl 27 zTrC ?_ ?_ ?_ ?_ ?_); exact e17.out; exact sizeTr; rfl; exact one_trP ad17 na17.length cd17 ra17; intro w18 hgS hbS hsS; have X18 := hid (xnewP rfl hbS); have lt18 := hid (block_lt hgS); have Q18 := hid (BoxT.of (rangeOf (l := [Value.slice ad17 na17.length cd17, .int .i64 ra17]) hgS)); clear hgS hbS hsS; have H18 := hid (H17.out.bel X18.out (Nat.lt_of_lt_of_le hlow.out W17.out.size)); have W18 := hid (W17.out.trans (X18.out.mono W17.out.size)); have D18 := hid (rangeBel2 X18.out D17.out); have E18 := hid (E17.out.bel X18.out); have F18 := hid (F17.out.bel X18.out); clear H17 W17 D17 E17 F17))
      clear Q18
      refine (hAl.out _ H18.out).mono ?_
      rintro e w19 ⟨rfl, hb⟩
      have H19 := hid (H18.out.bel hb (Nat.lt_of_lt_of_le hlow.out W18.out.size))
      have W19 := hid (W18.out.trans (hb.mono W18.out.size))
      have D19 := hid (rangeBel2 hb D18.out)
      have E19 := hid (E18.out.bel hb)
      have F19 := hid (F18.out.bel hb)
      clear H18 W18 D18 E18 F18
      clear hb 
      go_wp2_with (first
        | ((with_reducible refine wpList_load_rng ?_ 27 (.tmp 2) rfl w5.heap.size 0 rfl [Value.slice ad5 na5.length cd5, .int .i64 ra5] _ ?_ hut rfl hiF.out ?_); rfl; exact F19.out.all)
        | ((with_reducible refine wpList_load_rng ?_ 23 (.tmp 1) rfl w1.heap.size 0 rfl (me.1.map bv) _ ?_ hu rfl hiM.out ?_); rfl; exact D19.out))
      refine (hA1'.out _ _ E19.out).mono ?_
      rintro e w20 ⟨rfl, hb⟩
      have H20 := hid (H19.out.bel hb (Nat.lt_of_lt_of_le hlow.out W19.out.size))
      have W20 := hid (W19.out.trans (hb.mono W19.out.size))
      have D20 := hid (rangeBel2 hb D19.out)
      have E20 := hid (E19.out.bel hb)
      have F20 := hid (F19.out.bel hb)
      clear H19 W19 D19 E19 F19
      clear hb 
      go_wp2_with (first
        | ((with_reducible refine wpList_load_rng ?_ 27 (.tmp 2) rfl w5.heap.size 0 rfl [Value.slice ad5 na5.length cd5, .int .i64 ra5] _ ?_ hut rfl hiF.out ?_); rfl; exact F20.out.all)
        | ((with_reducible refine wpList_built ?_ 23 _ rfl d1.toArray [(0, .int .u8 1)] ?_ ?_ ?_); rfl; exact b1.out; rfl))
      refine (hA2'.out _ _ E20.out).mono ?_
      rintro e w21 ⟨rfl, hb⟩
      have H21 := hid (H20.out.bel hb (Nat.lt_of_lt_of_le hlow.out W20.out.size))
      have W21 := hid (W20.out.trans (hb.mono W20.out.size))
      have D21 := hid (rangeBel2 hb D20.out)
      have E21 := hid (E20.out.bel hb)
      have F21 := hid (F20.out.bel hb)
      clear H20 W20 D20 E20 F20
      clear hb 
      go_wp2
      go_ret
      exact ⟨rfl, W21.out⟩
    refine AllReadyH.cons (o := _) rfl (fun K hK => ?_) ?_
    · skip
      refine step_alloc_rowT rfl 27 rfl zTrC zInfoTr ?_
      intro g6 v7 b6 e6 hB
      have z6 := Nat.le_trans hHeld.size b6
      have hB7 := hB
      refine hK.out _ _ ?_ (fun hHeld => ?_)
      · exact hHeld.trans (hB.mono hHeld.size)
      clear hK K
      try simp only [Act.put, sQ]
      refine wpAnyH_ready (rs := [3]) (by kernel_rfl) (by simp) ?_
      refine AllReadyH.cons (o := _) rfl (fun K hK => ?_) AllReadyH.nil
      go_simp
      refine (hGv.out _ at0 ct0 nt0 rt0 _ hten.out (by first | exact bz.out | exact bz.out.bel hB7)).mono ?_
      rintro e v3 ⟨⟨nq, rq⟩, aq, cq, rfl, ho, hB, -⟩
      dsimp only at ho ⊢
      have hB3 := hB
      go_wp2_with fail
      refine hK.out _ _ ?_ (fun hHeld => ?_)
      · exact hHeld.trans (hB.mono hHeld.size)
      clear hK K
      try simp only [Act.put, sQ]
      refine' tkL 4 ?_ rfl ?_ ?_
      rotate_left
      · intro W hSw
        go_simp
        first | done | (with_reducible rfl)
      try simp only [Act.put, sQ]
      refine' tkL 5 ?_ rfl ?_ ?_
      rotate_left
      · intro W hSw
        go_simp
        first | done | (with_reducible rfl)
      try simp only [Act.put, sQ]
      refine' tkL 6 ?_ rfl ?_ ?_
      rotate_left
      · intro W hSw
        go_simp
        first | done | (with_reducible rfl)
      try simp only [Act.put, sQ]
      refine' tkL 7 ?_ rfl ?_ ?_
      rotate_left
      · intro W hSw
        go_simp
        first | done | (with_reducible rfl)
      try simp only [Act.put, sQ]
      refine wpAnyH_ready (rs := [9]) (by kernel_rfl) (by simp) ?_
      refine AllReadyH.cons (o := _) rfl (fun K hK => ?_) AllReadyH.nil
      refine step_store_rowT rfl 27 (.tmp 11) (.tmp 48) rfl g6 _ rfl rfl 27 zTrC (by first | exact e6 | exact (hB3.block _ (block_lt e6)).trans e6 | exact (hB3.block _ (block_lt ((hB0.block _ (block_lt e6)).trans e6))).trans ((hB0.block _ (block_lt e6)).trans e6)) sizeTr rfl (one_trP aq nq.length cq rq) ?_
      intro w15 d6 hG
      refine hK.out _ _ ?_ (fun hHeld => ?_)
      · exact hHeld.grown hG hHeld.size (by intro k hk; injection hk with hk; subst hk; exact z6)
      clear hK K
      try simp only [Act.put, sQ]
      refine' tkL 10 ?_ rfl ?_ ?_
      rotate_left
      · intro W hSw
        go_simp
        first | done | (with_reducible rfl)
      try simp only [Act.put, sQ]
      refine' tkL 11 ?_ rfl ?_ ?_
      rotate_left
      · intro W hSw
        go_simp
        first | done | (with_reducible rfl)
      try simp only [Act.put, sQ]
      refine wpAnyH_done (by kernel_rfl) ?_ _
      refine NoPanic.normal ?_
      have H15 := hid (H14.out.bel hHeld (Nat.lt_of_lt_of_le hlow.out W14.out.size))
      have W15 := hid (W14.out.trans (hHeld.mono W14.out.size))
      have D15 := hid (rangeBel2 hHeld D14.out)
      have E15 := hid (E14.out.bel hHeld)
      have F15 := hid (F14.out.bel hHeld)
      clear H14 W14 D14 E14 F14
      clear hHeld d6 hG b6 z6 hten
      try clear hB
      try clear e6
      go_wp2_with fail
      refine (hTe.out _ H15.out).mono ?_
      rintro e w16 ⟨⟨nt16, rt16⟩, at16, ct16, hten, rfl, ho, hb⟩
      dsimp only at ho ⊢
      have H16 := hid (H15.out.bel hb (Nat.lt_of_lt_of_le hlow.out W15.out.size))
      have W16 := hid (W15.out.trans (hb.mono W15.out.size))
      have D16 := hid (rangeBel2 hb D15.out)
      have E16 := hid (E15.out.bel hb)
      have F16 := hid (F15.out.bel hb)
      clear H15 W15 D15 E15 F15
      replace hten := hid hten
      have K16 := hid (OwnR.row ho)
      clear hb ho
      go_wp2_with (first
        | ((with_reducible refine wpList_built rfl 34 _ rfl cz.toArray [] ?_ ?_ ?_); exact bX.out; rfl)
        | ((with_reducible refine wpList_built rfl 23 _ rfl d2.toArray [(0, .int .u8 2)] ?_ ?_ ?_); exact b2.out; rfl))
      refine (hP4.out _ at16 ct16 nt16 rt16 _ hten.out K16.out H16.out).mono ?_
      rintro e w17 ⟨⟨na17, ra17⟩, ad17, cd17, rfl, ho, hb, -⟩
      dsimp only at ho ⊢
      have H17 := hid (H16.out.bel hb (Nat.lt_of_lt_of_le hlow.out W16.out.size))
      have W17 := hid (W16.out.trans (hb.mono W16.out.size))
      have D17 := hid (rangeBel2 hb D16.out)
      have E17 := hid (E16.out.bel hb)
      have F17 := hid (F16.out.bel hb)
      have K17 := hid (K16.out.bel hb)
      clear H16 W16 D16 E16 F16 K16
      generalize payTC ⟨nt16, rt16⟩ zX (dfst 2) = pc16 at *
      clear hb ho hten K17 hP4
      have e17 := hid (heap_alloc_new w17 (.cells zTrC 27))
      have hiQ := hid (show (Tryd.prog.info? 27).map (·.size) = some ([Value.slice ad17 na17.length cd17, .int .i64 ra17]).length from sizeTr)
      go_wp2_with (first
        | (with_reducible refine wpList_alloc_row rfl 27 rfl zTrC zInfoTr ?_)
        | ((with_reducible refine wpList_store_row rfl 27 (.tmp 14) (.tmp 56) rfl _ _ rfl rfl 27 zTrC ?_ ?_ ?_ ?_ ?_); exact e17.out; exact sizeTr; rfl; exact one_trP ad17 na17.length cd17 ra17; intro w18 hgS hbS hsS; have X18 := hid (xnewP rfl hbS); have lt18 := hid (block_lt hgS); have Q18 := hid (BoxT.of (rangeOf (l := [Value.slice ad17 na17.length cd17, .int .i64 ra17]) hgS)); clear hgS hbS hsS; have H18 := hid (H17.out.bel X18.out (Nat.lt_of_lt_of_le hlow.out W17.out.size)); have W18 := hid (W17.out.trans (X18.out.mono W17.out.size)); have D18 := hid (rangeBel2 X18.out D17.out); have E18 := hid (E17.out.bel X18.out); have F18 := hid (F17.out.bel X18.out); clear H17 W17 D17 E17 F17))
      clear Q18
      refine (hAl.out _ H18.out).mono ?_
      rintro e w19 ⟨rfl, hb⟩
      have H19 := hid (H18.out.bel hb (Nat.lt_of_lt_of_le hlow.out W18.out.size))
      have W19 := hid (W18.out.trans (hb.mono W18.out.size))
      have D19 := hid (rangeBel2 hb D18.out)
      have E19 := hid (E18.out.bel hb)
      have F19 := hid (F18.out.bel hb)
      clear H18 W18 D18 E18 F18
      clear hb 
      go_wp2_with (first
        | ((with_reducible refine wpList_load_rng ?_ 27 (.tmp 2) rfl w5.heap.size 0 rfl [Value.slice ad5 na5.length cd5, .int .i64 ra5] _ ?_ hut rfl hiF.out ?_); rfl; exact F19.out.all)
        | ((with_reducible refine wpList_load_rng ?_ 23 (.tmp 1) rfl w1.heap.size 0 rfl (me.1.map bv) _ ?_ hu rfl hiM.out ?_); rfl; exact D19.out))
      refine (hA1'.out _ _ E19.out).mono ?_
      rintro e w20 ⟨rfl, hb⟩
      have H20 := hid (H19.out.bel hb (Nat.lt_of_lt_of_le hlow.out W19.out.size))
      have W20 := hid (W19.out.trans (hb.mono W19.out.size))
      have D20 := hid (rangeBel2 hb D19.out)
      have E20 := hid (E19.out.bel hb)
      have F20 := hid (F19.out.bel hb)
      clear H19 W19 D19 E19 F19
      clear hb 
      go_wp2_with (first
        | ((with_reducible refine wpList_load_rng ?_ 27 (.tmp 2) rfl w5.heap.size 0 rfl [Value.slice ad5 na5.length cd5, .int .i64 ra5] _ ?_ hut rfl hiF.out ?_); rfl; exact F20.out.all)
        | ((with_reducible refine wpList_built ?_ 23 _ rfl d1.toArray [(0, .int .u8 1)] ?_ ?_ ?_); rfl; exact b1.out; rfl))
      refine (hA2'.out _ _ E20.out).mono ?_
      rintro e w21 ⟨rfl, hb⟩
      have H21 := hid (H20.out.bel hb (Nat.lt_of_lt_of_le hlow.out W20.out.size))
      have W21 := hid (W20.out.trans (hb.mono W20.out.size))
      have D21 := hid (rangeBel2 hb D20.out)
      have E21 := hid (E20.out.bel hb)
      have F21 := hid (F20.out.bel hb)
      clear H20 W20 D20 E20 F20
      clear hb 
      go_wp2
      go_ret
      exact ⟨rfl, W21.out⟩
    exact AllReadyH.nil
  refine AllReadyH.cons (o := _) rfl (fun K hK => ?_) ?_
  · skip
    refine step_alloc_rowT rfl 27 rfl zTrC zInfoTr ?_
    intro g6 v7 b6 e6 hB
    have z6 := Nat.le_trans hHeld.size b6
    have hB7 := hB
    refine hK.out _ _ ?_ (fun hHeld => ?_)
    · exact hHeld.trans (hB.mono hHeld.size)
    clear hK K
    try simp only [Act.put, sQ]
    refine wpAnyH_ready (rs := [0]) (by kernel_rfl) (by simp) ?_
    refine AllReadyH.cons (o := _) rfl (fun K hK => ?_) AllReadyH.nil
    go_simp
    refine (hTe.out _ (H14.out.bel hHeld (Nat.lt_of_lt_of_le hlow.out W14.out.size))).mono ?_
    rintro e v0 ⟨⟨nt0, rt0⟩, at0, ct0, hten, rfl, ho, hB⟩
    dsimp only at ho ⊢
    replace hten := hid hten
    have bz := hid (OwnR.row ho)
    have hB0 := hB
    go_wp2_with fail
    refine hK.out _ _ ?_ (fun hHeld => ?_)
    · exact hHeld.trans (hB.mono hHeld.size)
    clear hK K
    try simp only [Act.put, sQ]
    refine wpAnyH_ready (rs := [3]) (by kernel_rfl) (by simp) ?_
    refine AllReadyH.cons (o := _) rfl (fun K hK => ?_) AllReadyH.nil
    go_simp
    refine (hGv.out _ at0 ct0 nt0 rt0 _ hten.out (by first | exact bz.out | exact bz.out.bel hB7)).mono ?_
    rintro e v3 ⟨⟨nq, rq⟩, aq, cq, rfl, ho, hB, -⟩
    dsimp only at ho ⊢
    have hB3 := hB
    go_wp2_with fail
    refine hK.out _ _ ?_ (fun hHeld => ?_)
    · exact hHeld.trans (hB.mono hHeld.size)
    clear hK K
    try simp only [Act.put, sQ]
    refine' tkL 4 ?_ rfl ?_ ?_
    rotate_left
    · intro W hSw
      go_simp
      first | done | (with_reducible rfl)
    try simp only [Act.put, sQ]
    refine' tkL 5 ?_ rfl ?_ ?_
    rotate_left
    · intro W hSw
      go_simp
      first | done | (with_reducible rfl)
    try simp only [Act.put, sQ]
    refine' tkL 6 ?_ rfl ?_ ?_
    rotate_left
    · intro W hSw
      go_simp
      first | done | (with_reducible rfl)
    try simp only [Act.put, sQ]
    refine' tkL 7 ?_ rfl ?_ ?_
    rotate_left
    · intro W hSw
      go_simp
      first | done | (with_reducible rfl)
    try simp only [Act.put, sQ]
    refine wpAnyH_ready (rs := [9]) (by kernel_rfl) (by simp) ?_
    refine AllReadyH.cons (o := _) rfl (fun K hK => ?_) AllReadyH.nil
    refine step_store_rowT rfl 27 (.tmp 11) (.tmp 48) rfl g6 _ rfl rfl 27 zTrC (by first | exact e6 | exact (hB3.block _ (block_lt e6)).trans e6 | exact (hB3.block _ (block_lt ((hB0.block _ (block_lt e6)).trans e6))).trans ((hB0.block _ (block_lt e6)).trans e6)) sizeTr rfl (one_trP aq nq.length cq rq) ?_
    intro w15 d6 hG
    refine hK.out _ _ ?_ (fun hHeld => ?_)
    · exact hHeld.grown hG hHeld.size (by intro k hk; injection hk with hk; subst hk; exact z6)
    clear hK K
    try simp only [Act.put, sQ]
    refine' tkL 10 ?_ rfl ?_ ?_
    rotate_left
    · intro W hSw
      go_simp
      first | done | (with_reducible rfl)
    try simp only [Act.put, sQ]
    refine' tkL 11 ?_ rfl ?_ ?_
    rotate_left
    · intro W hSw
      go_simp
      first | done | (with_reducible rfl)
    try simp only [Act.put, sQ]
    refine wpAnyH_done (by kernel_rfl) ?_ _
    refine NoPanic.normal ?_
    have H15 := hid (H14.out.bel hHeld (Nat.lt_of_lt_of_le hlow.out W14.out.size))
    have W15 := hid (W14.out.trans (hHeld.mono W14.out.size))
    have D15 := hid (rangeBel2 hHeld D14.out)
    have E15 := hid (E14.out.bel hHeld)
    have F15 := hid (F14.out.bel hHeld)
    clear H14 W14 D14 E14 F14
    clear hHeld d6 hG b6 z6 hten
    try clear hB
    try clear e6
    go_wp2_with fail
    refine (hTe.out _ H15.out).mono ?_
    rintro e w16 ⟨⟨nt16, rt16⟩, at16, ct16, hten, rfl, ho, hb⟩
    dsimp only at ho ⊢
    have H16 := hid (H15.out.bel hb (Nat.lt_of_lt_of_le hlow.out W15.out.size))
    have W16 := hid (W15.out.trans (hb.mono W15.out.size))
    have D16 := hid (rangeBel2 hb D15.out)
    have E16 := hid (E15.out.bel hb)
    have F16 := hid (F15.out.bel hb)
    clear H15 W15 D15 E15 F15
    replace hten := hid hten
    have K16 := hid (OwnR.row ho)
    clear hb ho
    go_wp2_with (first
      | ((with_reducible refine wpList_built rfl 34 _ rfl cz.toArray [] ?_ ?_ ?_); exact bX.out; rfl)
      | ((with_reducible refine wpList_built rfl 23 _ rfl d2.toArray [(0, .int .u8 2)] ?_ ?_ ?_); exact b2.out; rfl))
    refine (hP4.out _ at16 ct16 nt16 rt16 _ hten.out K16.out H16.out).mono ?_
    rintro e w17 ⟨⟨na17, ra17⟩, ad17, cd17, rfl, ho, hb, -⟩
    dsimp only at ho ⊢
    have H17 := hid (H16.out.bel hb (Nat.lt_of_lt_of_le hlow.out W16.out.size))
    have W17 := hid (W16.out.trans (hb.mono W16.out.size))
    have D17 := hid (rangeBel2 hb D16.out)
    have E17 := hid (E16.out.bel hb)
    have F17 := hid (F16.out.bel hb)
    have K17 := hid (K16.out.bel hb)
    clear H16 W16 D16 E16 F16 K16
    generalize payTC ⟨nt16, rt16⟩ zX (dfst 2) = pc16 at *
    clear hb ho hten K17 hP4
    have e17 := hid (heap_alloc_new w17 (.cells zTrC 27))
    have hiQ := hid (show (Tryd.prog.info? 27).map (·.size) = some ([Value.slice ad17 na17.length cd17, .int .i64 ra17]).length from sizeTr)
    go_wp2_with (first
      | (with_reducible refine wpList_alloc_row rfl 27 rfl zTrC zInfoTr ?_)
      | ((with_reducible refine wpList_store_row rfl 27 (.tmp 14) (.tmp 56) rfl _ _ rfl rfl 27 zTrC ?_ ?_ ?_ ?_ ?_); exact e17.out; exact sizeTr; rfl; exact one_trP ad17 na17.length cd17 ra17; intro w18 hgS hbS hsS; have X18 := hid (xnewP rfl hbS); have lt18 := hid (block_lt hgS); have Q18 := hid (BoxT.of (rangeOf (l := [Value.slice ad17 na17.length cd17, .int .i64 ra17]) hgS)); clear hgS hbS hsS; have H18 := hid (H17.out.bel X18.out (Nat.lt_of_lt_of_le hlow.out W17.out.size)); have W18 := hid (W17.out.trans (X18.out.mono W17.out.size)); have D18 := hid (rangeBel2 X18.out D17.out); have E18 := hid (E17.out.bel X18.out); have F18 := hid (F17.out.bel X18.out); clear H17 W17 D17 E17 F17))
    clear Q18
    refine (hAl.out _ H18.out).mono ?_
    rintro e w19 ⟨rfl, hb⟩
    have H19 := hid (H18.out.bel hb (Nat.lt_of_lt_of_le hlow.out W18.out.size))
    have W19 := hid (W18.out.trans (hb.mono W18.out.size))
    have D19 := hid (rangeBel2 hb D18.out)
    have E19 := hid (E18.out.bel hb)
    have F19 := hid (F18.out.bel hb)
    clear H18 W18 D18 E18 F18
    clear hb 
    go_wp2_with (first
      | ((with_reducible refine wpList_load_rng ?_ 27 (.tmp 2) rfl w5.heap.size 0 rfl [Value.slice ad5 na5.length cd5, .int .i64 ra5] _ ?_ hut rfl hiF.out ?_); rfl; exact F19.out.all)
      | ((with_reducible refine wpList_load_rng ?_ 23 (.tmp 1) rfl w1.heap.size 0 rfl (me.1.map bv) _ ?_ hu rfl hiM.out ?_); rfl; exact D19.out))
    refine (hA1'.out _ _ E19.out).mono ?_
    rintro e w20 ⟨rfl, hb⟩
    have H20 := hid (H19.out.bel hb (Nat.lt_of_lt_of_le hlow.out W19.out.size))
    have W20 := hid (W19.out.trans (hb.mono W19.out.size))
    have D20 := hid (rangeBel2 hb D19.out)
    have E20 := hid (E19.out.bel hb)
    have F20 := hid (F19.out.bel hb)
    clear H19 W19 D19 E19 F19
    clear hb 
    go_wp2_with (first
      | ((with_reducible refine wpList_load_rng ?_ 27 (.tmp 2) rfl w5.heap.size 0 rfl [Value.slice ad5 na5.length cd5, .int .i64 ra5] _ ?_ hut rfl hiF.out ?_); rfl; exact F20.out.all)
      | ((with_reducible refine wpList_built ?_ 23 _ rfl d1.toArray [(0, .int .u8 1)] ?_ ?_ ?_); rfl; exact b1.out; rfl))
    refine (hA2'.out _ _ E20.out).mono ?_
    rintro e w21 ⟨rfl, hb⟩
    have H21 := hid (H20.out.bel hb (Nat.lt_of_lt_of_le hlow.out W20.out.size))
    have W21 := hid (W20.out.trans (hb.mono W20.out.size))
    have D21 := hid (rangeBel2 hb D20.out)
    have E21 := hid (E20.out.bel hb)
    have F21 := hid (F20.out.bel hb)
    clear H20 W20 D20 E20 F20
    clear hb 
    go_wp2
    go_ret
    exact ⟨rfl, W21.out⟩
  exact AllReadyH.nil

/-! ### WHAT THE WALK GIVES, FOR EVERY ARGUMENT AND EVERY WORLD THAT HOLDS THE TABLE -/
set_option maxRecDepth 100000 in
theorem contract (H : Type) (enc : TypeId × Value → H) (W : World) (base : Nat) (args : Array Value) (ds gs : List (DataW H)) (before : List MemPlace)
    (hval0 : ∀ (j : Nat) t v, Tryd.f3.params[j]? = some t → args[j]? = some v → Value.okWide Tryd.prog W .any base t v)
    (hW : DataW.Whole enc Tryd.prog Tryd.f3.params.toList Rows.purseNamesSpec.vars false W args.toList ds gs before) (hL : laidMetH Tryd.prog Rows.purseNamesRow.laid W) :
    Calls Tryd.prog 3 args W fun e W' => ∃ v, e = .returned v ∧ Rows.purseNamesSpec.post enc Tryd.prog Tryd.f3 false true false false W args v W' := by
  have hval : ∀ (j : Nat) t v, Tryd.f3.params[j]? = some t → args[j]? = some v → Value.okWide Tryd.prog W .any base t v := hval0
  have hW' := hW
  obtain ⟨p, q, hA0, hV, rfl, hfz, hnd⟩ := hW
  have hA : DataW.TrodAll enc Tryd.prog W 0 (fun _ => true) true Tryd.f3.params.toList args.toList ds p := hA0
  rw [Tryd.params3] at hA hval
  obtain ⟨rfl, rfl, rfl⟩ := trodAll_none hA
  obtain ⟨rfl, rfl⟩ := trodVars_none hV
  clear hA0 hval0
  refine (walk  W (tab_of hL)).mono fun e W' ⟨he, bel⟩ => ?_
  subst he
  exact ⟨_, rfl, _, _, _, [], _, [], hW', trodAll_mk1 (shut_bool Tryd.underlying4 _), trodAll_mk0, rfl, bel.frame _, fun h => by cases h⟩

theorem laid_met (os : Os) : laidMet Tryd.prog Rows.purseNamesRow.laid ((laidWorld os).forCall (fun _ _ => 0) ⟨#[], #[], []⟩).memory :=
  laidMet_of_run' 8 (by kernel_rfl) (by kernel_rfl)
theorem reads (os : Os) {H : Type} (enc : TypeId × Value → H) : ∃ places, DataW.whole enc Tryd.prog ((laidWorld os).forCall (fun _ _ => 0) ⟨#[], #[], []⟩).memory Tryd.f3.params.toList Rows.purseNamesSpec.vars false (#[] : Array Value).toList 8 = some ([], [], places) :=
  ⟨[], by kernel_rfl⟩
set_option maxRecDepth 100000 in
theorem lifted (os : Os) (started : os.Started) (H : Type) (enc : TypeId × Value → H) (F : Stop.Interp) :
    ReturnsInHanded {} Tryd.checked os 3 .any ((OpenSpec.ofChange Rows.purseNamesSpec).preRow enc Tryd.prog Tryd.f3 Rows.purseNamesRow.domain false Rows.purseNamesRow.laid) (((OpenSpec.ofChange Rows.purseNamesSpec).at F).post enc Tryd.prog Tryd.f3 false true false false) := by
  obtain ⟨places, hx⟩ := reads os enc
  refine returnsInHanded_of_row (C := Tryd.checked) (s := OpenSpec.ofChange Rows.purseNamesSpec) own started (by kernel_rfl) Tryd.func3
    (witness_row_at (enc := enc) (C := Tryd.checked) false (laidWorld os) #[] rfl (by kernel_rfl) (by kernel_rfl) (by kernel_rfl)
      (OpenSpec.preRow_of_cond 8 hx (by kernel_rfl) (fun k hk => by cases hk) (by kernel_rfl) (laid_met os))) ?_
  intro W base args ds gs before hval hW _ _ _ hL _ _
  exact contract H enc W base args ds gs before hval hW hL
theorem said : Rows.PurseNamesSaid :=
  OpenClaim.holds_of_cond 3 Tryd.f3 rfl rfl rfl rfl rfl rfl rfl ⟨rfl, rfl, rfl, rfl, rfl⟩ rfl rfl rfl rfl rfl (by kernel_rfl) Tryd.func3 (by kernel_rfl)
    (of_decide_eq_true (by kernel_rfl)) (by unfold Func.isWrapper; first | (rw [if_pos (by decide +kernel)]; kernel_rfl) | (rw [if_neg (by decide +kernel)]; exact ⟨rfl, rfl⟩))
    (fun os started H enc _ F => by rw [OpenClaim.pre_eq_preRow]; exact lifted os started H enc F)
set_option maxRecDepth 100000 in
/-- No parameter wants a stand-in; the program's own looks are off: what the card asks. -/
theorem plain (f : FuncId) (fn : Func) (hf : Tryd.pinned.checked.prog.funcNamed "beadroll/beadrolllaw15.PurseNames" = some f) (hfn : Tryd.pinned.checked.prog.funcs[f]? = some fn) :
    false = Tryd.pinned.checked.prog.looks [] ∧ ∀ (j : Nat) t, fn.params[j]? = some t → Tryd.pinned.checked.prog.wantsStandIn t = false := by
  obtain rfl : f = 3 := Option.some.inj ((show Tryd.prog.funcNamed "beadroll/beadrolllaw15.PurseNames" = some 3 by kernel_rfl).symm.trans hf) |>.symm
  obtain rfl : fn = Tryd.f3 := (Option.some.inj (Tryd.func3.symm.trans hfn)).symm
  refine ⟨by kernel_rfl, fun j t ht => ?_⟩
  rw [Tryd.params3] at ht
  simp at ht
set_option maxRecDepth 100000 in
/-- ████ THE CARD ████ -/
theorem proved : Rows.PurseNamesCardSaid :=
  Claim7.holds_tied_plain_at .later [] _ _ _ _ said (fun _ h => by cases h) (by kernel_rfl) (fun _ h => by cases h) purseNames_row_tie rfl ⟨rfl, rfl⟩ (by kernel_rfl) rfl plain (by kernel_rfl)
#print axioms proved
end Go.Proofs.YtmjocmogfckmmaaDoor.purseNames
