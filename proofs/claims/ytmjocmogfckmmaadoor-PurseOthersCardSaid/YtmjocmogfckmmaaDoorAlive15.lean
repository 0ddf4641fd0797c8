/-
 Layer 15's law: the chapter's first example.
-/
import Derived.Test.YtmjocmogfckmmaaDoorLaw15h
import Derived.Test.YtmjocmogfckmmaaDoorPuE
namespace Go.Proofs.YtmjocmogfckmmaaDoor
open Go.RowKit
set_option linter.unusedVariables false
set_option linter.unusedSimpArgs false
set_option maxRecDepth 100000

theorem payX_ok {n a f : Nat} (hn : n < 18446744073709551616) (ha : a < 18446744073709551616) (hf : f < 18446744073709551616) : (payX n a f).ok := ⟨hn, ha, hf⟩
set_option maxHeartbeats 8000000 in
theorem alive15_any (w : World) (hT : Tab w) : Calls Tryd.prog 11 #[] w fun e w' => e = .returned (.bool true) ∧ Below w.heap.size w w' := by
 have hut := Tryd.underlying27
 have T0 := hid hT
 have hTe := hid (fun W hT => ten_any W hT)
 have hPy := hid (fun W hT => pay15_any 0 7 2 (by decide) (by decide) (by decide) W hT)
 have b2 := hid (show Tryd.prog.built 23 [(0, .int .u8 2)] = some ((dfst 2).1.map bv).toArray from built_dg1 2)
 have b1 := hid (show Tryd.prog.built 23 [(0, .int .u8 1)] = some ((dfst 1).1.map bv).toArray from built_dg1 1)
 have b0 := hid built_dg0h
 have hkm : keyD z0 = kMe := Subtype.ext (show sha256 (tagB 3 [z0.1]) = sha256 (tagB 3 [z0.1]) from rfl)
 have hKy := hid (fun W hT => hkm ▸ PAcKey_any z0 W hT)
 have hP := fun F A c ns root W (ht : Ten ⟨ns, root⟩) hW hT => pay_q F A c ns root (payX 0 7 2) (dfst 2) W (payX_ok (by decide) (by decide) (by decide)) hW (by have := ht.len; dsimp only at this; omega) hT 0 0 (fun o => mayA o = true ∧ o.ns.length ≤ 1800 ∧ getA o kMe = ⟨1, 1⟩ ∧ getA o (dfst 1) = ⟨0, 7⟩ ∧ getA o (dfst 2) = ⟨0, 2⟩) ht.code (ht.pays 7 2) (fun o ho => ht.paid ho)
 have hA1 := fun F A c ns root W (hW : Row F W A ns) (hc : ns.length ≤ 1800) (hm : mayA ⟨ns, root⟩ = true) (hg : getA ⟨ns, root⟩ kMe = ⟨1, 1⟩) => has15_any F A c ns root kMe 1 1 W hW (by omega) hm (by decide) (by decide) true (decide_eq_true hg)
 have hA2 := fun F A c ns root W (hW : Row F W A ns) (hc : ns.length ≤ 1800) (hm : mayA ⟨ns, root⟩ = true) (hg : getA ⟨ns, root⟩ (dfst 1) = ⟨0, 7⟩) => has15_any F A c ns root (dfst 1) 0 7 W hW (by omega) hm (by decide) (by decide) true (decide_eq_true hg)
 have hA3 := fun F A c ns root W (hW : Row F W A ns) (hc : ns.length ≤ 1800) (hm : mayA ⟨ns, root⟩ = true) (hg : getA ⟨ns, root⟩ (dfst 2) = ⟨0, 2⟩) => has15_any F A c ns root (dfst 2) 0 2 W hW (by omega) hm (by decide) (by decide) true (decide_eq_true hg)
 replace hP := hid hP
 replace hA1 := hid hA1
 replace hA2 := hid hA2
 replace hA3 := hid hA3
 clear hT hkm
 generalize hdk : kMe.1.map bv = dk at *
 generalize hd1 : (dfst 1).1.map bv = d1 at *
 generalize hd2 : (dfst 2).1.map bv = d2 at *
 generalize hdz : z0.1.map bv = dz at *
 generalize txC (payX 0 7 2) = cp at *
 clear hdk hd1 hd2 hdz
 go_enter Tryd.func11, Tryd.ntmps11
 go_wp2_with fail
 refine (hTe.out _ T0.out).mono ?_
 rintro e w1 ⟨⟨ns, root⟩, A1, c1, hten, rfl, ho, hb⟩
 dsimp only at ho ⊢
 replace hten := hid hten
 have W1 := hid hb
 have T1 := hid (T0.out.bel hb T0.out.low)
 have R1 := hid (OwnR.row ho)
 clear hb ho T0
 go_wp2_with fail
 refine (hPy.out _ T1.out).mono ?_
 rintro e w2 ⟨rfl, hb⟩
 have W2 := hid (W1.out.trans (hb.mono W1.out.size))
 have T2 := hid (T1.out.bel hb T1.out.low)
 have R2 := hid (R1.out.bel hb)
 clear hb T1 W1 R1
 go_wp2_with (first
  | ((with_reducible refine wpList_built rfl 23 _ rfl d2.toArray [(0, .int .u8 2)] ?_ ?_ ?_); exact b2.out; rfl))
 refine (hP.out _ A1 c1 ns root _ hten.out R2.out T2.out).mono ?_
 rintro e w3 ⟨⟨na, ra⟩, A3, c3, rfl, ho, hb, k1, k2, k3, k4, k5⟩
 dsimp only at ho k2 ⊢
 have W3 := hid (W2.out.trans (hb.mono W2.out.size))
 have T3 := hid (T2.out.bel hb T2.out.low)
 have R3 := hid (OwnR.row ho)
 have e3 := hid (heap_alloc_new w3 (.cells zTrC 27))
 have hi3 := hid (show (Tryd.prog.info? 27).map (·.size) = some ([Value.slice A3 na.length c3, .int .i64 ra]).length from sizeTr)
 replace hA1 := hid (fun F W hW => hA1.out F A3 c3 na ra W hW k2 k1 k3)
 replace hA2 := hid (fun F W hW => hA2.out F A3 c3 na ra W hW k2 k1 k4)
 replace hA3 := hid (fun F W hW => hA3.out F A3 c3 na ra W hW k2 k1 k5)
 clear hb ho T2 W2 R2 hP hten k1 k2 k3 k4 k5
 go_wp2_with (first
  | (with_reducible refine wpList_alloc_row rfl 27 rfl zTrC zInfoTr ?_)
  | ((with_reducible refine wpList_store_row rfl 27 (.tmp 1) (.tmp 9) rfl w3.heap.size _ rfl rfl 27 zTrC ?_ ?_ ?_ ?_ ?_); exact e3.out; exact sizeTr; rfl; exact one_trP A3 na.length c3 ra; intro w4 hgS hbS hsS; have X4 := hid (xnewP rfl hbS); have q4 := hid (rangeOf (l := [Value.slice A3 na.length c3, .int .i64 ra]) hgS); have W4 := hid (W3.out.trans (X4.out.mono W3.out.size)); have T4 := hid (T3.out.bel X4.out T3.out.low); have R4 := hid (R3.out.bel X4.out); clear hgS hbS hsS X4 W3 T3 R3 e3))
 refine wp_region_noPanic ?_
 refine wp_region_held_drew (S := fun w' => Below w4.heap.size w4 w') (by kernel_rfl) ?_ (fun hHeld => ?_)
 ·exact bel_drew w4
 refine' tkL 0 ?_ rfl ?_ ?_
 rotate_left
 ·intro W hSw
  go_simp
  first | done | (with_reducible rfl)
 try simp only [Act.put, sQ]
 refine' tkL 1 ?_ rfl ?_ ?_
 rotate_left
 ·intro W hSw
  go_simp
  first | done | (with_reducible rfl)
 try simp only [Act.put, sQ]
 refine' tkL 2 ?_ rfl ?_ ?_
 rotate_left
 ·intro W hSw
  go_simp
  first | done | (with_reducible rfl)
 try simp only [Act.put, sQ]
 refine' tkL 3 ?_ rfl ?_ ?_
 rotate_left
 ·intro W hSw
  go_simp
  first | done | (with_reducible rfl)
 try simp only [Act.put, sQ]
 refine' tkL 4 ?_ rfl ?_ ?_
 rotate_left
 ·intro W hSw
  go_simp
  first | done | (with_reducible rfl)
 try simp only [Act.put, sQ]
 refine' tkL 5 ?_ rfl ?_ ?_
 rotate_left
 ·intro W hSw
  go_simp
  first | done | (with_reducible rfl)
 try simp only [Act.put, sQ]
 refine' tkL 6 ?_ rfl ?_ ?_
 rotate_left
 ·intro W hSw
  go_simp
  first | done | (with_reducible rfl)
 try simp only [Act.put, sQ]
 refine' tkH 7 rfl (yieldsIf_load_mid (by rfl) _ _ rfl _ _ rfl _ _ (fun _ h => rangeBel2 h q4.out) hut rfl hi3.out) ?_
 try simp only [Act.put, sQ]
 refine' tkH 8 rfl (yieldsIf_build (by rfl) _ _ rfl _ _ (b0.out) rfl) ?_
 try simp only [Act.put, sQ]
 refine wpAnyH_ready (rs := [9]) (by kernel_rfl) (by simp) ?_
 refine AllReadyH.cons (o := _) rfl (fun K hK => ?_) AllReadyH.nil
 go_simp
 refine (hKy.out _ (T4.out.bel hHeld T4.out.low)).mono ?_
 rintro e v1 ⟨rfl, hB⟩
 go_wp2_with fail
 refine hK.out _ _ ?_ (fun hHeld => ?_)
 ·exact hHeld.trans (hB.mono hHeld.size)
 clear hK K
 try simp only [Act.put, sQ]
 refine wpAnyH_ready (rs := [10]) (by kernel_rfl) (by simp) ?_
 refine AllReadyH.cons (o := _) rfl (fun K hK => ?_) AllReadyH.nil
 go_simp
 refine (hA1.out _ _ (R4.out.bel hHeld)).mono ?_
 rintro e v2 ⟨rfl, hB⟩
 go_wp2_with fail
 refine hK.out _ _ ?_ (fun hHeld => ?_)
 ·exact hHeld.trans (hB.mono hHeld.size)
 clear hK K
 try simp only [Act.put, sQ]
 refine' tkL 11 ?_ rfl ?_ ?_
 rotate_left
 ·intro W hSw
  go_simp
  first | done | (with_reducible rfl)
 try simp only [Act.put, sQ]
 refine' tkL 12 ?_ rfl ?_ ?_
 rotate_left
 ·intro W hSw
  go_simp
  first | done | (with_reducible rfl)
 try simp only [Act.put, sQ]
 refine' tkH 13 rfl (yieldsIf_load_mid (by rfl) _ _ rfl _ _ rfl _ _ (fun _ h => rangeBel2 h q4.out) hut rfl hi3.out) ?_
 try simp only [Act.put, sQ]
 refine' tkH 14 rfl (yieldsIf_build (by rfl) _ _ rfl _ _ (b1.out) rfl) ?_
 try simp only [Act.put, sQ]
 refine wpAnyH_ready (rs := [15]) (by kernel_rfl) (by simp) ?_
 refine AllReadyH.cons (o := _) rfl (fun K hK => ?_) AllReadyH.nil
 go_simp
 refine (hA2.out _ _ (R4.out.bel hHeld)).mono ?_
 rintro e v3 ⟨rfl, hB⟩
 go_wp2_with fail
 refine hK.out _ _ ?_ (fun hHeld => ?_)
 ·exact hHeld.trans (hB.mono hHeld.size)
 clear hK K
 try simp only [Act.put, sQ]
 refine' tkL 16 ?_ rfl ?_ ?_
 rotate_left
 ·intro W hSw
  go_simp
  first | done | (with_reducible rfl)
 try simp only [Act.put, sQ]
 refine' tkL 17 ?_ rfl ?_ ?_
 rotate_left
 ·intro W hSw
  go_simp
  first | done | (with_reducible rfl)
 try simp only [Act.put, sQ]
 refine' tkH 18 rfl (yieldsIf_load_mid (by rfl) _ _ rfl _ _ rfl _ _ (fun _ h => rangeBel2 h q4.out) hut rfl hi3.out) ?_
 try simp only [Act.put, sQ]
 refine' tkH 19 rfl (yieldsIf_build (by rfl) _ _ rfl _ _ (b2.out) rfl) ?_
 try simp only [Act.put, sQ]
 refine wpAnyH_ready (rs := [20]) (by kernel_rfl) (by simp) ?_
 refine AllReadyH.cons (o := _) rfl (fun K hK => ?_) AllReadyH.nil
 go_simp
 refine (hA3.out _ _ (R4.out.bel hHeld)).mono ?_
 rintro e v4 ⟨rfl, hB⟩
 go_wp2_with fail
 refine hK.out _ _ ?_ (fun hHeld => ?_)
 ·exact hHeld.trans (hB.mono hHeld.size)
 clear hK K
 try simp only [Act.put, sQ]
 refine' tkL 21 ?_ rfl ?_ ?_
 rotate_left
 ·intro W hSw
  go_simp
  first | done | (with_reducible rfl)
 try simp only [Act.put, sQ]
 refine' tkL 22 ?_ rfl ?_ ?_
 rotate_left
 ·intro W hSw
  go_simp
  first | done | (with_reducible rfl)
 try simp only [Act.put, sQ]
 refine wpAnyH_done (by kernel_rfl) ?_ _
 refine NoPanic.normal ?_
 go_wp2
 go_ret
 exact ⟨rfl, W4.out.trans (hHeld.mono W4.out.size)⟩
end Go.Proofs.YtmjocmogfckmmaaDoor
