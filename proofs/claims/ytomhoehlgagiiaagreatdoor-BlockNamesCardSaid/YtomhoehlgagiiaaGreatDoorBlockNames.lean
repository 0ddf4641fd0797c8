/-
  The Go function BlockNames returns true: the limit's and errors' numbers, and the chapter's examples.
  Conditions: none. The frame around the walk was written by program (proof-skeleton.mjs).
-/
import Derived.Test.YtomhoehlgagiiaaGreatDoorRows
import Derived.Test.YtomhoehlgagiiaaGreatDoorDoor
import Derived.WalkKit
import Derived.ProofKit
import Derived.OpenShut
import Derived.ShutString
import Derived.ChangeOld
import Derived.Below
import Derived.Test.YtomhoehlgagiiaaGreatDoorAlive16
import Derived.Test.YtomhoehlgagiiaaGreatDoorBkV
import Derived.Test.YtomhoehlgagiiaaGreatDoorStX
namespace Go.Proofs.YtomhoehlgagiiaaGreatDoor.blockNames
open Go.ChangeShapes Go.WideShapes Go.ChangeAt Go.RowKit
open Go.ChangeMaps (open_string shut_string)
set_option linter.unusedVariables false      -- a walk need not use every 'w<i>' (that an integer argument fits its kind)

theorem own : ownKnob Tryz.prog.godebug = none := by kernel_rfl

/-! ### the walk -/
open Go.Proofs.YtomhoehlgagiiaaGreatDoor
set_option linter.unusedSimpArgs false
set_option maxRecDepth 100000 in
set_option maxHeartbeats 16000000 in
theorem walk  (w : World) (hT : Tab w) :
    Calls Tryz.prog 3 #[] w fun e w' => e = .returned (.bool true) ∧ Below w.heap.size w w' := by
  have hut := Tryz.underlying24
  have hu := Tryz.underlying26
  have huh := Tryz.underlying28
  have hux := Tryz.underlying39
  have H0 := hid hT
  have hlow := hid hT.low
  have W0 := hid (Below.refl w.heap.size w)
  have hAl := hid (fun W hT => Zg9 W hT)
  have hSi := fun W hT => Zc2 zX ⟨by decide, by decide, by decide⟩ W hT
  have hA1 := hid (fun g W (hD : Row (fun _ => True) W (some ⟨g, 0, none⟩) (List.replicate 17 zDp)) hT => Zd6 (fun _ => False) (fun _ => True) (fun _ => True) none 0 [] 0 zH (some ⟨g, 0, none⟩) 17 (List.replicate 17 zDp) none 0 [] zBox W Zgg (Row.nil _ _ _) (by simp) hD (Row.nil _ _ _) (by simp) (by simp) hT 4 zH [] (fun _ => True) (ZpH zDp) (Zeg (ZpH zDp) (by decide)).1 (Zeg (ZpH zDp) (by decide)).2 (fun _ _ => trivial))
  have hA2 := hid (fun g W (hX : Row (fun _ => True) W (some ⟨g, 0, none⟩) [zX]) hT => Zd6 (fun _ => False) (fun _ => True) (fun _ => True) none 0 [] 0 zH none 0 [] (some ⟨g, 0, none⟩) 1 [zX] zBox W Zgg (Row.nil _ _ _) (by simp) (Row.nil _ _ _) hX (by simp) (by simp) hT 110 zH [] (fun _ => True) ((ZkY _ (by simp)).trans (ZtV zX Zko)) (Zeg ((ZkY _ (by simp)).trans (ZtV zX Zko)) (by decide)).1 (Zeg ((ZkY _ (by simp)).trans (ZtV zX Zko)) (by decide)).2 (fun _ _ => trivial))
  have hxx : (signX zX).n = 0 := rfl
  have hxo : (signX zX).ok := ⟨by show (0 : Nat) < _; decide, by show (0 : Nat) < _; decide, by show (0 : Nat) < _; decide⟩
  have hxs := Yfs zX
  obtain ⟨sx, hsx⟩ : ∃ y, signX zX = y := ⟨_, rfl⟩
  rw [hsx] at hSi hxx hxs hxo
  clear hsx
  have hA3 := hid (fun g W (hX : Row (fun _ => True) W (some ⟨g, 0, none⟩) [sx, sx]) hT => Zd6 (fun _ => False) (fun _ => True) (fun _ => True) none 0 [] 0 zH none 0 [] (some ⟨g, 0, none⟩) 2 [sx, sx] zBox W Zgg (Row.nil _ _ _) (by simp) (Row.nil _ _ _) hX (by simp) (by simp) hT 2 zH [] (fun _ => True) ((ZkY _ (by simp)).trans (Zns sx hxs hxx)) (Zeg ((ZkY _ (by simp)).trans (Zns sx hxs hxx)) (by decide)).1 (Zeg ((ZkY _ (by simp)).trans (Zns sx hxs hxx)) (by decide)).2 (fun _ _ => trivial))
  have hA4 := hid (fun W hT => Zd6 (fun _ => False) (fun _ => True) (fun _ => True) none 0 [] 0 hiH none 0 [] none 0 [] zBox W YiC (Row.nil _ _ _) (by simp) (Row.nil _ _ _) (Row.nil _ _ _) (by simp) (by simp) hT 8 zH [] (fun _ => True) (ZpG) (Zeg (ZpG) (by decide)).1 (Zeg (ZpG) (by decide)).2 (fun _ _ => trivial))
  have b0 := hid (show Tryz.prog.built 26 [] = some (zBox.1.map bv).toArray by kernel_rfl)
  have bT := hid (show Tryz.prog.built 24 [] = some zTrC by kernel_rfl)
  have bH := hid (show Tryz.prog.built 28 [] = some (hdC zH).toArray from Zcc)
  have bHi := hid ZyF
  have bX := hid (show Tryz.prog.built 39 [] = some (txC zX).toArray from Zfa)
  have bB := hid ZmQ
  have bB0 := hid (fun (A : Option Addr) (n c : Nat) => ZmR A n c)
  have bB1 := hid (fun (A : Option Addr) (n c : Nat) => (show Tryz.prog.built 36 [(1, .slice A n c)] = some #[.slice none 0 0, .slice A n c] by kernel_rfl))
  replace hSi := hid hSi
  replace hxo := hid hxo
  clear hT hxx hxs
  have nh0 := hid (ZbM (zH))
  have jh0 := hid (Zbu (zH))
  have ah0 := hid (Zbg (zH))
  have zh0 := hid (Zbw (zH))
  obtain ⟨h0, hh0⟩ : ∃ y, zH = y := ⟨_, rfl⟩
  rw [hh0] at nh0 jh0 ah0 zh0
  have nsx := hid (Zdw sx)
  have jsx := hid (Zby sx)
  have asx := hid (Zb2 sx)
  have zsx := hid (ZcS sx)
  rw [hh0] at hA1 hA2 hA3 hA4 bH
  clear hh0
  obtain ⟨csx, hcs⟩ : ∃ c, txC sx = c := ⟨_, rfl⟩
  rw [hcs] at hSi nsx jsx asx zsx
  replace hcs := hid hcs.symm
  generalize zBox.1.map bv = dz at *
  generalize hdC hiH = chi at *
  generalize txC zX = cz at *
  go_enter Tryz.func3, Tryz.ntmps3
  go_wp2_with (first
    | ((with_reducible refine Zaf rfl 24 _ rfl zTrC [] ?_ ?_ ?_); exact bT.out; rfl; try simp only [sQ])
    | ((with_reducible refine Zaf rfl 28 _ rfl (hdC h0).toArray [] ?_ ?_ ?_); exact bH.out; rfl; try simp only [sQ])
    | ((with_reducible refine Zqm rfl _ _ rfl 17 rfl rfl ?_ ?_); decide; intro g1 w1 hg1 r1 b1; have X1 := hid b1; have V1 := hid r1; clear b1 r1; have H1 := hid (H0.out.bel X1.out (Nat.lt_of_lt_of_le hlow.out W0.out.size)); have W1 := hid (W0.out.trans (X1.out.mono W0.out.size)); clear H0 W0; try simp only [sQ])
    | ((with_reducible refine Zaf rfl 36 _ rfl #[.slice (some ⟨g1, 0, none⟩) 17 17, .slice none 0 0] [(0, .slice (some ⟨g1, 0, none⟩) 17 17)] ?_ ?_ ?_); exact bB0.out _ _ _; rfl; try simp only [sQ])
    | ((with_reducible refine Zaf rfl 26 _ rfl dz.toArray [] ?_ ?_ ?_); exact b0.out; rfl; try simp only [sQ]))
  refine (hA1.out _ _ V1.out H1.out).mono ?_
  rintro e w2 ⟨⟨na2, ra2⟩, ad2, cd2, Rr2, rq2, rfl, ho, hq, hb, hok2⟩
  dsimp only at ho hok2 ⊢
  have H2 := hid (H1.out.bel hb (Nat.lt_of_lt_of_le hlow.out W1.out.size))
  have W2 := hid (W1.out.trans (hb.mono W1.out.size))
  have V2 := hid (V1.out.bel hb)
  clear H1 W1 V1
  have E2 := hid (OwnR.row ho)
  have Y2 := hid (OwnR.row hq)
  replace hok2 := hid hok2
  clear hb ho hq hA1
  clear E2
  clear Y2
  clear V2
  have ea2 := hid (((Zad (w2.alloc (.cells zTrC 24)) (.cells zHdC 28)).block _ (by rw [World.size_alloc]; exact Nat.lt_succ_self _)).trans (heap_alloc_new w2 (.cells zTrC 24)))
  have eb2 := heap_alloc_new (w2.alloc (.cells zTrC 24)) (.cells zHdC 28)
  rw [World.size_alloc] at eb2
  replace eb2 := hid eb2
  have hW2 := hid (Zag (Zad w2 (.cells zTrC 24)) (Zad (w2.alloc (.cells zTrC 24)) (.cells zHdC 28)))
  have hiF := hid (show (Tryz.prog.info? 24).map (·.size) = some ([Value.slice ad2 na2.length cd2, .int .i64 ra2]).length from Zah)
  go_wp2_with (first
    | (with_reducible refine Zac rfl 24 rfl zTrC Zas ?_)
    | (with_reducible refine Zac rfl 28 rfl zHdC Za9 ?_)
    | ((with_reducible refine wpList_store_row rfl 24 (.tmp 1) (.tmp 25) rfl _ _ rfl rfl 24 zTrC ?_ ?_ ?_ ?_ ?_); exact ea2.out; exact Zah; rfl; exact Zat ad2 na2.length cd2 ra2; intro w3a g1 b1 s1; refine wpList_store_row rfl 28 (.tmp 2) (.tmp 26) rfl (w2.heap.size + 1) _ ?_ rfl 28 zHdC ?_ ?_ ?_ ?_ ?_; (first | rfl | (simp only [World.size_alloc]; rfl)); exact (b1.block _ (block_lt eb2.out) (by simp)).trans eb2.out; exact ah0.out; exact zh0.out; exact nh0.out; intro w3 g2 b2 s2; have X3a := hW2.out.grown b1 hW2.out.size (fun k e => by injection e with e; omega); have X3 := hid (X3a.grown b2 X3a.size (fun k e => by injection e with e; omega)); have F3 := hid (BoxT.of (Zae (l := [Value.slice ad2 na2.length cd2, .int .i64 ra2]) ((b2.block _ (block_lt g1) (by simp)).trans g1))); have G3 := hid (Zae (l := hdC h0) g2); clear g1 b1 s1 g2 b2 s2 X3a ea2 eb2 hW2; have H3 := hid (H2.out.bel X3.out (Nat.lt_of_lt_of_le hlow.out W2.out.size)); have W3 := hid (W2.out.trans (X3.out.mono W2.out.size)); clear H2 W2; clear F3 G3)
    | ((with_reducible refine Zaf rfl 24 _ rfl zTrC [] ?_ ?_ ?_); exact bT.out; rfl; try simp only [sQ])
    | ((with_reducible refine Zaf rfl 28 _ rfl (hdC h0).toArray [] ?_ ?_ ?_); exact bH.out; rfl; try simp only [sQ])
    | ((with_reducible refine Zqn rfl _ _ rfl 1 rfl rfl ?_ ?_); decide; intro g4 w4 hg4 r4 b4; have X4 := hid b4; have V4 := hid r4; clear b4 r4; have H4 := hid (H3.out.bel X4.out (Nat.lt_of_lt_of_le hlow.out W3.out.size)); have W4 := hid (W3.out.trans (X4.out.mono W3.out.size)); clear H3 W3; try simp only [sQ])
    | ((with_reducible refine Zaf rfl 36 _ rfl #[.slice none 0 0, .slice (some ⟨g4, 0, none⟩) 1 1] [(1, .slice (some ⟨g4, 0, none⟩) 1 1)] ?_ ?_ ?_); exact bB1.out _ _ _; rfl; try simp only [sQ])
    | ((with_reducible refine Zaf rfl 26 _ rfl dz.toArray [] ?_ ?_ ?_); exact b0.out; rfl; try simp only [sQ]))
  refine (hA2.out _ _ V4.out H4.out).mono ?_
  rintro e w5 ⟨⟨na5, ra5⟩, ad5, cd5, Rr5, rq5, rfl, ho, hq, hb, hok5⟩
  dsimp only at ho hok5 ⊢
  have H5 := hid (H4.out.bel hb (Nat.lt_of_lt_of_le hlow.out W4.out.size))
  have W5 := hid (W4.out.trans (hb.mono W4.out.size))
  have V5 := hid (V4.out.bel hb)
  clear H4 W4 V4
  have E5 := hid (OwnR.row ho)
  have Y5 := hid (OwnR.row hq)
  replace hok5 := hid hok5
  clear hb ho hq hA2
  clear E5
  clear Y5
  clear V5
  have ea5 := hid (((Zad (w5.alloc (.cells zTrC 24)) (.cells zHdC 28)).block _ (by rw [World.size_alloc]; exact Nat.lt_succ_self _)).trans (heap_alloc_new w5 (.cells zTrC 24)))
  have eb5 := heap_alloc_new (w5.alloc (.cells zTrC 24)) (.cells zHdC 28)
  rw [World.size_alloc] at eb5
  replace eb5 := hid eb5
  have hW5 := hid (Zag (Zad w5 (.cells zTrC 24)) (Zad (w5.alloc (.cells zTrC 24)) (.cells zHdC 28)))
  have hiF := hid (show (Tryz.prog.info? 24).map (·.size) = some ([Value.slice ad5 na5.length cd5, .int .i64 ra5]).length from Zah)
  go_wp2_with (first
    | (with_reducible refine Zac rfl 24 rfl zTrC Zas ?_)
    | (with_reducible refine Zac rfl 28 rfl zHdC Za9 ?_)
    | ((with_reducible refine wpList_store_row rfl 24 (.tmp 5) (.tmp 36) rfl _ _ rfl rfl 24 zTrC ?_ ?_ ?_ ?_ ?_); exact ea5.out; exact Zah; rfl; exact Zat ad5 na5.length cd5 ra5; intro w6a g1 b1 s1; refine wpList_store_row rfl 28 (.tmp 6) (.tmp 37) rfl (w5.heap.size + 1) _ ?_ rfl 28 zHdC ?_ ?_ ?_ ?_ ?_; (first | rfl | (simp only [World.size_alloc]; rfl)); exact (b1.block _ (block_lt eb5.out) (by simp)).trans eb5.out; exact ah0.out; exact zh0.out; exact nh0.out; intro w6 g2 b2 s2; have X6a := hW5.out.grown b1 hW5.out.size (fun k e => by injection e with e; omega); have X6 := hid (X6a.grown b2 X6a.size (fun k e => by injection e with e; omega)); have F6 := hid (BoxT.of (Zae (l := [Value.slice ad5 na5.length cd5, .int .i64 ra5]) ((b2.block _ (block_lt g1) (by simp)).trans g1))); have G6 := hid (Zae (l := hdC h0) g2); clear g1 b1 s1 g2 b2 s2 X6a ea5 eb5 hW5; have H6 := hid (H5.out.bel X6.out (Nat.lt_of_lt_of_le hlow.out W5.out.size)); have W6 := hid (W5.out.trans (X6.out.mono W5.out.size)); clear H5 W5; clear F6 G6)
    | ((with_reducible refine Zaf rfl 39 _ rfl cz.toArray [] ?_ ?_ ?_); exact bX.out; rfl; try simp only [sQ]))
  refine (hSi.out _ H6.out).mono ?_
  rintro e w7 ⟨rfl, hb⟩
  have H7 := hid (H6.out.bel hb (Nat.lt_of_lt_of_le hlow.out W6.out.size))
  have W7 := hid (W6.out.trans (hb.mono W6.out.size))
  clear H6 W6
  clear hb hSi
  have e7 := hid (heap_alloc_new w7 (.cells zTxC 39))
  go_wp2_with (first
    | (with_reducible refine Zac rfl 39 rfl zTxC Zbv ?_)
    | ((with_reducible refine wpList_store_row rfl 39 (.tmp 9) (.tmp 41) rfl _ _ rfl rfl 39 zTxC ?_ ?_ ?_ ?_ ?_); exact e7.out; exact asx.out; exact zsx.out; exact nsx.out; intro w8 hgS hbS hsS; have X8 := hid (Zan rfl hbS); have D8 := hid (Zae (l := csx) hgS); clear hgS hbS hsS; have H8 := hid (H7.out.bel X8.out (Nat.lt_of_lt_of_le hlow.out W7.out.size)); have W8 := hid (W7.out.trans (X8.out.mono W7.out.size)); clear H7 W7)
    | ((with_reducible refine Zaf rfl 24 _ rfl zTrC [] ?_ ?_ ?_); exact bT.out; rfl; try simp only [sQ])
    | ((with_reducible refine Zaf rfl 28 _ rfl (hdC h0).toArray [] ?_ ?_ ?_); exact bH.out; rfl; try simp only [sQ])
    | ((with_reducible refine Zaa rfl 39 (.tmp 9) rfl w7.heap.size 0 rfl csx _ ?_ hux rfl jsx.out ?_); exact D8.out; try simp only [sQ])
    | ((with_reducible refine ZsL rfl (.tmp 45) (.tmp 46) rfl sx csx ?_ rfl rfl ?_ ?_); exact hcs.out; exact hxo.out; intro g9 w9 hg9 r9 b9; have X9 := hid b9; have V9 := hid r9; clear b9 r9; have H9 := hid (H8.out.bel X9.out (Nat.lt_of_lt_of_le hlow.out W8.out.size)); have W9 := hid (W8.out.trans (X9.out.mono W8.out.size)); have D9 := hid (Zab X9.out D8.out); clear H8 W8 D8; try simp only [sQ])
    | ((with_reducible refine Zaf rfl 36 _ rfl #[.slice none 0 0, .slice (some ⟨g9, 0, none⟩) 2 2] [(1, .slice (some ⟨g9, 0, none⟩) 2 2)] ?_ ?_ ?_); exact bB1.out _ _ _; rfl; try simp only [sQ])
    | ((with_reducible refine Zaf rfl 26 _ rfl dz.toArray [] ?_ ?_ ?_); exact b0.out; rfl; try simp only [sQ]))
  clear D9
  refine (hA3.out _ _ V9.out H9.out).mono ?_
  rintro e w10 ⟨⟨na10, ra10⟩, ad10, cd10, Rr10, rq10, rfl, ho, hq, hb, hok10⟩
  dsimp only at ho hok10 ⊢
  have H10 := hid (H9.out.bel hb (Nat.lt_of_lt_of_le hlow.out W9.out.size))
  have W10 := hid (W9.out.trans (hb.mono W9.out.size))
  have V10 := hid (V9.out.bel hb)
  clear H9 W9 V9
  have E10 := hid (OwnR.row ho)
  have Y10 := hid (OwnR.row hq)
  replace hok10 := hid hok10
  clear hb ho hq hA3
  clear E10
  clear Y10
  clear V10
  have ea10 := hid (((Zad (w10.alloc (.cells zTrC 24)) (.cells zHdC 28)).block _ (by rw [World.size_alloc]; exact Nat.lt_succ_self _)).trans (heap_alloc_new w10 (.cells zTrC 24)))
  have eb10 := heap_alloc_new (w10.alloc (.cells zTrC 24)) (.cells zHdC 28)
  rw [World.size_alloc] at eb10
  replace eb10 := hid eb10
  have hW10 := hid (Zag (Zad w10 (.cells zTrC 24)) (Zad (w10.alloc (.cells zTrC 24)) (.cells zHdC 28)))
  have hiF := hid (show (Tryz.prog.info? 24).map (·.size) = some ([Value.slice ad10 na10.length cd10, .int .i64 ra10]).length from Zah)
  go_wp2_with (first
    | (with_reducible refine Zac rfl 24 rfl zTrC Zas ?_)
    | (with_reducible refine Zac rfl 28 rfl zHdC Za9 ?_)
    | ((with_reducible refine wpList_store_row rfl 24 (.tmp 10) (.tmp 51) rfl _ _ rfl rfl 24 zTrC ?_ ?_ ?_ ?_ ?_); exact ea10.out; exact Zah; rfl; exact Zat ad10 na10.length cd10 ra10; intro w11a g1 b1 s1; refine wpList_store_row rfl 28 (.tmp 11) (.tmp 52) rfl (w10.heap.size + 1) _ ?_ rfl 28 zHdC ?_ ?_ ?_ ?_ ?_; (first | rfl | (simp only [World.size_alloc]; rfl)); exact (b1.block _ (block_lt eb10.out) (by simp)).trans eb10.out; exact ah0.out; exact zh0.out; exact nh0.out; intro w11 g2 b2 s2; have X11a := hW10.out.grown b1 hW10.out.size (fun k e => by injection e with e; omega); have X11 := hid (X11a.grown b2 X11a.size (fun k e => by injection e with e; omega)); have F11 := hid (BoxT.of (Zae (l := [Value.slice ad10 na10.length cd10, .int .i64 ra10]) ((b2.block _ (block_lt g1) (by simp)).trans g1))); have G11 := hid (Zae (l := hdC h0) g2); clear g1 b1 s1 g2 b2 s2 X11a ea10 eb10 hW10; have H11 := hid (H10.out.bel X11.out (Nat.lt_of_lt_of_le hlow.out W10.out.size)); have W11 := hid (W10.out.trans (X11.out.mono W10.out.size)); clear H10 W10; clear F11 G11)
    | ((with_reducible refine Zaf rfl 24 _ rfl zTrC [] ?_ ?_ ?_); exact bT.out; rfl; try simp only [sQ])
    | ((with_reducible refine Zaf rfl 28 _ rfl chi.toArray [(0, .int .i64 1073741824)] ?_ ?_ ?_); exact bHi.out; rfl; try simp only [sQ])
    | ((with_reducible refine Zaf rfl 36 _ rfl #[.slice none 0 0, .slice none 0 0] [] ?_ ?_ ?_); exact bB.out; rfl; try simp only [sQ])
    | ((with_reducible refine Zaf rfl 26 _ rfl dz.toArray [] ?_ ?_ ?_); exact b0.out; rfl; try simp only [sQ]))
  refine (hA4.out _ H11.out).mono ?_
  rintro e w12 ⟨⟨na12, ra12⟩, ad12, cd12, Rr12, rq12, rfl, ho, hq, hb, hok12⟩
  dsimp only at ho hok12 ⊢
  have H12 := hid (H11.out.bel hb (Nat.lt_of_lt_of_le hlow.out W11.out.size))
  have W12 := hid (W11.out.trans (hb.mono W11.out.size))
  clear H11 W11
  have E12 := hid (OwnR.row ho)
  have Y12 := hid (OwnR.row hq)
  replace hok12 := hid hok12
  clear hb ho hq hA4
  clear E12
  clear Y12
  have ea12 := hid (((Zad (w12.alloc (.cells zTrC 24)) (.cells zHdC 28)).block _ (by rw [World.size_alloc]; exact Nat.lt_succ_self _)).trans (heap_alloc_new w12 (.cells zTrC 24)))
  have eb12 := heap_alloc_new (w12.alloc (.cells zTrC 24)) (.cells zHdC 28)
  rw [World.size_alloc] at eb12
  replace eb12 := hid eb12
  have hW12 := hid (Zag (Zad w12 (.cells zTrC 24)) (Zad (w12.alloc (.cells zTrC 24)) (.cells zHdC 28)))
  have hiF := hid (show (Tryz.prog.info? 24).map (·.size) = some ([Value.slice ad12 na12.length cd12, .int .i64 ra12]).length from Zah)
  go_wp2_with (first
    | (with_reducible refine Zac rfl 24 rfl zTrC Zas ?_)
    | (with_reducible refine Zac rfl 28 rfl zHdC Za9 ?_)
    | ((with_reducible refine wpList_store_row rfl 24 (.tmp 14) (.tmp 61) rfl _ _ rfl rfl 24 zTrC ?_ ?_ ?_ ?_ ?_); exact ea12.out; exact Zah; rfl; exact Zat ad12 na12.length cd12 ra12; intro w13a g1 b1 s1; refine wpList_store_row rfl 28 (.tmp 15) (.tmp 62) rfl (w12.heap.size + 1) _ ?_ rfl 28 zHdC ?_ ?_ ?_ ?_ ?_; (first | rfl | (simp only [World.size_alloc]; rfl)); exact (b1.block _ (block_lt eb12.out) (by simp)).trans eb12.out; exact ah0.out; exact zh0.out; exact nh0.out; intro w13 g2 b2 s2; have X13a := hW12.out.grown b1 hW12.out.size (fun k e => by injection e with e; omega); have X13 := hid (X13a.grown b2 X13a.size (fun k e => by injection e with e; omega)); have F13 := hid (BoxT.of (Zae (l := [Value.slice ad12 na12.length cd12, .int .i64 ra12]) ((b2.block _ (block_lt g1) (by simp)).trans g1))); have G13 := hid (Zae (l := hdC h0) g2); clear g1 b1 s1 g2 b2 s2 X13a ea12 eb12 hW12; have H13 := hid (H12.out.bel X13.out (Nat.lt_of_lt_of_le hlow.out W12.out.size)); have W13 := hid (W12.out.trans (X13.out.mono W12.out.size)); clear H12 W12))
  refine (hAl.out _ H13.out).mono ?_
  rintro e w14 ⟨rfl, hb⟩
  have H14 := hid (H13.out.bel hb (Nat.lt_of_lt_of_le hlow.out W13.out.size))
  have W14 := hid (W13.out.trans (hb.mono W13.out.size))
  have F14 := hid (F13.out.bel hb)
  have G14 := hid (Zab hb G13.out)
  clear H13 W13 F13 G13
  clear hb hAl
  go_wp2
  go_ret
  exact ⟨rfl, W14.out⟩

/-! ### WHAT THE WALK GIVES, FOR EVERY ARGUMENT AND EVERY WORLD THAT HOLDS THE TABLE -/
set_option maxRecDepth 100000 in
theorem contract (H : Type) (enc : TypeId × Value → H) (W : World) (base : Nat) (args : Array Value) (ds gs : List (DataW H)) (before : List MemPlace)
    (hval0 : ∀ (j : Nat) t v, Tryz.f3.params[j]? = some t → args[j]? = some v → Value.okWide Tryz.prog W .any base t v)
    (hW : DataW.Whole enc Tryz.prog Tryz.f3.params.toList Rows.blockNamesSpec.vars false W args.toList ds gs before) (hL : laidMetH Tryz.prog Rows.blockNamesRow.laid W) :
    Calls Tryz.prog 3 args W fun e W' => ∃ v, e = .returned v ∧ Rows.blockNamesSpec.post enc Tryz.prog Tryz.f3 false true false false W args v W' := by
  have hval : ∀ (j : Nat) t v, Tryz.f3.params[j]? = some t → args[j]? = some v → Value.okWide Tryz.prog W .any base t v := hval0
  have hW' := hW
  obtain ⟨p, q, hA0, hV, rfl, hfz, hnd⟩ := hW
  have hA : DataW.TrodAll enc Tryz.prog W 0 (fun _ => true) true Tryz.f3.params.toList args.toList ds p := hA0
  rw [Tryz.params3] at hA hval
  obtain ⟨rfl, rfl, rfl⟩ := trodAll_none hA
  obtain ⟨rfl, rfl⟩ := trodVars_none hV
  clear hA0 hval0
  refine (walk  W (Yks hL)).mono fun e W' ⟨he, bel⟩ => ?_
  subst he
  exact ⟨_, rfl, _, _, _, [], _, [], hW', trodAll_mk1 (shut_bool Tryz.underlying4 _), trodAll_mk0, rfl, bel.frame _, fun h => by cases h⟩

theorem laid_met (os : Os) : laidMet Tryz.prog Rows.blockNamesRow.laid ((laidWorld os).forCall (fun _ _ => 0) ⟨#[], #[], []⟩).memory :=
  laidMet_of_run' 8 (by kernel_rfl) (by kernel_rfl)
theorem reads (os : Os) {H : Type} (enc : TypeId × Value → H) : ∃ places, DataW.whole enc Tryz.prog ((laidWorld os).forCall (fun _ _ => 0) ⟨#[], #[], []⟩).memory Tryz.f3.params.toList Rows.blockNamesSpec.vars false (#[] : Array Value).toList 8 = some ([], [], places) :=
  ⟨[], by kernel_rfl⟩
set_option maxRecDepth 100000 in
theorem lifted (os : Os) (started : os.Started) (H : Type) (enc : TypeId × Value → H) (F : Stop.Interp) :
    ReturnsInHanded {} Tryz.checked os 3 .any ((OpenSpec.ofChange Rows.blockNamesSpec).preRow enc Tryz.prog Tryz.f3 Rows.blockNamesRow.domain false Rows.blockNamesRow.laid) (((OpenSpec.ofChange Rows.blockNamesSpec).at F).post enc Tryz.prog Tryz.f3 false true false false) := by
  obtain ⟨places, hx⟩ := reads os enc
  refine returnsInHanded_of_row (C := Tryz.checked) (s := OpenSpec.ofChange Rows.blockNamesSpec) own started (by kernel_rfl) Tryz.func3
    (witness_row_at (enc := enc) (C := Tryz.checked) false (laidWorld os) #[] rfl (by kernel_rfl) (by kernel_rfl) (by kernel_rfl)
      (OpenSpec.preRow_of_cond 8 hx (by kernel_rfl) (fun k hk => by cases hk) (by kernel_rfl) (laid_met os))) ?_
  intro W base args ds gs before hval hW _ _ _ hL _ _
  exact contract H enc W base args ds gs before hval hW hL
theorem said : Rows.BlockNamesSaid :=
  OpenClaim.holds_of_cond 3 Tryz.f3 rfl rfl rfl rfl rfl rfl rfl ⟨rfl, rfl, rfl, rfl, rfl⟩ rfl rfl rfl rfl rfl (by kernel_rfl) Tryz.func3 (by kernel_rfl)
    (of_decide_eq_true (by kernel_rfl)) (by unfold Func.isWrapper; first | (rw [if_pos (by decide +kernel)]; kernel_rfl) | (rw [if_neg (by decide +kernel)]; exact ⟨rfl, rfl⟩))
    (fun os started H enc _ F => by rw [OpenClaim.pre_eq_preRow]; exact lifted os started H enc F)
set_option maxRecDepth 100000 in
/-- No parameter wants a stand-in; the program's own looks are off: what the card asks. -/
theorem plain (f : FuncId) (fn : Func) (hf : Tryz.pinned.checked.prog.funcNamed "beadroll/beadrolllaw16.BlockNames" = some f) (hfn : Tryz.pinned.checked.prog.funcs[f]? = some fn) :
    false = Tryz.pinned.checked.prog.looks [] ∧ ∀ (j : Nat) t, fn.params[j]? = some t → Tryz.pinned.checked.prog.wantsStandIn t = false := by
  obtain rfl : f = 3 := Option.some.inj ((show Tryz.prog.funcNamed "beadroll/beadrolllaw16.BlockNames" = some 3 by kernel_rfl).symm.trans hf) |>.symm
  obtain rfl : fn = Tryz.f3 := (Option.some.inj (Tryz.func3.symm.trans hfn)).symm
  refine ⟨by kernel_rfl, fun j t ht => ?_⟩
  rw [Tryz.params3] at ht
  simp at ht
set_option maxRecDepth 100000 in
/-- ████ THE CARD ████ -/
theorem proved : Rows.BlockNamesCardSaid :=
  Claim7.holds_tied_plain_at .later [] _ _ _ _ said (fun _ h => by cases h) (by kernel_rfl) (fun _ h => by cases h) blockNames_row_tie rfl ⟨rfl, rfl⟩ (by kernel_rfl) rfl plain (by kernel_rfl)
#print axioms proved
end Go.Proofs.YtomhoehlgagiiaaGreatDoor.blockNames
