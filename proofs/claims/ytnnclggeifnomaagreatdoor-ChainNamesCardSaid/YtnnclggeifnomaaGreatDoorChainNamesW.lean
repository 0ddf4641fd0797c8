/-
  The walk of ChainNames.
-/
import Derived.ProofKit
import Derived.ShutString
import Derived.ChangeOld
import Derived.Below
import Derived.Test.YtnnclggeifnomaaGreatDoorAlive17
import Derived.Test.YtnnclggeifnomaaGreatDoorCaE
namespace Go.Proofs.YtnnclggeifnomaaGreatDoor.chainNames
open Go.ChangeShapes Go.WideShapes Go.ChangeAt Go.RowKit
open Go.ChangeMaps (open_string shut_string)
set_option linter.unusedVariables false      -- a walk need not use every 'w<i>' (that an integer argument fits its kind)

theorem own : ownKnob Tryz.prog.godebug = none := by kernel_rfl

/-! ### the walk -/
open Go.Proofs.YtnnclggeifnomaaGreatDoor
set_option maxRecDepth 100000
theorem Yoj : soundC bornC zBox = true := by
  unfold soundC
  rw [Yl0]
  refine YkL.2 fun i hi => ?_
  obtain rfl : i = 0 := by simpa [bornC] using hi
  have hv : verT ([] : List Nd) (firstK ⟨[], 0⟩).root = ⟨[], 0⟩ := rfl
  show decide (firstK ⟨[], 0⟩ = firstK (verT ([] : List Nd) (firstK ⟨[], 0⟩).root)) = true
  rw [hv]
  exact Vy2 rfl
theorem YoA {d : Ch} (h : AddOk bornC [] [] zBox d) : (ChB 50000 d ∧ soundC d zBox = true) ∧ (cutE d 2 = 2 ∧ cutR d 2 = zCh) ∧ stateE d (-1) = 2 ∧ stateR d (-1) = ⟨[], 0⟩ := by
  obtain ⟨⟨k1, _⟩, k3, _⟩ := YmM h
  obtain ⟨hm, hl, ha, o, ho, rfl⟩ := Yle YlZ h
  refine ⟨⟨k3, Ynr Yoj hl ha ho⟩, ⟨?_, ?_⟩, ?_, ?_⟩
  · unfold cutE
    rw [if_pos k1, if_neg (by show ¬ ((0 : Int) ≤ 2 ∧ (2 : Int) < ((2 : Nat) : Int)); decide)]
  · unfold cutR
    exact if_neg (fun h => absurd h.2.2 (by show ¬ ((2 : Int) < ((2 : Nat) : Int)); decide))
  · unfold stateE cutE
    rw [if_pos k1, if_neg (fun h => absurd h.1 (by decide))]
  · unfold stateR
    exact if_neg (fun h => absurd h.2.1 (by decide))
theorem YoK (W : World) (A : Option Addr) (h : Rd W A [97]) : Row (fun _ => True) (W.alloc (.cells (z0.1.map bv ++ [Value.slice A 1 1]).toArray 43)) (some ⟨W.heap.size, 0, none⟩) [(⟨z0, [97]⟩ : Pr)] := fun hn => by
  have hr : Enc.rep (fun _ => True) W (⟨z0, [97]⟩ : Pr) (z0.1.map bv ++ [Value.slice A 1 1]) := ZcL z0 [97] A 1 (Vx8 _) (by decide) (h.row fun _ _ _ => trivial)
  obtain ⟨g, o, e, hc⟩ := (show Src (fun _ => True) (W.alloc (.cells (z0.1.map bv ++ [Value.slice A 1 1]).toArray 43)) (some ⟨W.heap.size, 0, none⟩) [(⟨z0, [97]⟩ : Pr)] from ZaE hr) hn
  injection e with e
  injection e with e1 e2
  subst e1 e2
  exact ⟨_, _, rfl, trivial, by simp, hc⟩
set_option maxHeartbeats 16000000 in
theorem walk  (w : World) (hT : Tab w) :
    Calls Tryz.prog 3 #[] w fun e w' => e = .returned (.bool true) ∧ Below w.heap.size w w' := by
  have huc := Tryz.underlying27
  have hut := Tryz.underlying24
  have hu := Tryz.underlying37
  have H0 := hid hT
  have hlow := hid hT.low
  have W0 := hid (Below.refl w.heap.size w)
  have hAl := hid (fun W hW => YlO W hW)
  have hNw := hid (fun W hT => Yl8 W hT)
  have hAd := hid (fun s W (h : ChIn (fun b => w.heap.size ≤ b) W bornC s) hT => YmK (D := none) (d := 0) (ds := []) (X := none) (e := 0) (xs := []) (box := zBox) h born_b (Row.nil (fun _ => False) W none) (Row.nil (fun _ => False) W none) (by decide) (by decide) hT 0 (AddOk bornC [] [] zBox) YlZ (fun cc h => h))
  have hCu := hid (fun (B : Nat) (c : Ch) (h2 : ChB 50000 c) (h3 : cutE c 2 = 2) (h4 : cutR c 2 = zCh) s W (h : ChIn (fun b => B ≤ b) W c s) hT => Yns h h2 hT 2 zCh h3 h4)
  have hSt := hid (fun (B : Nat) (c : Ch) (s : ChS) W (h : ChIn (fun b => B ≤ b) W c s) (hB : ChB 50000 c) hT (e1 : stateE c (-1) = 2) (e2 : stateR c (-1) = ⟨[], 0⟩) => (show Calls Tryz.prog 11 #[.agg (chV c s).toArray, .int .i64 (-1)] W fun e w' => ∃ A' k', e = .returned (.tuple #[.agg #[.slice A' 0 k', .int .i64 0], .int .i64 2]) ∧ OwnR 106 w' W.heap.size A' k' ([] : List Nd) ∧ Below W.heap.size W w' from by
    have := Ylk _ c s (-1) W h ⟨by have := hB.ns; omega, hB.ls, hB.xs⟩ hT
    rw [e1, e2] at this
    exact this))
  have hNn := hid (fun A W (h : Row (fun _ => True) W A [(⟨z0, [97]⟩ : Pr)]) => (show Calls Tryz.prog 8 #[.slice A 1 1] W fun e w' => e = .returned (.tuple #[.agg (chV zCh zChS).toArray, .int .i64 8]) ∧ Below W.heap.size W w' from Ynq (fun _ => True) A 1 1 [⟨z0, [97]⟩] W h rfl (by simp) (fun p hp => by rw [List.mem_singleton.1 hp]; simp) (by decide +kernel)))
  have hSd := hid (fun (B : Nat) (c : Ch) (s : ChS) W (h : ChIn (fun b => B ≤ b) W c s) (hB : ChB 50000 c) hT (hs : soundC c zBox = true) => (show Calls Tryz.prog 13 #[.agg (chV c s).toArray, .agg (zBox.1.map bv).toArray] W fun e w' => e = .returned (.bool true) ∧ Below W.heap.size W w' from by
    have := YnB _ c s zBox W h hB hT
    rw [hs] at this
    exact this))
  have zin := hid (fun W => (⟨Row.nil _ _ _, Row.nil _ _ _, Vx8 _, Vx8 _⟩ : ChIn (fun _ => False) W zCh zChS))
  have zbd : ∀ n, ChB n zCh := fun n => ⟨Nat.zero_le _, Nat.zero_le _, fun x hx => by cases hx⟩
  have hCk := hid (fun W hT => (show Calls Tryz.prog 14 #[.agg zChC] W fun e w' => e = .returned (.int .i64 8) ∧ Below W.heap.size W w' from YkQ _ zCh zChS W (zin.out W) (zbd _) hT))
  have hSz := hid (fun W hT => (show Calls Tryz.prog 13 #[.agg zChC, .agg (zBox.1.map bv).toArray] W fun e w' => e = .returned (.bool false) ∧ Below W.heap.size W w' from YnB _ zCh zChS zBox W (zin.out W) (zbd _) hT))
  have hNm := hid (fun d h => YoA (d := d) h)
  have bB := hid ZmQ
  have b0 := hid (show Tryz.prog.built 37 [] = some (zBox.1.map bv).toArray by kernel_rfl)
  have zb := hid Ylf
  have hbp := hid (fun A => Zrf A 1 1)
  have hlp := hid (fun A => Zbq z0 (Value.slice A 1 1))
  have hrp := hid YoK
  generalize z0.1.map bv = dz1 at *
  clear hT zbd zin
  generalize bornC = c0 at *
  generalize zBox.1.map bv = dz at *
  go_enter Tryz.func3, Tryz.ntmps3
  go_wp2_with fail
  refine (hNw.out _ H0.out).mono ?_
  rintro e w1 ⟨s1, rfl, oo, hb⟩
  have H1 := hid (H0.out.bel hb (Vx4 hlow.out W0.out.size))
  have W1 := hid (W0.out.trans (hb.mono W0.out.size))
  clear H0 W0
  have O1 := hid oo
  clear hb hNw
  have e1 := hid (Vx0 w1 (.cells zChC 27))
  go_wp2_with (first
    | (with_reducible refine Zac rfl 27 rfl zChC YkN ?_)
    | ((with_reducible refine stW 1 13 _ 27 zChC ?_ ?_ ?_ ?_ ?_); exact e1.out; exact YkJ c0 s1; rfl; exact YkR c0 s1; intro w2 hgS hbS hsS; have X2 := hid (Zan rfl hbS); have C2 := hid (Zae (l := chV c0 s1) hgS); clear hgS hbS hsS; have H2 := hid (H1.out.bel X2.out (Vx4 hlow.out W1.out.size)); have W2 := hid (W1.out.trans (X2.out.mono W1.out.size)); have O2 := hid (O1.out.bel X2.out); clear H1 W1 O1)
    | (with_reducible refine lDr C2.out (YkJ c0 s1) huc ?_)
    | ((with_reducible refine Zaf rfl 35 _ rfl #[.slice none 0 0, .slice none 0 0] [] ?_ ?_ ?_); exact bB.out; rfl)
    | ((with_reducible refine Zaf rfl 37 _ rfl dz.toArray [] ?_ ?_ ?_); exact b0.out; rfl))
  refine (hAd.out s1 _ O2.out.inn H2.out).mono ?_
  rintro e w3 ⟨cc3, s3, rfl, po, hb, hok3⟩
  have H3 := hid (H2.out.bel hb (Vx4 hlow.out W2.out.size))
  have W3 := hid (W2.out.trans (hb.mono W2.out.size))
  have O3 := hid (O2.out.bel hb)
  have C3 := hid (Zab hb C2.out)
  clear H2 W2 O2 C2
  have P3 := hid po
  clear hb hAd
  obtain ⟨⟨k1, k2⟩, ⟨k3, k4⟩, k5, k6⟩ := hNm.out cc3 hok3
  clear hNm hok3
  have K1 := hid k1
  have K2 := hid k2
  have K3 := hid k3
  have K4 := hid k4
  have K5 := hid k5
  have K6 := hid k6
  clear k1 k2 k3 k4 k5 k6
  clear O3
  clear C3
  have e3 := hid (Vx0 w3 (.cells zChC 27))
  go_wp2_with (first
    | (with_reducible refine Zac rfl 27 rfl zChC YkN ?_)
    | ((with_reducible refine stW 3 20 _ 27 zChC ?_ ?_ ?_ ?_ ?_); exact e3.out; exact YkJ cc3 s3; rfl; exact YkR cc3 s3; intro w4 hgS hbS hsS; have X4 := hid (Zan rfl hbS); have D4 := hid (Zae (l := chV cc3 s3) hgS); clear hgS hbS hsS; have H4 := hid (H3.out.bel X4.out (Vx4 hlow.out W3.out.size)); have W4 := hid (W3.out.trans (X4.out.mono W3.out.size)); have P4 := hid (P3.out.bel X4.out); clear H3 W3 P3)
    | (with_reducible refine lDr D4.out (YkJ cc3 s3) huc ?_))
  refine (hCu.out _ cc3 K1.out K3.out K4.out s3 _ P4.out.inn H4.out).mono ?_
  rintro e w5 ⟨s5, rfl, qo, hb⟩
  have H5 := hid (H4.out.bel hb (Vx4 hlow.out W4.out.size))
  have W5 := hid (W4.out.trans (hb.mono W4.out.size))
  have P5 := hid (P4.out.bel hb)
  have D5 := hid (Zab hb D4.out)
  clear H4 W4 P4 D4
  have Q5 := hid qo
  clear hb hCu
  clear Q5
  have e5 := hid (Vx0 w5 (.cells zChC 27))
  go_wp2_with (first
    | (with_reducible refine Zac rfl 27 rfl zChC YkN ?_)
    | ((with_reducible refine stW 5 25 _ 27 zChC ?_ ?_ ?_ ?_ ?_); exact e5.out; exact YkJ zCh s5; rfl; exact YkR zCh s5; intro w6 hgS hbS hsS; have X6 := hid (Zan rfl hbS); have E6 := hid (Zae (l := chV zCh s5) hgS); clear hgS hbS hsS; have H6 := hid (H5.out.bel X6.out (Vx4 hlow.out W5.out.size)); have W6 := hid (W5.out.trans (X6.out.mono W5.out.size)); have P6 := hid (P5.out.bel X6.out); have D6 := hid (Zab X6.out D5.out); clear H5 W5 P5 D5)
    | (with_reducible refine lDr D6.out (YkJ cc3 s3) huc ?_))
  clear E6
  refine (hSt.out _ cc3 s3 _ P6.out.inn K1.out H6.out K5.out K6.out).mono ?_
  rintro e w7 ⟨A7, c7, rfl, ho, hb⟩
  have H7 := hid (H6.out.bel hb (Vx4 hlow.out W6.out.size))
  have W7 := hid (W6.out.trans (hb.mono W6.out.size))
  have P7 := hid (P6.out.bel hb)
  have D7 := hid (Zab hb D6.out)
  clear H6 W6 P6 D6
  clear hb ho hSt
  have e7 := hid (Vx0 w7 (.cells zTrC 24))
  have hiG := hid (show (Tryz.prog.info? 24).map (·.size) = some ([Value.slice A7 0 c7, .int .i64 0]).length from Zah)
  go_wp2_with (first
    | (with_reducible refine Zac rfl 24 rfl zTrC Zas ?_)
    | ((with_reducible refine stW 7 30 _ 24 zTrC ?_ ?_ ?_ ?_ ?_); exact e7.out; exact Zah; rfl; exact Zat A7 0 c7 0; intro w8 hgS hbS hsS; have X8 := hid (Zan rfl hbS); have lt8 := hid (block_lt hgS); have G8 := hid (BoxT.of (Zae (l := [Value.slice A7 0 c7, .int .i64 0]) hgS)); clear hgS hbS hsS; have H8 := hid (H7.out.bel X8.out (Vx4 hlow.out W7.out.size)); have W8 := hid (W7.out.trans (X8.out.mono W7.out.size)); have P8 := hid (P7.out.bel X8.out); have D8 := hid (Zab X8.out D7.out); clear H7 W7 P7 D7; have kc := fun C n c => ZcE w8 C n c)
    | ((with_reducible refine Zaf rfl 43 _ rfl (dz1 ++ [Value.slice (some ⟨w8.heap.size, 0, none⟩) 1 1]).toArray [(1, .slice (some ⟨w8.heap.size, 0, none⟩) 1 1)] ?_ ?_ ?_); exact hbp.out _; rfl)
    | ((with_reducible refine ZaC slotPr (by decide) ?_ (.tmp 35) rfl (dz1 ++ [Value.slice (some ⟨w8.heap.size, 0, none⟩) 1 1]) ?_ ?_ ?_); rfl; rfl; exact hlp.out _))
  have r8 := hrp.out (w8.alloc (.cells #[.int .u8 97] 5 (1, 2))) (some ⟨w8.heap.size, 0, none⟩) (Rd.litf w8 5 [97] #[.int .u8 97] w8.heap.size (1, 2) rfl rfl)
  rw [Vx2] at r8
  have Z8 := Zag (Zad w8 (.cells #[.int .u8 97] 5 (1, 2))) (Zad _ (.cells (dz1 ++ [Value.slice (some ⟨w8.heap.size, 0, none⟩) 1 1]).toArray 43))
  refine (hNn.out _ _ r8).mono ?_
  rintro e w9 ⟨rfl, hb⟩
  have hb9 := Z8.trans (hb.mono Z8.size)
  have H9 := hid (H8.out.bel hb9 (Vx4 hlow.out W8.out.size))
  have W9 := hid (W8.out.trans (hb9.mono W8.out.size))
  have P9 := hid (P8.out.bel hb9)
  have D9 := hid (Zab hb9 D8.out)
  have G9 := hid (G8.out.bel hb9)
  clear H8 W8 P8 D8 G8
  clear hb hb9 Z8 r8 kc hNn hrp
  have e9 := hid (Vx0 w9 (.cells zChC 27))
  go_wp2_with (first
    | (with_reducible refine Zac rfl 27 rfl zChC YkN ?_)
    | ((with_reducible refine stW 9 38 _ 27 zChC ?_ ?_ ?_ ?_ ?_); exact e9.out; exact YkJ zCh zChS; rfl; exact YkR zCh zChS; intro w10 hgS hbS hsS; have X10 := hid (Zan rfl hbS); have J10 := hid (Zae (l := chV zCh zChS) hgS); clear hgS hbS hsS; have H10 := hid (H9.out.bel X10.out (Vx4 hlow.out W9.out.size)); have W10 := hid (W9.out.trans (X10.out.mono W9.out.size)); have P10 := hid (P9.out.bel X10.out); have D10 := hid (Zab X10.out D9.out); have G10 := hid (G9.out.bel X10.out); clear H9 W9 P9 D9 G9))
  clear J10
  refine (hAl.out _ H10.out).mono ?_
  rintro e w11 ⟨rfl, hb⟩
  have H11 := hid (H10.out.bel hb (Vx4 hlow.out W10.out.size))
  have W11 := hid (W10.out.trans (hb.mono W10.out.size))
  have P11 := hid (P10.out.bel hb)
  have D11 := hid (Zab hb D10.out)
  have G11 := hid (G10.out.bel hb)
  clear H10 W10 P10 D10 G10
  clear hb hAl
  go_wp2_with (first
    | (with_reducible refine lDr D11.out (YkJ cc3 s3) huc ?_)
    | ((with_reducible refine Zaf ?_ 37 _ rfl dz.toArray [] ?_ ?_ ?_); rfl; exact b0.out; rfl))
  refine (hSd.out _ cc3 s3 _ P11.out.inn K1.out H11.out K2.out).mono ?_
  rintro e w12 ⟨rfl, hb⟩
  have H12 := hid (H11.out.bel hb (Vx4 hlow.out W11.out.size))
  have W12 := hid (W11.out.trans (hb.mono W11.out.size))
  have P12 := hid (P11.out.bel hb)
  have D12 := hid (Zab hb D11.out)
  have G12 := hid (G11.out.bel hb)
  clear H11 W11 P11 D11 G11
  clear hb hSd
  go_wp2_with (((with_reducible refine Zaf ?_ 27 _ rfl zChC [] ?_ ?_ ?_); rfl; exact zb.out; rfl))
  refine (hCk.out _ H12.out).mono ?_
  rintro e w13 ⟨rfl, hb⟩
  have H13 := hid (H12.out.bel hb (Vx4 hlow.out W12.out.size))
  have W13 := hid (W12.out.trans (hb.mono W12.out.size))
  have P13 := hid (P12.out.bel hb)
  have D13 := hid (Zab hb D12.out)
  have G13 := hid (G12.out.bel hb)
  clear H12 W12 P12 D12 G12
  clear hb hCk
  go_wp2_with (first
    | ((with_reducible refine Zaf ?_ 27 _ rfl zChC [] ?_ ?_ ?_); rfl; exact zb.out; rfl)
    | ((with_reducible refine Zaf ?_ 37 _ rfl dz.toArray [] ?_ ?_ ?_); rfl; exact b0.out; rfl))
  refine (hSz.out _ H13.out).mono ?_
  rintro e w14 ⟨rfl, hb⟩
  have H14 := hid (H13.out.bel hb (Vx4 hlow.out W13.out.size))
  have W14 := hid (W13.out.trans (hb.mono W13.out.size))
  have P14 := hid (P13.out.bel hb)
  have D14 := hid (Zab hb D13.out)
  have G14 := hid (G13.out.bel hb)
  clear H13 W13 P13 D13 G13
  clear hb hSz
  go_wp2
  go_ret
  exact ⟨rfl, W14.out⟩
end Go.Proofs.YtnnclggeifnomaaGreatDoor.chainNames
