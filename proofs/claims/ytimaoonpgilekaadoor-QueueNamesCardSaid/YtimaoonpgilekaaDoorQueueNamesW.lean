/-
  The walk of QueueNames.
-/
import Derived.Test.YtimaoonpgilekaaDoorDoor
import Derived.ProofKit
import Derived.ShutString
import Derived.ChangeOld
import Derived.Below
import Derived.Test.YtimaoonpgilekaaDoorAlive19
namespace Go.Proofs.YtimaoonpgilekaaDoor.queueNames
open Go.ChangeShapes Go.WideShapes Go.ChangeAt Go.RowKit
open Go.ChangeMaps (open_string shut_string)
set_option linter.unusedVariables false      -- a walk need not use every 'w<i>' (that an integer argument fits its kind)

theorem own : ownKnob Tryd.prog.godebug = none := by kernel_rfl

/-! ### the walk -/
open Go.Proofs.YtimaoonpgilekaaDoor
theorem YpX (A : Option Addr) (n c : Nat) : Tryd.prog.built 26 [(1, .slice A n c)] = some (lnC zDq A n c).toArray := by
  rw [Za5 Yoi]
  have h := Zgp (place := fun i => ([(0, 32), (32, 1)] : List (Nat × Nat)).toArray[i]?) [[Value.slice none 0 0]] [.slice A n c] 1 (zDq.1.map bv) (by
    refine ⟨?_, ?_, trivial⟩ <;> simp [Value.cells, zDq])
  exact h
theorem YpP : Tryd.prog.built 33 [(0, .agg (d1Q.1.map bv).toArray)] = some (txC ⟨d1Q, zDq, 0, 0, 0, zDq⟩).toArray := by kernel_rfl
theorem Yqt : farQ.ok := ⟨by decide, by decide, by decide⟩
theorem Yqo : pqL ⟨lineQ.d, lineQ.xs⟩ (oneQ 4 2) = ⟨lineQ.d, [oneQ 3 1, oneQ 4 2, oneQ 6 1]⟩ := by
  have h := Yo9.2.1
  have h2 := (Yn0 Yo9.1).1
  have e : lineQ = ⟨lineQ.d, lineQ.xs⟩ := rfl
  rw [← e]
  rw [h2] at h ⊢
  show Ln.mk lineQ.d _ = _
  congr 1
theorem YpW : Tryd.prog.built 23 [(0, .int .u8 1)] = some (d1Q.1.map bv).toArray := by kernel_rfl
set_option linter.unusedSimpArgs false
set_option maxRecDepth 100000 in
set_option maxHeartbeats 16000000 in
theorem walk  (w : World) (hT : Tab w) :
    Calls Tryd.prog 3 #[] w fun e w' => e = .returned (.bool true) ∧ Below w.heap.size w w' := by
  have hP41 := hid (fun A W (h : Row (fun _ => True) W A lineQ.xs) hW => show Calls Tryd.prog 7 #[.agg (lnC lineQ.d A 3 3).toArray, .agg (txC (oneQ 4 1)).toArray] W fun e w' => ∃ A' c' D' e', e = .returned (.tuple #[.agg (lnC zL.d A' 0 c').toArray, .slice D' 0 e', .int .i64 190]) ∧ (Row (fun _ => True) w' A' ([] : List Tx) ∧ Row (fun _ => True) w' D' ([] : List Tx) ∧ 0 ≤ c' ∧ c' ≤ maxLen) ∧ Below W.heap.size W w' by
    refine (Ype (fun _ => True) lineQ.d A 3 lineQ.xs (oneQ 4 1) W h (YpB (by decide) (by decide)) (show 3 ≤ 1000000 by decide) (Vx8 _) (by unfold maxLen; decide) hW).mono ?_
    rintro e w' ⟨A', c', D', e', rfl, o1, o2, hb⟩
    rw [show pqE ⟨lineQ.d, lineQ.xs⟩ (oneQ 4 1) = 190 from Yo8, show pqL ⟨lineQ.d, lineQ.xs⟩ (oneQ 4 1) = zL from (YoI (by rw [show pqE ⟨lineQ.d, lineQ.xs⟩ (oneQ 4 1) = 190 from Yo8]; decide)).1, show pqO ⟨lineQ.d, lineQ.xs⟩ (oneQ 4 1) = ([] : List Tx) from (YoI (by rw [show pqE ⟨lineQ.d, lineQ.xs⟩ (oneQ 4 1) = 190 from Yo8]; decide)).2]
    rw [show pqL ⟨lineQ.d, lineQ.xs⟩ (oneQ 4 1) = zL from (YoI (by rw [show pqE ⟨lineQ.d, lineQ.xs⟩ (oneQ 4 1) = 190 from Yo8]; decide)).1] at o1
    rw [show pqO ⟨lineQ.d, lineQ.xs⟩ (oneQ 4 1) = ([] : List Tx) from (YoI (by rw [show pqE ⟨lineQ.d, lineQ.xs⟩ (oneQ 4 1) = 190 from Yo8]; decide)).2] at o2
    exact ⟨A', c', D', e', rfl, ⟨(OwnR.row o1).any, (OwnR.row o2).any, o1.cap.1, o1.cap.2⟩, hb⟩)
  have hPF := hid (fun A W (h : Row (fun _ => True) W A lineQ.xs) hW => show Calls Tryd.prog 7 #[.agg (lnC lineQ.d A 3 3).toArray, .agg (txC (farQ)).toArray] W fun e w' => ∃ A' c' D' e', e = .returned (.tuple #[.agg (lnC zL.d A' 0 c').toArray, .slice D' 0 e', .int .i64 2]) ∧ (Row (fun _ => True) w' A' ([] : List Tx) ∧ Row (fun _ => True) w' D' ([] : List Tx) ∧ 0 ≤ c' ∧ c' ≤ maxLen) ∧ Below W.heap.size W w' by
    refine (Ype (fun _ => True) lineQ.d A 3 lineQ.xs (farQ) W h Yqt (show 3 ≤ 1000000 by decide) (Vx8 _) (by unfold maxLen; decide) hW).mono ?_
    rintro e w' ⟨A', c', D', e', rfl, o1, o2, hb⟩
    rw [show pqE ⟨lineQ.d, lineQ.xs⟩ (farQ) = 2 from YoR, show pqL ⟨lineQ.d, lineQ.xs⟩ (farQ) = zL from (YoI (by rw [show pqE ⟨lineQ.d, lineQ.xs⟩ farQ = 2 from YoR]; decide)).1, show pqO ⟨lineQ.d, lineQ.xs⟩ (farQ) = ([] : List Tx) from (YoI (by rw [show pqE ⟨lineQ.d, lineQ.xs⟩ farQ = 2 from YoR]; decide)).2]
    rw [show pqL ⟨lineQ.d, lineQ.xs⟩ (farQ) = zL from (YoI (by rw [show pqE ⟨lineQ.d, lineQ.xs⟩ farQ = 2 from YoR]; decide)).1] at o1
    rw [show pqO ⟨lineQ.d, lineQ.xs⟩ (farQ) = ([] : List Tx) from (YoI (by rw [show pqE ⟨lineQ.d, lineQ.xs⟩ farQ = 2 from YoR]; decide)).2] at o2
    exact ⟨A', c', D', e', rfl, ⟨(OwnR.row o1).any, (OwnR.row o2).any, o1.cap.1, o1.cap.2⟩, hb⟩)
  have hP42 := hid (fun A W (h : Row (fun _ => True) W A lineQ.xs) hW => show Calls Tryd.prog 7 #[.agg (lnC lineQ.d A 3 3).toArray, .agg (txC (oneQ 4 2)).toArray] W fun e w' => ∃ A' c' D' e', e = .returned (.tuple #[.agg (lnC lineQ.d A' 3 c').toArray, .slice D' 1 e', .int .i64 0]) ∧ (Row (fun _ => True) w' A' [oneQ 3 1, oneQ 4 2, oneQ 6 1] ∧ Row (fun _ => True) w' D' [oneQ 4 1] ∧ 3 ≤ c' ∧ c' ≤ maxLen) ∧ Below W.heap.size W w' by
    refine (Ype (fun _ => True) lineQ.d A 3 lineQ.xs (oneQ 4 2) W h (YpB (by decide) (by decide)) (show 3 ≤ 1000000 by decide) (Vx8 _) (by unfold maxLen; decide) hW).mono ?_
    rintro e w' ⟨A', c', D', e', rfl, o1, o2, hb⟩
    rw [show pqE ⟨lineQ.d, lineQ.xs⟩ (oneQ 4 2) = 0 from Yo9.1, show pqL ⟨lineQ.d, lineQ.xs⟩ (oneQ 4 2) = ⟨lineQ.d, [oneQ 3 1, oneQ 4 2, oneQ 6 1]⟩ from Yqo, show pqO ⟨lineQ.d, lineQ.xs⟩ (oneQ 4 2) = [oneQ 4 1] from Yo9.2.2]
    rw [show pqL ⟨lineQ.d, lineQ.xs⟩ (oneQ 4 2) = ⟨lineQ.d, [oneQ 3 1, oneQ 4 2, oneQ 6 1]⟩ from Yqo] at o1
    rw [show pqO ⟨lineQ.d, lineQ.xs⟩ (oneQ 4 2) = [oneQ 4 1] from Yo9.2.2] at o2
    exact ⟨A', c', D', e', rfl, ⟨(OwnR.row o1).any, (OwnR.row o2).any, o1.cap.1, o1.cap.2⟩, hb⟩)
  have hP50 := hid (fun A W (h : Row (fun _ => True) W A lineQ.xs) hW => show Calls Tryd.prog 7 #[.agg (lnC lineQ.d A 3 3).toArray, .agg (txC (oneQ 5 0)).toArray] W fun e w' => ∃ A' c' D' e', e = .returned (.tuple #[.agg (lnC lineQ.d A' 4 c').toArray, .slice D' 0 e', .int .i64 0]) ∧ (Row (fun _ => True) w' A' [oneQ 3 1, oneQ 4 1, oneQ 5 0, oneQ 6 1] ∧ Row (fun _ => True) w' D' ([] : List Tx) ∧ 4 ≤ c' ∧ c' ≤ maxLen) ∧ Below W.heap.size W w' by
    refine (Ype (fun _ => True) lineQ.d A 3 lineQ.xs (oneQ 5 0) W h (YpB (by decide) (by decide)) (show 3 ≤ 1000000 by decide) (Vx8 _) (by unfold maxLen; decide) hW).mono ?_
    rintro e w' ⟨A', c', D', e', rfl, o1, o2, hb⟩
    rw [show pqE ⟨lineQ.d, lineQ.xs⟩ (oneQ 5 0) = 0 from YoH.1, show pqL ⟨lineQ.d, lineQ.xs⟩ (oneQ 5 0) = ⟨lineQ.d, [oneQ 3 1, oneQ 4 1, oneQ 5 0, oneQ 6 1]⟩ from YoH.2.1, show pqO ⟨lineQ.d, lineQ.xs⟩ (oneQ 5 0) = ([] : List Tx) from YoH.2.2]
    rw [show pqL ⟨lineQ.d, lineQ.xs⟩ (oneQ 5 0) = ⟨lineQ.d, [oneQ 3 1, oneQ 4 1, oneQ 5 0, oneQ 6 1]⟩ from YoH.2.1] at o1
    rw [show pqO ⟨lineQ.d, lineQ.xs⟩ (oneQ 5 0) = ([] : List Tx) from YoH.2.2] at o2
    exact ⟨A', c', D', e', rfl, ⟨(OwnR.row o1).any, (OwnR.row o2).any, o1.cap.1, o1.cap.2⟩, hb⟩)
  have hLn := hid (fun W hW => YpF W hW)
  have hAl := hid (fun W hW => Ypo W hW)
  have h41 := hid (fun W hW => Ypf 4 1 (by decide) (by decide) W hW)
  have h42 := hid (fun W hW => Ypf 4 2 (by decide) (by decide) W hW)
  have h50 := hid (fun W hW => Ypf 5 0 (by decide) (by decide) W hW)
  have hSg := hid (fun W hW => Zc2 ⟨d1Q, zDq, 0, 0, 0, zDq⟩ ⟨by decide, by decide, by decide⟩ W hW)
  rw [show signX ⟨d1Q, zDq, 0, 0, 0, zDq⟩ = farQ from rfl] at hSg
  have hRd := hid (fun A c W (h : Row (fun _ => True) W A [oneQ 3 1, oneQ 4 1, oneQ 5 0, oneQ 6 1]) (hc : 4 ≤ c) hW => show Calls Tryd.prog 11 #[.agg (lnC lineQ.d A 4 c).toArray, .int .u64 3] W fun e w' => ∃ A' c', e = .returned (.tuple #[.slice A' 4 c', .int .i64 0]) ∧ Below W.heap.size W w' by
    refine (Ypg (fun _ => True) lineQ.d A c 3 [oneQ 3 1, oneQ 4 1, oneQ 5 0, oneQ 6 1] W h (show 4 ≤ 1000000 by decide) hc (by decide) hW).mono ?_
    rintro e w' ⟨A', c', rfl, -, hb⟩
    rw [show readyL ⟨lineQ.d, [oneQ 3 1, oneQ 4 1, oneQ 5 0, oneQ 6 1]⟩ 3 = [oneQ 3 1, oneQ 4 1, oneQ 5 0, oneQ 6 1] from YoH.2.1 ▸ YoJ, show checkL ⟨lineQ.d, [oneQ 3 1, oneQ 4 1, oneQ 5 0, oneQ 6 1]⟩ = 0 from (Yph (n := 0) (YoH.2.1 ▸ (Yn6 YoH.1).2.2.2.2)).2.2]
    exact ⟨A', c', rfl, hb⟩)
  have hS1 := hid (fun A D c d W h1 h2 => Ypd [oneQ 4 1] 1 rfl (by decide) A D c d W h1 h2)
  have hCk := hid (fun A W (h : Row (fun _ => True) W A [zX]) hW => show Calls Tryd.prog 14 #[.agg (lnC zDq A 1 1).toArray] W fun e w' => e = .returned (.int .i64 8) ∧ Below W.heap.size W w' by
    have := Ypb (fun _ => True) zDq A 1 [zX] W h (show 1 ≤ 1000000 by decide) hW
    rw [show checkL ⟨zDq, [zX]⟩ = 8 from (YpK (n := 0) YoP).2.2] at this
    exact this)
  have hv1 : [Value.agg (txC (oneQ 4 1)).toArray] = [oneQ 4 1].map fun x => Value.agg (txC x).toArray := rfl
  have hvz : [Value.agg (txC zX).toArray] = [zX].map fun x => Value.agg (txC x).toArray := rfl
  have hn1 : Hid ([oneQ 4 1].length = 1) := hid rfl
  have hnz : Hid ([zX].length = 1) := hid rfl
  have ho1 : Hid (∀ x ∈ [oneQ 4 1], x.ok) := hid (ok_one (by decide) (by decide))
  have hoz : Hid (∀ x ∈ [zX], x.ok) := hid (by intro x hx; rw [Vy4] at hx; subst hx; exact ⟨by decide, by decide, by decide⟩)
  have bt0 : Hid (Tryd.prog.built 33 [] = some (txC zX).toArray) := hid Zfa
  have bfa := hid YpP
  have bd1 := hid YpW
  have blx := hid (fun A n c => YpX A n c)
  have js := hid (fun d A n c => YoL d A n c)
  have zs := hid (fun d A n c => YoY d A n c)
  have os := hid (fun d A n c => YoZ d A n c)
  have hbx := hid (fun (W : World) (g : Nat) (d : Dg) (A : Option Addr) (n c : Nat) (h : W.heap[g]? = some (.cells (lnC d A n c).toArray 26 (0, 0))) => (BoxL.of (Zae h)).x)
  have hul := Tryd.underlying26
  replace hv1 := hid hv1
  replace hvz := hid hvz
  have hlow := hid hT.low
  have H0 := hid hT
  have W0 := hid (Below.refl w.heap.size w)
  clear hT
  generalize txC (oneQ 4 1) = x41 at *
  generalize txC (oneQ 4 2) = x42 at *
  generalize txC (oneQ 5 0) = x50 at *
  generalize txC farQ = xfa at *
  generalize txC ⟨d1Q, zDq, 0, 0, 0, zDq⟩ = xfu at *
  generalize txC zX = xz at *
  generalize d1Q.1.map bv = cd1 at *
  generalize [oneQ 3 1, oneQ 4 1, oneQ 5 0, oneQ 6 1] = l4 at *
  generalize [oneQ 3 1, oneQ 4 2, oneQ 6 1] = l42 at *
  generalize [oneQ 4 1] = l1 at *
  generalize [zX] = lz at *
  generalize lineQ.d = ld at *
  generalize lineQ.xs = lx at *
  generalize zL.d = zd at *
  generalize zDq = zq at *
  go_enter Tryd.func3, Tryd.ntmps3
  go_wp2_with fail
  refine (hLn.out _ H0.out).mono ?_
  rintro e w1 ⟨A1, rfl, r1, hb⟩
  have H1 := hid (H0.out.bel hb (Vx4 hlow.out W0.out.size))
  have W1 := hid (W0.out.trans (hb.mono W0.out.size))
  clear H0 W0
  have L1 := hid r1
  clear r1
  clear hb 
  go_wp2_with fail
  refine (h41.out _ H1.out).mono ?_
  rintro e w2 ⟨rfl, hb⟩
  have H2 := hid (H1.out.bel hb (Vx4 hlow.out W1.out.size))
  have W2 := hid (W1.out.trans (hb.mono W1.out.size))
  have L2 := hid (L1.out.bel hb)
  clear H1 W1 L1
  clear hb 
  go_wp2_with fail
  refine (hP41.out A1 _ L2.out H2.out).mono ?_
  rintro e w3 ⟨A3, q3, D3, e3, rfl, ⟨r3, o3, k3, m3⟩, hb⟩
  have H3 := hid (H2.out.bel hb (Vx4 hlow.out W2.out.size))
  have W3 := hid (W2.out.trans (hb.mono W2.out.size))
  have L3 := hid (L2.out.bel hb)
  clear H2 W2 L2
  clear r3 o3 k3 m3
  clear hb 
  clear L3
  have e3z := hid (Vx0 w3 (.cells zLnC 26))
  go_wp2_with (first
    | (with_reducible refine Zac rfl 26 rfl zLnC YoX ?_)
    | ((with_reducible refine stW 1 19 w3.heap.size 26 zLnC ?_ ?_ ?_ ?_ ?_); exact e3z.out; exact js.out _ _ _ _; exact zs.out _ _ _ _; exact os.out _ _ _ _; intro w4 hgS hbS hsS; have X4 := hid (Zan rfl hbS); have Y4 := hid hgS; clear hgS hbS hsS; have H4 := hid (H3.out.bel X4.out (Vx4 hlow.out W3.out.size)); have W4 := hid (W3.out.trans (X4.out.mono W3.out.size)); clear H3 W3))
  clear Y4
  refine (hLn.out _ H4.out).mono ?_
  rintro e w5 ⟨A5, rfl, r5, hb⟩
  have H5 := hid (H4.out.bel hb (Vx4 hlow.out W4.out.size))
  have W5 := hid (W4.out.trans (hb.mono W4.out.size))
  clear H4 W4
  have L5 := hid r5
  clear r5
  clear hb 
  go_wp2_with fail
  refine (h42.out _ H5.out).mono ?_
  rintro e w6 ⟨rfl, hb⟩
  have H6 := hid (H5.out.bel hb (Vx4 hlow.out W5.out.size))
  have W6 := hid (W5.out.trans (hb.mono W5.out.size))
  have L6 := hid (L5.out.bel hb)
  clear H5 W5 L5
  clear hb 
  go_wp2_with fail
  refine (hP42.out A5 _ L6.out H6.out).mono ?_
  rintro e w7 ⟨A7, q7, D7, e7, rfl, ⟨r7, o7, k7, m7⟩, hb⟩
  have H7 := hid (H6.out.bel hb (Vx4 hlow.out W6.out.size))
  have W7 := hid (W6.out.trans (hb.mono W6.out.size))
  have L7 := hid (L6.out.bel hb)
  clear H6 W6 L6
  have O7 := hid o7
  clear r7 o7 k7 m7
  clear hb 
  clear L7
  have e7z := hid (Vx0 w7 (.cells zLnC 26))
  go_wp2_with (first
    | (with_reducible refine Zac rfl 26 rfl zLnC YoX ?_)
    | ((with_reducible refine stW 4 26 w7.heap.size 26 zLnC ?_ ?_ ?_ ?_ ?_); exact e7z.out; exact js.out _ _ _ _; exact zs.out _ _ _ _; exact os.out _ _ _ _; intro w8 hgS hbS hsS; have X8 := hid (Zan rfl hbS); have Z8 := hid hgS; clear hgS hbS hsS; have H8 := hid (H7.out.bel X8.out (Vx4 hlow.out W7.out.size)); have W8 := hid (W7.out.trans (X8.out.mono W7.out.size)); have O8 := hid (O7.out.bel X8.out); clear H7 W7 O7))
  refine (hLn.out _ H8.out).mono ?_
  rintro e w9 ⟨A9, rfl, r9, hb⟩
  have H9 := hid (H8.out.bel hb (Vx4 hlow.out W8.out.size))
  have W9 := hid (W8.out.trans (hb.mono W8.out.size))
  have O9 := hid (O8.out.bel hb)
  have Z9 := hid ((hb.block _ (block_lt Z8.out)).trans Z8.out)
  clear H8 W8 O8 Z8
  have L9 := hid r9
  clear r9
  clear hb 
  go_wp2_with (first
    | ((with_reducible refine Zaf rfl 23 _ rfl cd1.toArray [(0, .int .u8 1)] ?_ ?_ ?_); exact bd1.out; rfl)
    | ((with_reducible refine Zaf rfl 33 _ rfl xfu.toArray [(0, .agg cd1.toArray)] ?_ ?_ ?_); exact bfa.out; rfl))
  refine (hSg.out _ H9.out).mono ?_
  rintro e w10 ⟨rfl, hb⟩
  have H10 := hid (H9.out.bel hb (Vx4 hlow.out W9.out.size))
  have W10 := hid (W9.out.trans (hb.mono W9.out.size))
  have O10 := hid (O9.out.bel hb)
  have Z10 := hid ((hb.block _ (block_lt Z9.out)).trans Z9.out)
  have L10 := hid (L9.out.bel hb)
  clear H9 W9 O9 Z9 L9
  clear hb 
  go_wp2_with fail
  refine (hPF.out A9 _ L10.out H10.out).mono ?_
  rintro e w11 ⟨A11, q11, D11, e11, rfl, ⟨r11, o11, k11, m11⟩, hb⟩
  have H11 := hid (H10.out.bel hb (Vx4 hlow.out W10.out.size))
  have W11 := hid (W10.out.trans (hb.mono W10.out.size))
  have O11 := hid (O10.out.bel hb)
  have Z11 := hid ((hb.block _ (block_lt Z10.out)).trans Z10.out)
  have L11 := hid (L10.out.bel hb)
  clear H10 W10 O10 Z10 L10
  clear r11 o11 k11 m11
  clear hb 
  clear L11
  have e11z := hid (Vx0 w11 (.cells zLnC 26))
  go_wp2_with (first
    | (with_reducible refine Zac rfl 26 rfl zLnC YoX ?_)
    | ((with_reducible refine stW 7 35 w11.heap.size 26 zLnC ?_ ?_ ?_ ?_ ?_); exact e11z.out; exact js.out _ _ _ _; exact zs.out _ _ _ _; exact os.out _ _ _ _; intro w12 hgS hbS hsS; have X12 := hid (Zan rfl hbS); have Y12 := hid hgS; clear hgS hbS hsS; have H12 := hid (H11.out.bel X12.out (Vx4 hlow.out W11.out.size)); have W12 := hid (W11.out.trans (X12.out.mono W11.out.size)); have O12 := hid (O11.out.bel X12.out); have Z12 := hid ((X12.out.block _ (block_lt Z11.out)).trans Z11.out); clear H11 W11 O11 Z11))
  clear Y12
  refine (hLn.out _ H12.out).mono ?_
  rintro e w13 ⟨A13, rfl, r13, hb⟩
  have H13 := hid (H12.out.bel hb (Vx4 hlow.out W12.out.size))
  have W13 := hid (W12.out.trans (hb.mono W12.out.size))
  have O13 := hid (O12.out.bel hb)
  have Z13 := hid ((hb.block _ (block_lt Z12.out)).trans Z12.out)
  clear H12 W12 O12 Z12
  have L13 := hid r13
  clear r13
  clear hb 
  go_wp2_with fail
  refine (h50.out _ H13.out).mono ?_
  rintro e w14 ⟨rfl, hb⟩
  have H14 := hid (H13.out.bel hb (Vx4 hlow.out W13.out.size))
  have W14 := hid (W13.out.trans (hb.mono W13.out.size))
  have O14 := hid (O13.out.bel hb)
  have Z14 := hid ((hb.block _ (block_lt Z13.out)).trans Z13.out)
  have L14 := hid (L13.out.bel hb)
  clear H13 W13 O13 Z13 L13
  clear hb 
  go_wp2_with fail
  refine (hP50.out A13 _ L14.out H14.out).mono ?_
  rintro e w15 ⟨A15, q15, D15, e15, rfl, ⟨r15, o15, k15, m15⟩, hb⟩
  have H15 := hid (H14.out.bel hb (Vx4 hlow.out W14.out.size))
  have W15 := hid (W14.out.trans (hb.mono W14.out.size))
  have O15 := hid (O14.out.bel hb)
  have Z15 := hid ((hb.block _ (block_lt Z14.out)).trans Z14.out)
  have L15 := hid (L14.out.bel hb)
  clear H14 W14 O14 Z14 L14
  have M15 := hid r15
  replace k15 := hid k15
  clear r15 o15 m15
  clear hb 
  clear L15
  have e15z := hid (Vx0 w15 (.cells zLnC 26))
  go_wp2_with (first
    | (with_reducible refine Zac rfl 26 rfl zLnC YoX ?_)
    | ((with_reducible refine stW 10 42 w15.heap.size 26 zLnC ?_ ?_ ?_ ?_ ?_); exact e15z.out; exact js.out _ _ _ _; exact zs.out _ _ _ _; exact os.out _ _ _ _; intro w16 hgS hbS hsS; have X16 := hid (Zan rfl hbS); have V16 := hid hgS; clear hgS hbS hsS; have H16 := hid (H15.out.bel X16.out (Vx4 hlow.out W15.out.size)); have W16 := hid (W15.out.trans (X16.out.mono W15.out.size)); have O16 := hid (O15.out.bel X16.out); have Z16 := hid ((X16.out.block _ (block_lt Z15.out)).trans Z15.out); have M16 := hid (M15.out.bel X16.out); clear H15 W15 O15 Z15 M15)
    | (with_reducible refine lDr (Zae V16.out) (js.out _ _ _ _) hul ?_))
  refine (hRd.out A15 _ _ M16.out k15.out H16.out).mono ?_
  rintro e w17 ⟨A17, q17, rfl, hb⟩
  have H17 := hid (H16.out.bel hb (Vx4 hlow.out W16.out.size))
  have W17 := hid (W16.out.trans (hb.mono W16.out.size))
  have O17 := hid (O16.out.bel hb)
  have Z17 := hid ((hb.block _ (block_lt Z16.out)).trans Z16.out)
  have M17 := hid (M16.out.bel hb)
  have V17 := hid ((hb.block _ (block_lt V16.out)).trans V16.out)
  clear H16 W16 O16 Z16 M16 V16
  clear hb 
  clear M17
  clear V17
  go_wp2_with fail
  refine (hAl.out _ H17.out).mono ?_
  rintro e w18 ⟨rfl, hb⟩
  have H18 := hid (H17.out.bel hb (Vx4 hlow.out W17.out.size))
  have W18 := hid (W17.out.trans (hb.mono W17.out.size))
  have O18 := hid (O17.out.bel hb)
  have Z18 := hid ((hb.block _ (block_lt Z17.out)).trans Z17.out)
  clear H17 W17 O17 Z17
  clear hb 
  have cz18 := hbx.out _ _ _ _ _ _ Z18.out
  go_wp2_with fail
  refine (h41.out _ H18.out).mono ?_
  rintro e w19 ⟨rfl, hb⟩
  have H19 := hid (H18.out.bel hb (Vx4 hlow.out W18.out.size))
  have W19 := hid (W18.out.trans (hb.mono W18.out.size))
  have O19 := hid (O18.out.bel hb)
  have Z19 := hid ((hb.block _ (block_lt Z18.out)).trans Z18.out)
  clear H18 W18 O18 Z18
  clear hb 
  go_wp2_with (((refine Ypc rfl 1 _ rfl l1 [.agg x41.toArray] hv1.out hn1.out (by decide) (by decide) ho1.out rfl ?_); intro g20 w20 o5 B5; have S20 := hid (OwnR.row o5).any; have H20 := hid (H19.out.bel B5 (Vx4 hlow.out W19.out.size)); have W20 := hid (W19.out.trans (B5.mono W19.out.size)); have O20 := hid (O19.out.bel B5); have Z20 := hid ((B5.block _ (block_lt Z19.out)).trans Z19.out); clear H19 W19 O19 Z19; clear o5 B5))
  refine (hS1.out _ _ _ _ _ O20.out S20.out).mono ?_
  rintro e w21 ⟨rfl, hb⟩
  have H21 := hid (H20.out.bel hb (Vx4 hlow.out W20.out.size))
  have W21 := hid (W20.out.trans (hb.mono W20.out.size))
  have O21 := hid (O20.out.bel hb)
  have Z21 := hid ((hb.block _ (block_lt Z20.out)).trans Z20.out)
  have S21 := hid (S20.out.bel hb)
  clear H20 W20 O20 Z20 S20
  clear hb 
  clear O21
  clear S21
  go_wp2_with (first
    | ((with_reducible refine Zaf ?_ 33 _ rfl xz.toArray [] ?_ ?_ ?_); rfl; exact bt0.out; rfl)
    | ((refine Ypc rfl 1 _ rfl lz [.agg xz.toArray] hvz.out hnz.out (by decide) (by decide) hoz.out rfl ?_); intro g22 w22 o5 B5; have S22 := hid (OwnR.row o5).any; have H22 := hid (H21.out.bel B5 (Vx4 hlow.out W21.out.size)); have W22 := hid (W21.out.trans (B5.mono W21.out.size)); have Z22 := hid ((B5.block _ (block_lt Z21.out)).trans Z21.out); clear H21 W21 Z21; clear o5 B5)
    | ((with_reducible refine Zaf ?_ 26 _ rfl (lnC zq (some ⟨g22, 0, none⟩) 1 1).toArray [(1, .slice (some ⟨g22, 0, none⟩) 1 1)] ?_ ?_ ?_); rfl; exact blx.out _ _ _; rfl))
  refine (hCk.out _ _ S22.out H22.out).mono ?_
  rintro e w23 ⟨rfl, hb⟩
  have H23 := hid (H22.out.bel hb (Vx4 hlow.out W22.out.size))
  have W23 := hid (W22.out.trans (hb.mono W22.out.size))
  have Z23 := hid ((hb.block _ (block_lt Z22.out)).trans Z22.out)
  have S23 := hid (S22.out.bel hb)
  clear H22 W22 Z22 S22
  clear hb 
  go_wp2
  go_ret
  exact ⟨rfl, W23.out⟩
end Go.Proofs.YtimaoonpgilekaaDoor.queueNames
