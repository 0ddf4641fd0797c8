/-
  The walk of QueueRuns.
-/
import Derived.Test.YtimaoonpgilekaaDoorDoor
import Derived.ProofKit
import Derived.ShutString
import Derived.ChangeOld
import Derived.Below
import Derived.Test.YtimaoonpgilekaaDoorQuW
namespace Go.Proofs.YtimaoonpgilekaaDoor.queueRuns
open Go.ChangeShapes Go.WideShapes Go.ChangeAt Go.RowKit
open Go.ChangeMaps (open_string shut_string)
set_option linter.unusedVariables false

theorem own : ownKnob Tryd.prog.godebug = none := by kernel_rfl
theorem laidOut : laidOutB Tryd.prog = true := by kernel_rfl

/-- WHAT THE WALK IS TOLD OF A SLICE OF INTEGERS THAT CAME IN: it is nil; or it leads to a row of 'cap' cells, the numbers 'zs' (the first 'len' are its elements, the rest its spare room), each fitting its kind. -/
def IsRow (k : IntKind) (w : World) (a : Option Addr) (len cap : Nat) (zs : List Int) : Prop :=
  (a = none ∧ len = 0 ∧ cap = 0 ∧ zs = []) ∨
  ∃ x, a = some x ∧ len ≤ cap ∧ cap ≤ maxLen ∧ zs.length = cap ∧ (∀ i, i < zs.length → w.cell? (x.add i) = some (.int k (zs.getD i 0))) ∧ ∀ n ∈ zs, (Lit.int k n).wf = true

/-! ### the walk -/
open Go.Proofs.YtimaoonpgilekaaDoor
set_option linter.unusedSimpArgs false
set_option maxRecDepth 100000 in
set_option maxHeartbeats 16000000 in
theorem walk (x0 : Ln) (vs0 : List Value) (a1 : Int) (w : World) (w0 : Enc.rep (fun b => b < w.heap.size) w x0 vs0) (w1 : (Lit.int .u64 a1).wf = true) (hT : Tab w) :
    Calls Tryd.prog 6 #[.agg vs0.toArray, .int .u64 a1] w fun e w' => e = .returned (.bool true) ∧ Below w.heap.size w w' := by
  obtain ⟨A0, c0, rfl, hcc, hcm, hr⟩ := Yo2 w0
  obtain ⟨d, xs⟩ := x0
  obtain ⟨nn, rfl, hnn⟩ := YqD w1
  dsimp only at hcc hr ⊢
  have hul := Tryd.underlying26
  have hux := Tryd.underlying33
  have hlow := hid hT.low
  have L0 := hid (BoxL.new w d A0 xs.length c0 26).all
  have W0 := hid (Zad w (.cells (lnC d A0 xs.length c0).toArray 26))
  have R0 := hid (hr.any.bel W0.out)
  have H0 := hid (hT.bel W0.out hlow.out)
  have hlen0 : xs.length ≤ 1000000 ∨ 12 < xs.length := by omega
  have hAl := hid (fun W hW => Ypo W hW)
  have hRd := hid (fun W (h : Row (fun _ => True) W A0 xs) (hs : xs.length ≤ 12) hW => Ypg (fun _ => True) d A0 c0 nn xs W h (by omega) hcc hnn hW)
  have hPa := hid (fun W (h : Row (fun _ => True) W A0 xs) (hs : xs.length ≤ 12) hW => Ypt (fun _ => True) d A0 c0 nn xs W h (by omega) hcc hW)
  have hCk := hid (fun W (h : Row (fun _ => True) W A0 xs) (hs : xs.length ≤ 12) hW => Ypb (fun _ => True) d A0 c0 xs W h (by omega) hW)
  have hFi := hid (fun n W (h : Row (fun _ => True) W A0 xs) (hs : xs.length ≤ 12) => Yps (fun _ => True) d A0 c0 n xs W h (by omega))
  have jl := hid (YoL d A0 xs.length c0)
  have js := hid (fun d A n c => YoL d A n c)
  have zs := hid (fun d A n c => YoY d A n c)
  have os := hid (fun d A n c => YoZ d A n c)
  have hbx := hid (fun (W : World) (g : Nat) (d : Dg) (A : Option Addr) (n c : Nat) (h : W.rangeAt g 0 (lnC d A n c)) => (BoxL.of h).x)
  have c00 := hbx.out _ _ _ _ _ _ L0.out
  clear w0 w1 hr hT hlen0
  obtain ⟨cl, hcl⟩ : ∃ l, lnC d A0 xs.length c0 = l := ⟨_, rfl⟩
  have hx0 := hid (fun (W : World) (h : W.rangeAt w.heap.size 0 (lnC d A0 xs.length c0)) => hbx.out _ _ _ _ _ _ h)
  rw [hcl] at L0 W0 R0 H0 hRd hPa hCk hFi jl c00 hx0 ⊢
  replace hcl := hid hcl
  go_enter Tryd.func6, Tryd.ntmps6
  go_wp2_with fail
  generalize w.alloc (.cells cl.toArray 26) = w0 at *
  clear c00
  refine (hAl.out _ H0.out).mono ?_
  rintro e w1 ⟨rfl, hb⟩
  have H1 := hid (H0.out.bel hb (Vx4 hlow.out W0.out.size))
  have W1 := hid (W0.out.trans (hb.mono W0.out.size))
  have R1 := hid (R0.out.bel hb)
  have L1 := hid (Zab hb L0.out)
  clear H0 W0 R0 L0
  clear hb 
  have cx1 := hx0.out _ L1.out
  by_cases hlong : 12 < xs.length
  · have hlg : (12 : Int) < (xs.length : Int) := by omega
    go_wp2
    go_ret
    exact ⟨rfl, W1.out⟩
  have hle : xs.length ≤ 12 := by omega
  have hlg : ¬ (12 : Int) < (xs.length : Int) := by omega
  replace hle := hid hle
  clear hlong
  go_wp2_with ((with_reducible refine lDr L1.out jl.out hul ?_))
  refine (hRd.out _ R1.out hle.out H1.out).mono ?_
  rintro e w2 ⟨A2, c2, rfl, o2, hb⟩
  have H2 := hid (H1.out.bel hb (Vx4 hlow.out W1.out.size))
  have W2 := hid (W1.out.trans (hb.mono W1.out.size))
  have R2 := hid (R1.out.bel hb)
  have L2 := hid (Zab hb L1.out)
  clear H1 W1 R1 L1
  have P2 := hid (OwnR.row o2).any
  clear o2 cx1 hlg
  clear hb 
  go_wp2_with ((with_reducible refine lDr L2.out jl.out hul ?_))
  refine (hPa.out _ R2.out hle.out H2.out).mono ?_
  rintro e w3 ⟨A3, c3, D3, e3, rfl, o3, p3, hb⟩
  have H3 := hid (H2.out.bel hb (Vx4 hlow.out W2.out.size))
  have W3 := hid (W2.out.trans (hb.mono W2.out.size))
  have R3 := hid (R2.out.bel hb)
  have L3 := hid (Zab hb L2.out)
  have P3 := hid (P2.out.bel hb)
  clear H2 W2 R2 L2 P2
  have X3 := hid (OwnR.row o3).any
  have G3 := hid (OwnR.row p3).any
  clear o3 p3 hb
  have e3z := hid (Vx0 w3 (.cells zLnC 26))
  obtain ⟨m, hm⟩ : ∃ m, mayL ⟨d, xs⟩ = m := ⟨_, rfl⟩
  cases m
  · obtain ⟨q1, q2, q3⟩ := YpK (n := nn) hm
    obtain ⟨q4, -⟩ := YpL (n := nn) hm
    rw [q1, q2, q3, q4]
    rw [q3] at hCk
    clear q1 q2 q3 q4 hm X3 G3 P3 hRd hPa hFi
    go_wp2_with (first
      | (with_reducible refine Zac rfl 26 rfl zLnC YoX ?_)
      | ((with_reducible refine stW 8 37 w3.heap.size 26 zLnC ?_ ?_ ?_ ?_ ?_); exact e3z.out; exact js.out _ _ _ _; exact zs.out _ _ _ _; exact os.out _ _ _ _; intro w4 hgS hbS hsS; have Y4 := hid (Zan rfl hbS); clear hgS hbS hsS; have H4 := hid (H3.out.bel Y4.out (Vx4 hlow.out W3.out.size)); have W4 := hid (W3.out.trans (Y4.out.mono W3.out.size)); have R4 := hid (R3.out.bel Y4.out); have L4 := hid (Zab Y4.out L3.out); clear H3 W3 R3 L3)
      | (with_reducible refine lDr L4.out jl.out hul ?_))
    refine (hCk.out _ R4.out hle.out H4.out).mono ?_
    rintro e w5 ⟨rfl, hb⟩
    have H5 := hid (H4.out.bel hb (Vx4 hlow.out W4.out.size))
    have W5 := hid (W4.out.trans (hb.mono W4.out.size))
    have R5 := hid (R4.out.bel hb)
    have L5 := hid (Zab hb L4.out)
    clear H4 W4 R4 L4
    clear hb 
    go_wp2
    go_ret
    exact ⟨rfl, W5.out⟩
  · obtain ⟨q1, q2, q3⟩ := Yph (n := nn) hm
    obtain ⟨q4, -⟩ := YpH (n := nn) hm
    have hso : soB xs = true := (Yn2 hm).2.1
    have hoks := hid (fun (j : Nat) (hj : j < xs.length) => (Yoa R3.out hj).choose_spec.choose_spec.2.2)
    have hkl := hid (Ypi xs nn)
    have hrun := hid (fun i hi => YoT hso nn i hi)
    have hend := hid (run_end hso nn)
    have hpm := hid (YoO hm (cntN xs nn))
    rw [q1] at X3
    rw [q2] at G3
    rw [q4] at P3
    rw [q1, q2, q3, q4]
    dsimp only at *
    clear q1 q2 q3 q4 hCk hRd hPa
    have hCk2 := hid (fun A c W (h : Row (fun _ => True) W A (xs.drop (cntN xs nn))) hW => show Calls Tryd.prog 14 #[.agg (lnC d A (xs.drop (cntN xs nn)).length c).toArray] W fun e w' => e = .returned (.int .i64 0) ∧ Below W.heap.size W w' by
      have := Ypb (fun _ => True) d A c (xs.drop (cntN xs nn)) W h (by rw [List.length_drop]; have := hle.out; omega) hW
      rw [(Yph (n := 0) hpm.out).2.2] at this
      exact this)
    have hall := hid (show xs.take (cntN xs nn) ++ xs.drop (cntN xs nn) = xs from List.take_append_drop _ _)
    have hSa := hid (fun A D c d W (h : Row (fun _ => True) W A xs) (k : Row (fun _ => True) W D xs) => Ypd xs xs.length rfl (by have := hle.out; omega) A D c d W h k)
    have hlr := hid (show (runF (xs.drop (cntN xs nn)) nn).length ≤ 12 from Vx1 (Yo3 _ _) (by rw [List.length_drop]; have := hle.out; omega))
    have hlg := hid (show (xs.take (cntN xs nn)).length ≤ 12 by rw [List.length_take]; have := hle.out; omega)
    have hlx := hid (show (xs.drop (cntN xs nn)).length ≤ 12 by rw [List.length_drop]; have := hle.out; omega)
    clear hm hpm hkl hso
    generalize runF (xs.drop (cntN xs nn)) nn = rs at *
    generalize xs.take (cntN xs nn) = gs at *
    generalize xs.drop (cntN xs nn) = ys at *
    go_wp2_with (first
      | (with_reducible refine Zac rfl 26 rfl zLnC YoX ?_)
      | ((with_reducible refine stW 8 37 w3.heap.size 26 zLnC ?_ ?_ ?_ ?_ ?_); exact e3z.out; exact js.out _ _ _ _; exact zs.out _ _ _ _; exact os.out _ _ _ _; intro w4 hgS hbS hsS; have Y4 := hid (Zan rfl hbS); have B4 := hid (Zae hgS); clear hgS hbS hsS; have H4 := hid (H3.out.bel Y4.out (Vx4 hlow.out W3.out.size)); have W4 := hid (W3.out.trans (Y4.out.mono W3.out.size)); have R4 := hid (R3.out.bel Y4.out); have L4 := hid (Zab Y4.out L3.out); have P4 := hid (P3.out.bel Y4.out); have X4 := hid (X3.out.bel Y4.out); have G4 := hid (G3.out.bel Y4.out); clear H3 W3 R3 L3 P3 X3 G3))
    go_loopw [11] (fun i wr => ∃ j : Nat, j ≤ rs.length ∧ i = .int .i64 j ∧ Below w4.heap.size w4 wr) (fun i _ => rs.length - (intOf i).toNat)
    case atStart => exact ⟨0, Nat.zero_le _, rfl, Below.refl _ _⟩
    case round =>
      obtain ⟨j, hj, rfl, hbr⟩ := hrel
      have D5 := hid hbr
      have H5 := hid (H4.out.bel hbr (Vx4 hlow.out W4.out.size))
      have W5 := hid (W4.out.trans (hbr.mono W4.out.size))
      have R5 := hid (R4.out.bel hbr)
      have L5 := hid (Zab hbr L4.out)
      have P5 := hid (P4.out.bel hbr)
      have X5 := hid (X4.out.bel hbr)
      have G5 := hid (G4.out.bel hbr)
      have B5 := hid (Zab hbr B4.out)
      generalize hwr : wr = w5 at *
      replace hwr := hid hwr
      have hlr3 : rs.length ≤ 12 := hlr.out
      by_cases hlt : j < rs.length
      · obtain ⟨b, o, hA, rj, cn, mj⟩ := YpD P5.out hlt
        obtain ⟨hn, hh⟩ := hrun.out j hlt
        subst hA
        have hnj : nn + j < 18446744073709551616 := hn ▸ mj.1
        have hlt2 : (j : Int) < (rs.length : Int) := by omega
        have hF := hid (fun W (h : Row (fun _ => True) W A0 xs) => (hFi.out (nn + j) W h hle.out))
        rw [hh] at hF
        have hw1 : IntKind.u64.wrap (j : Int) = (j : Int) := by rw [IntKind.wrap_u64]; omega
        have hw2 : IntKind.u64.wrap ((nn : Int) + (j : Int)) = ((nn + j : Nat) : Int) := by rw [IntKind.wrap_u64]; omega
        have hw3 : IntKind.u64.wrap ((nn + j : Nat) : Int) = ((nn + j : Nat) : Int) := by rw [IntKind.wrap_u64]; omega
        rw [hn] at cn
        have hv : hitV (some rs[j]) = .returned (.tuple #[.agg (txC rs[j]).toArray, .bool true]) := rfl
        rw [hv] at hF
        have hE : ∀ W, (Op.equalIn 10000 33 (.agg (txC rs[j]).toArray) (.agg (txC rs[j]).toArray)).run Tryd.prog W = .ok true W := fun W => Zfm rs[j] rs[j] mj mj true (Vy2 rfl) W
        have jr := hid (Zby rs[j])
        have ar := hid (Zb2 rs[j])
        have zr := hid (ZcS rs[j])
        have nr := hid (Zdw rs[j])
        have Q5 := hid rj
        have N5 := hid cn
        clear rj mj hn hh hv cn
        generalize txC rs[j] = xj at *
        obtain ⟨nj, hnjj⟩ : ∃ m, nn + j = m := ⟨_, rfl⟩
        rw [hnjj] at hF hw2 hw3 N5
        clear hnjj hnj
        go_wp2_with ((with_reducible refine lDr L5.out jl.out hul ?_))
        refine (hF.out _ R5.out).mono ?_
        rintro e w6 ⟨rfl, hb⟩
        have H6 := hid (H5.out.bel hb (Vx4 hlow.out W5.out.size))
        have W6 := hid (W5.out.trans (hb.mono W5.out.size))
        have R6 := hid (R5.out.bel hb)
        have L6 := hid (Zab hb L5.out)
        have P6 := hid (P5.out.bel hb)
        have X6 := hid (X5.out.bel hb)
        have G6 := hid (G5.out.bel hb)
        have B6 := hid (Zab hb B5.out)
        have D6 := hid (D5.out.trans (hb.mono D5.out.size))
        have Q6 := hid (Zab hb Q5.out)
        have N6 := hid ((hb.cell (Vx5 _ _ N5.out)).trans N5.out)
        clear H5 W5 R5 L5 P5 X5 G5 B5 D5 Q5 N5
        clear hb 
        have e6z := hid (Vx0 w6 (.cells zTxC 33))
        go_wp2_with (first
          | (with_reducible refine Zac rfl 33 rfl zTxC Zbv ?_)
          | ((with_reducible refine stW 12 71 w6.heap.size 33 zTxC ?_ ?_ ?_ ?_ ?_); exact e6z.out; exact ar.out; exact zr.out; exact nr.out; intro w7 hgS hbS hsS; have Y7 := hid (Zan rfl hbS); have Z7 := hid (Zae (l := xj) hgS); clear hgS hbS hsS; have H7 := hid (H6.out.bel Y7.out (Vx4 hlow.out W6.out.size)); have W7 := hid (W6.out.trans (Y7.out.mono W6.out.size)); have R7 := hid (R6.out.bel Y7.out); have L7 := hid (Zab Y7.out L6.out); have P7 := hid (P6.out.bel Y7.out); have X7 := hid (X6.out.bel Y7.out); have G7 := hid (G6.out.bel Y7.out); have B7 := hid (Zab Y7.out B6.out); have D7 := hid (D6.out.trans (Y7.out.mono D6.out.size)); have Q7 := hid (Zab Y7.out Q6.out); have N7 := hid ((Y7.out.cell (Vx5 _ _ N6.out)).trans N6.out); clear H6 W6 R6 L6 P6 X6 G6 B6 D6 Q6 N6))
        refine rgB fun hHeld => ?_
        refine' tkW 0 1 ?_
        refine' tkW 2 3 ?_
        simp only [sQ]
        refine' tkC 4 rfl N7.out ?_
        refine' tkW 5 6 ?_
        simp only [sQ]
        refine' tkL 7 ((.int .u64 (j : Int))) rfl ?_ ?_
        · intro W hSw
          go_simp
          first | done | (simp only [hw1]; done)
        try simp only [sQ]
        refine' tkW 8 9 ?_
        refine' tkW 10 11 ?_
        simp only [sQ]
        refine' tkW 12 13 ?_
        refine' tkP 14 rfl ?_
        refine' tkM 15 rfl (fun _ h => Zab h Z7.out) hux jr.out ?_
        simp only [sQ]
        refine' tkW 16 17 ?_
        refine' tkP 18 rfl ?_
        refine' tkM 19 rfl (fun _ h => Zab h Q7.out) hux jr.out ?_
        simp only [sQ]
        refine' tkW 20 21 ?_
        simp only [sQ]
        refine dnN ?_
        go_wp2
        go_roundw
        case rel => exact ⟨j + 1, by omega, by go_num, D7.out.trans (hHeld.mono D7.out.size)⟩
        case measure => simp [intOf]; omega
      · obtain rfl : j = rs.length := by omega
        have hlt2 : ¬ (rs.length : Int) < (rs.length : Int) := by omega
        obtain ⟨en, hen⟩ : ∃ e : Nat, (nn + rs.length) % 18446744073709551616 = e := ⟨_, rfl⟩
        have hlr2 := hlr.out
        have hwA : IntKind.u64.wrap (rs.length : Int) = (rs.length : Int) := by rw [IntKind.wrap_u64]; omega
        have hwB : IntKind.u64.wrap ((nn : Int) + (rs.length : Int)) = (en : Int) := by rw [IntKind.wrap_u64]; omega
        have hF := hid (fun W (h : Row (fun _ => True) W A0 xs) => (hFi.out en W h hle.out))
        obtain ⟨ho, hho⟩ : ∃ o, hitX xs en = o := ⟨_, rfl⟩
        obtain ⟨mr, hmr⟩ : ∃ b, ho.isSome = b := ⟨_, rfl⟩
        have hmore := hid (fun h : mr = true => (show en < nn from by
          rcases Nat.lt_or_ge (nn + rs.length) 18446744073709551616 with hlim | hlim
          · rw [Nat.mod_eq_of_lt hlim] at hen
            have he := hend.out
            rw [hen, hho] at he
            rw [he] at hmr
            rw [h] at hmr
            cases hmr
          · have := hle.out; have := hlr.out; omega))
        rw [hho] at hF
        unfold hitV at hF
        rw [hmr] at hF
        have jt := hid (Zby (ho.getD zX))
        have at_ := hid (Zb2 (ho.getD zX))
        have zt := hid (ZcS (ho.getD zX))
        have nt := hid (Zdw (ho.getD zX))
        generalize txC (ho.getD zX) = xt at *
        clear hho hmr hen hlr2 hend hrun
        go_wp2_with ((with_reducible refine lDr L5.out jl.out hul ?_))
        refine (hF.out _ R5.out).mono ?_
        rintro e w8 ⟨rfl, hb⟩
        have H8 := hid (H5.out.bel hb (Vx4 hlow.out W5.out.size))
        have W8 := hid (W5.out.trans (hb.mono W5.out.size))
        have R8 := hid (R5.out.bel hb)
        have L8 := hid (Zab hb L5.out)
        have X8 := hid (X5.out.bel hb)
        have G8 := hid (G5.out.bel hb)
        have B8 := hid (Zab hb B5.out)
        clear H5 W5 R5 L5 X5 G5 B5
        clear hb 
        have e8z := hid (Vx0 w8 (.cells zTxC 33))
        go_wp2_with (first
          | (with_reducible refine Zac rfl 33 rfl zTxC Zbv ?_)
          | ((with_reducible refine stW 15 104 w8.heap.size 33 zTxC ?_ ?_ ?_ ?_ ?_); exact e8z.out; exact at_.out; exact zt.out; exact nt.out; intro w9 hgS hbS hsS; have Y9 := hid (Zan rfl hbS); clear hgS hbS hsS; have H9 := hid (H8.out.bel Y9.out (Vx4 hlow.out W8.out.size)); have W9 := hid (W8.out.trans (Y9.out.mono W8.out.size)); have R9 := hid (R8.out.bel Y9.out); have L9 := hid (Zab Y9.out L8.out); have X9 := hid (X8.out.bel Y9.out); have G9 := hid (G8.out.bel Y9.out); have B9 := hid (Zab Y9.out B8.out); clear H8 W8 R8 L8 X8 G8 B8))
        have cb9 := hbx.out _ _ _ _ _ _ B9.out
        have cx9 := hx0.out _ L9.out
        have jb := hid (js.out d A3 ys.length c3)
        have hlg2 := hid (show (0 + gs.length) * (120 + 1) ≤ 140737488355328 by have := hlg.out; omega)
        have hlx2 := hid (show (gs.length + ys.length) * (120 + 1) ≤ 140737488355328 by have := hlg.out; have := hlx.out; omega)
        cases mr
        · go_wp2
          refine rgB fun hHeld => ?_
          refine' tkW 0 1 ?_
          refine' tkW 2 3 ?_
          simp only [sQ]
          refine' tkW 4 5 ?_
          refine' tkW 6 7 ?_
          simp only [sQ]
          refine' tkW 8 9 ?_
          refine' tkW 10 12 ?_
          simp only [sQ]
          refine' tkP 14 rfl ?_
          refine' tkC 15 rfl cb9 ?_
          refine' tkP 17 rfl ?_
          refine' tkC 18 rfl cx9 ?_
          simp only [sQ]
          refine rdH 11 rfl fun K hK => ?_
          refine Ypq (by rfl) rfl ?_
          intro wA oA hB
          have OA := hid (OwnR.base oA hHeld.size)
          refine kB hK hHeld hB fun hHeld => ?_
          clear hK K
          try simp only [sQ]
          refine rdH 13 rfl fun K hK => ?_
          refine Ypk (by rfl) (.tmp 117) (.tmp 118) rfl w9.heap.size w9.heap.size _ D3 0 gs.length 0 e3 [] gs (fun _ => False) rfl rfl rfl rfl OA.out (YoW (G9.out.bel hHeld)) (fun b hb => hb.elim) hlg2.out hHeld.size ?_
          intro Aa ca wB oB hB
          rw [List.nil_append] at oB ⊢
          have OB := hid oB
          refine hK.out _ _ (hHeld.trans hB) fun hHeld => ?_
          clear hK K
          try simp only [sQ]
          refine rdH 16 rfl fun K hK => ?_
          refine Ypk (by rfl) (.tmp 119) (.tmp 121) rfl w9.heap.size w9.heap.size _ A3 gs.length ys.length ca c3 gs ys (fun _ => False) rfl rfl rfl rfl OB.out (YoW (X9.out.bel hHeld)) (fun b hb => hb.elim) hlx2.out hHeld.size ?_
          intro Ab cb wC oC hB
          rw [hall.out] at oC ⊢
          have OC := hid (OwnR.row oC).any
          refine hK.out _ _ (hHeld.trans hB) fun hHeld => ?_
          clear hK K
          try simp only [sQ]
          refine rdC 19 rfl (hSa.out Ab A0 cb c0 _ OC.out (R9.out.bel hHeld)) fun wD hB hHeld => ?_
          try simp only [sQ]
          refine' tkW 20 21 ?_
          refine' tkM 22 rfl (fun _ h => Zab h B9.out) hul jb.out ?_
          simp only [sQ]
          refine rdC 23 rfl (hCk2.out A3 c3 _ (X9.out.bel hHeld) (H9.out.bel hHeld (Vx4 hlow.out W9.out.size))) fun wE hB hHeld => ?_
          try simp only [sQ]
          refine' tkW 24 25 ?_
          refine' tkP 26 rfl ?_
          simp only [sQ]
          refine dnN ?_
          go_wp2
          go_ret
          exact ⟨rfl, W9.out.trans (hHeld.mono W9.out.size)⟩
        · have hm9 : (en : Int) < (nn : Int) := by have := hmore.out rfl; omega
          go_wp2
          refine rgB fun hHeld => ?_
          refine' tkW 0 1 ?_
          refine' tkW 2 3 ?_
          simp only [sQ]
          refine' tkW 4 5 ?_
          refine' tkW 6 7 ?_
          simp only [sQ]
          refine' tkW 8 9 ?_
          refine' tkW 10 12 ?_
          simp only [sQ]
          refine' tkP 14 rfl ?_
          refine' tkC 15 rfl cb9 ?_
          refine' tkP 17 rfl ?_
          refine' tkC 18 rfl cx9 ?_
          simp only [sQ]
          refine rdH 11 rfl fun K hK => ?_
          refine Ypq (by rfl) rfl ?_
          intro wA oA hB
          have OA := hid (OwnR.base oA hHeld.size)
          refine kB hK hHeld hB fun hHeld => ?_
          clear hK K
          try simp only [sQ]
          refine rdH 13 rfl fun K hK => ?_
          refine Ypk (by rfl) (.tmp 117) (.tmp 118) rfl w9.heap.size w9.heap.size _ D3 0 gs.length 0 e3 [] gs (fun _ => False) rfl rfl rfl rfl OA.out (YoW (G9.out.bel hHeld)) (fun b hb => hb.elim) hlg2.out hHeld.size ?_
          intro Aa ca wB oB hB
          rw [List.nil_append] at oB ⊢
          have OB := hid oB
          refine hK.out _ _ (hHeld.trans hB) fun hHeld => ?_
          clear hK K
          try simp only [sQ]
          refine rdH 16 rfl fun K hK => ?_
          refine Ypk (by rfl) (.tmp 119) (.tmp 121) rfl w9.heap.size w9.heap.size _ A3 gs.length ys.length ca c3 gs ys (fun _ => False) rfl rfl rfl rfl OB.out (YoW (X9.out.bel hHeld)) (fun b hb => hb.elim) hlx2.out hHeld.size ?_
          intro Ab cb wC oC hB
          rw [hall.out] at oC ⊢
          have OC := hid (OwnR.row oC).any
          refine hK.out _ _ (hHeld.trans hB) fun hHeld => ?_
          clear hK K
          try simp only [sQ]
          refine rdC 19 rfl (hSa.out Ab A0 cb c0 _ OC.out (R9.out.bel hHeld)) fun wD hB hHeld => ?_
          try simp only [sQ]
          refine' tkW 20 21 ?_
          refine' tkM 22 rfl (fun _ h => Zab h B9.out) hul jb.out ?_
          simp only [sQ]
          refine rdC 23 rfl (hCk2.out A3 c3 _ (X9.out.bel hHeld) (H9.out.bel hHeld (Vx4 hlow.out W9.out.size))) fun wE hB hHeld => ?_
          try simp only [sQ]
          refine' tkW 24 25 ?_
          refine' tkP 26 rfl ?_
          simp only [sQ]
          refine dnN ?_
          go_wp2
          go_ret
          exact ⟨rfl, W9.out.trans (hHeld.mono W9.out.size)⟩
end Go.Proofs.YtimaoonpgilekaaDoor.queueRuns
