/-
  The walk of QueueDoes.
-/
import Derived.Test.YtimaoonpgilekaaDoorDoor
import Derived.ProofKit
import Derived.ShutString
import Derived.ChangeOld
import Derived.Below
import Derived.Test.YtimaoonpgilekaaDoorQuW
import Derived.Test.YtimaoonpgilekaaDoorRef19f
import Derived.Test.YtimaoonpgilekaaDoorMutI
namespace Go.Proofs.YtimaoonpgilekaaDoor.queueDoes
open Go.ChangeShapes Go.WideShapes Go.ChangeAt Go.RowKit
open Go.ChangeMaps (open_string shut_string)
set_option linter.unusedVariables false

theorem own : ownKnob Tryd.prog.godebug = none := by kernel_rfl
theorem laidOut : laidOutB Tryd.prog = true := by kernel_rfl

/-- WHAT THE WALK IS TOLD OF A SLICE OF INTEGERS THAT CAME IN: it is nil; or it leads to a row of 'cap' cells, the numbers 'zs' (the first 'len' are its elements, the rest its spare room), each fitting its kind. -/
def IsRow (k : IntKind) (w : World) (a : Option Addr) (len cap : Nat) (zs : List Int) : Prop :=
  (a = none ∧ len = 0 ∧ cap = 0 ∧ zs = []) ∨
  ∃ x, a = some x ∧ len ≤ cap ∧ cap ≤ maxLen ∧ zs.length = cap ∧ (∀ i, i < zs.length → w.cell? (x.add i) = some (.int k (zs.getD i 0))) ∧ ∀ n ∈ zs, (Lit.int k n).wf = true

/-! ### the walk -/
open Go.Proofs.YtimaoonpgilekaaDoor
theorem boxes3D (w : World) (l m q : List Value) (t u v : TypeId) :
    (((w.alloc (.cells l.toArray t)).alloc (.cells m.toArray u)).alloc (.cells q.toArray v)).rangeAt w.heap.size 0 l ∧
    (((w.alloc (.cells l.toArray t)).alloc (.cells m.toArray u)).alloc (.cells q.toArray v)).rangeAt (w.heap.size + 1) 0 m ∧
    (((w.alloc (.cells l.toArray t)).alloc (.cells m.toArray u)).alloc (.cells q.toArray v)).rangeAt (w.heap.size + 1 + 1) 0 q ∧
    Below w.heap.size w (((w.alloc (.cells l.toArray t)).alloc (.cells m.toArray u)).alloc (.cells q.toArray v)) := by
  have h1 := Zae (Vx0 w (.cells l.toArray t))
  have h2 := Zae (Vx0 (w.alloc (.cells l.toArray t)) (.cells m.toArray u))
  have h3 := Zae (Vx0 ((w.alloc (.cells l.toArray t)).alloc (.cells m.toArray u)) (.cells q.toArray v))
  simp only [Vx2] at h2 h3
  exact ⟨Zab (Zad _ _) (Zab (Zad _ _) h1), Zab (Zad _ _) h2, h3, Zag (Zag (Zad _ _) (Zad _ _)) (Zad _ _)⟩
theorem put_lenD (l : Ln) (x : Tx) : (pqL l x).xs.length ≤ l.xs.length + 1 := by
  by_cases h : pqE l x = 0
  · rw [(Yn0 h).1]
    show (withL l.xs x).length ≤ _
    rw [Yot (Yn2 (Yn6 h).1).2.1]
    split <;> omega
  · rw [(YoI h).1]; exact Nat.zero_le _
theorem past_lenD (l : Ln) (n : Nat) : (pastL l n).xs.length ≤ l.xs.length := by
  unfold pastL
  split
  · show (l.xs.drop _).length ≤ _
    rw [List.length_drop]; omega
  · exact Nat.zero_le _
theorem held_numQ {w : World} {lo hi : Nat} {A : Option Addr} {xs : List Tx} (h : Held w lo hi A xs) {j : Nat} (hj : j < xs.length) : ∃ b o, A = some ⟨b, o, none⟩ ∧ (lo ≤ b ∧ b < hi) ∧ Soft w b ∧ w.cell? ⟨b, o + j * 99 + 64, none⟩ = some (.int .u64 (xs[j].n : Int)) := by
  obtain ⟨F, h1, h2⟩ := h
  obtain ⟨b, o, hA, -, hc, -⟩ := YpD h1 hj
  obtain ⟨b2, o2, hA2, hF, -, -⟩ := h1 (by omega)
  rw [hA] at hA2
  injection hA2 with e
  injection e with e1 e2
  subst e1
  exact ⟨b, o, hA, ⟨(h2 _ hF).1, (h2 _ hF).2.1⟩, (h2 _ hF).2.2, hc⟩
set_option linter.unusedSimpArgs false
set_option maxRecDepth 100000 in
set_option maxHeartbeats 32000000 in
theorem walk (x0 : Ln) (vs0 : List Value) (x1 : Ln) (vs1 : List Value) (x2 : Tx) (vs2 : List Value) (a3 : Int) (w : World) (w0 : Enc.rep (fun b => b < w.heap.size) w x0 vs0) (w1 : Enc.rep (fun b => b < w.heap.size) w x1 vs1) (w2 : Enc.rep (fun b => b < w.heap.size) w x2 vs2) (w3 : (Lit.int .u64 a3).wf = true) (hT : Tab w) :
    Calls Tryd.prog 4 #[.agg vs0.toArray, .agg vs1.toArray, .agg vs2.toArray, .int .u64 a3] w fun e w' => e = .returned (.bool true) ∧ Below w.heap.size w w' := by
  obtain ⟨A0, c0, rfl, hcc, hcm, hr⟩ := Yo2 w0
  obtain ⟨d, xs⟩ := x0
  obtain ⟨AY, cY, rfl, hdc, hdm, hs⟩ := Yo2 w1
  obtain ⟨dy, ys⟩ := x1
  obtain ⟨rfl, hx⟩ := ZlF w2
  generalize x2 = x at *
  obtain ⟨nn, rfl, hnn⟩ := YqD w3
  dsimp only at hcc hr hdc hs ⊢
  have hul := Tryd.underlying26
  have hux := Tryd.underlying33
  have hlow := hid hT.low
  obtain ⟨z1, z2, z3, W0⟩ := boxes3D w (lnC d A0 xs.length c0) (lnC dy AY ys.length cY) (txC x) 26 26 33
  have cA := (BoxL.of z1).x
  have cB := (BoxL.of z2).x
  have L0 := hid z1
  have O0 := hid z2
  have X0 := hid z3
  have R0 := hid (hr.bel W0)
  have S0 := hid (hs.bel W0)
  replace W0 := hid W0
  have H0 := hid (hT.bel W0.out hlow.out)
  clear z1 z2 z3 hr hs hT w0 w1 w2 w3
  obtain ⟨E1, hE1⟩ : ∃ e, pqE ⟨d, xs⟩ x = e := ⟨_, rfl⟩
  obtain ⟨La, hL1⟩ : ∃ l, pqL ⟨d, xs⟩ x = l := ⟨_, rfl⟩
  obtain ⟨O1, hO1⟩ : ∃ o, pqO ⟨d, xs⟩ x = o := ⟨_, rfl⟩
  obtain ⟨Rs, hRs⟩ : ∃ r, readyL ⟨d, xs⟩ nn = r := ⟨_, rfl⟩
  obtain ⟨K, hK⟩ : ∃ k, checkL ⟨d, xs⟩ = k := ⟨_, rfl⟩
  obtain ⟨Lp, hLp⟩ : ∃ l, pastL ⟨d, xs⟩ nn = l := ⟨_, rfl⟩
  obtain ⟨Gp, hGp⟩ : ∃ l, pastG ⟨d, xs⟩ nn = l := ⟨_, rfl⟩
  obtain ⟨sy, hsy⟩ : ∃ b, sameL ⟨d, xs⟩ ⟨dy, ys⟩ = b := ⟨_, rfl⟩
  have hn1 : La.xs.length ≤ xs.length + 1 := by rw [← hL1]; exact put_lenD _ _
  have hn2 : Lp.xs.length ≤ xs.length := by rw [← hLp]; exact past_lenD _ _
  have hTw := hid (fun W (h : Row (fun _ => True) W A0 xs) (hs : xs.length ≤ 300) => RTwinLn_any (fun _ => True) d A0 c0 xs W h (by omega))
  have hP1 := hid (fun A c W (h : Row (fun _ => True) W A xs) (hs : xs.length ≤ 300) (h1 : xs.length ≤ c ∧ c ≤ maxLen) hW => show Calls Tryd.prog 7 #[.agg (lnC d A xs.length c).toArray, .agg (txC x).toArray] W (LnQ W La O1 E1) by
    have := Ype (fun _ => True) d A c xs x W h hx (by omega) h1.1 h1.2 hW
    rw [hE1, hL1, hO1] at this
    exact this)
  have hP2 := hid (fun W (h : Row (fun _ => True) W A0 xs) (hs : xs.length ≤ 300) => show Calls Tryd.prog 16 #[.agg (lnC d A0 xs.length c0).toArray, .agg (txC x).toArray] W (LnQ W La O1 E1) by
    have := RPutLn_any (fun _ => True) d A0 c0 xs x W h hx (by omega)
    rw [hE1, hL1, hO1] at this
    exact this)
  have hR1 := hid (fun A c W (h : Row (fun _ => True) W A xs) (hs : xs.length ≤ 300) (h1 : xs.length ≤ c ∧ c ≤ maxLen) hW => show Calls Tryd.prog 11 #[.agg (lnC d A xs.length c).toArray, .int .u64 (nn : Int)] W fun e w' => ∃ A' c', e = .returned (.tuple #[.slice A' Rs.length c', .int .i64 K]) ∧ OwnR 33 w' W.heap.size A' c' Rs ∧ Below W.heap.size W w' by
    have := Ypg (fun _ => True) d A c nn xs W h (by omega) h1.1 hnn hW
    rw [hRs, hK] at this
    exact this)
  have hR2 := hid (fun W (h : Row (fun _ => True) W A0 xs) (hs : xs.length ≤ 300) => show Calls Tryd.prog 17 #[.agg (lnC d A0 xs.length c0).toArray, .int .u64 (nn : Int)] W fun e w' => ∃ A' c', e = .returned (.tuple #[.slice A' Rs.length c', .int .i64 K]) ∧ OwnR 33 w' W.heap.size A' c' Rs ∧ Below W.heap.size W w' by
    have := RReadyLn_any (fun _ => True) d A0 c0 nn xs W h hnn (by omega)
    rw [hRs, hK] at this
    exact this)
  have hQ1 := hid (fun A c W (h : Row (fun _ => True) W A xs) (hs : xs.length ≤ 300) (h1 : xs.length ≤ c ∧ c ≤ maxLen) hW => show Calls Tryd.prog 18 #[.agg (lnC d A xs.length c).toArray, .int .u64 (nn : Int)] W (LnQ W Lp Gp K) by
    have := Ypt (fun _ => True) d A c nn xs W h (by omega) h1.1 hW
    rw [hLp, hGp, hK] at this
    exact this)
  have hQ2 := hid (fun W (h : Row (fun _ => True) W A0 xs) (hs : xs.length ≤ 300) => show Calls Tryd.prog 19 #[.agg (lnC d A0 xs.length c0).toArray, .int .u64 (nn : Int)] W (LnQ W Lp Gp K) by
    have := RPastLn_any (fun _ => True) d A0 c0 nn xs W h (by omega)
    rw [hLp, hGp, hK] at this
    exact this)
  have hC1 := hid (fun A c W (h : Row (fun _ => True) W A xs) (hs : xs.length ≤ 300) hW => show Calls Tryd.prog 14 #[.agg (lnC d A xs.length c).toArray] W fun e w' => e = .returned (.int .i64 K) ∧ Below W.heap.size W w' by
    have := Ypb (fun _ => True) d A c xs W h (by omega) hW
    rw [hK] at this
    exact this)
  have hC2 := hid (fun W (h : Row (fun _ => True) W A0 xs) (hs : xs.length ≤ 300) => show Calls Tryd.prog 21 #[.agg (lnC d A0 xs.length c0).toArray] W fun e w' => e = .returned (.int .i64 K) ∧ Below W.heap.size W w' by
    have := RCheckLn_any (fun _ => True) d A0 c0 xs W h (by omega)
    rw [hK] at this
    exact this)
  have hY1 := hid (fun A c W (h : Row (fun _ => True) W A xs) (h2 : Row (fun _ => True) W AY ys) (hs : xs.length ≤ 300) (hs2 : ys.length ≤ 12) => show Calls Tryd.prog 22 #[.agg (lnC d A xs.length c).toArray, .agg (lnC dy AY ys.length cY).toArray] W fun e w' => e = .returned (.bool sy) ∧ Below W.heap.size W w' by
    have := Yqq (fun _ => True) (fun _ => True) d dy A AY c cY xs ys W h h2 (by omega) (by omega)
    rw [hsy] at this
    exact this)
  have hY2 := hid (fun W (h : Row (fun _ => True) W A0 xs) (h2 : Row (fun _ => True) W AY ys) (hs : xs.length ≤ 300) (hs2 : ys.length ≤ 12) => show Calls Tryd.prog 20 #[.agg (lnC d A0 xs.length c0).toArray, .agg (lnC dy AY ys.length cY).toArray] W fun e w' => e = .returned (.bool sy) ∧ Below W.heap.size W w' by
    have := RSameLn_any (fun _ => True) (fun _ => True) d dy A0 AY c0 cY xs ys W h h2 (by omega) (by omega)
    rw [hsy] at this
    exact this)
  have hY3 := hid (fun A c W (h : Row (fun _ => True) W A xs) (h2 : Row (fun _ => True) W A0 xs) (hs : xs.length ≤ 300) => show Calls Tryd.prog 22 #[.agg (lnC d A xs.length c).toArray, .agg (lnC d A0 xs.length c0).toArray] W fun e w' => e = .returned (.bool true) ∧ Below W.heap.size W w' by
    have := Yqq (fun _ => True) (fun _ => True) d d A A0 c c0 xs xs W h h2 (by omega) (by omega)
    rw [show sameL ⟨d, xs⟩ ⟨d, xs⟩ = true by simp [sameL]] at this
    exact this)
  have hY4 := hid (fun A c W (h : Row (fun _ => True) W A xs) (h2 : Row (fun _ => True) W A0 xs) (hs : xs.length ≤ 300) => show Calls Tryd.prog 20 #[.agg (lnC d A xs.length c).toArray, .agg (lnC d A0 xs.length c0).toArray] W fun e w' => e = .returned (.bool true) ∧ Below W.heap.size W w' by
    have := RSameLn_any (fun _ => True) (fun _ => True) d d A A0 c c0 xs xs W h h2 (by omega) (by omega)
    rw [show sameL ⟨d, xs⟩ ⟨d, xs⟩ = true by simp [sameL]] at this
    exact this)
  have hYY := hid (fun (L : Ln) A c A' c' W (h : Row (fun _ => True) W A L.xs) (h2 : Row (fun _ => True) W A' L.xs) (hs : L.xs.length ≤ 301) => show Calls Tryd.prog 20 #[.agg (lnC L.d A L.xs.length c).toArray, .agg (lnC L.d A' L.xs.length c').toArray] W fun e w' => e = .returned (.bool true) ∧ Below W.heap.size W w' by
    have := RSameLn_any (fun _ => True) (fun _ => True) L.d L.d A A' c c' L.xs L.xs W h h2 (by omega) (by omega)
    rw [show sameL ⟨L.d, L.xs⟩ ⟨L.d, L.xs⟩ = true by simp [sameL]] at this
    exact this)
  have hTX := hid (fun (ps : List Tx) A c A' c' W (h : Row (fun _ => True) W A ps) (h2 : Row (fun _ => True) W A' ps) (hs : ps.length ≤ 9223372036854775807) => show Calls Tryd.prog 13 #[.slice A ps.length c, .slice A' ps.length c'] W fun e w' => e = .returned (.bool true) ∧ Below W.heap.size W w' by
    have := You (fun _ => True) (fun _ => True) A A' c c' ps ps W h h2 hs hs
    rw [Vy2 rfl] at this
    exact this)
  have hT2 := hid (fun A c W (h : Row (fun _ => True) W A xs) (hs : xs.length ≤ 300) => YpJ (fun _ => True) d A c xs W h (by omega))
  have hox := hid hx
  have jl := hid (YoL d A0 xs.length c0)
  have jo := hid (YoL dy AY ys.length cY)
  have jx := hid (Zby x)
  have js := hid (fun d A n c => YoL d A n c)
  have zs := hid (fun d A n c => YoY d A n c)
  have os := hid (fun d A n c => YoZ d A n c)
  have hbx := hid (fun (W : World) (g : Nat) (d : Dg) (A : Option Addr) (n c : Nat) (h : W.rangeAt g 0 (lnC d A n c)) => (BoxL.of h).x)
  clear hE1 hL1 hO1 hRs hK hLp hGp hsy hx hcc hcm hdc hdm hnn
  obtain ⟨cl, hcl⟩ : ∃ l, lnC d A0 xs.length c0 = l := ⟨_, rfl⟩
  rw [hcl] at L0 O0 X0 R0 S0 W0 H0 hTw hP2 hR2 hQ2 hC2 hY2 hY3 hY4 jl cA cB ⊢
  obtain ⟨co, hco⟩ : ∃ l, lnC dy AY ys.length cY = l := ⟨_, rfl⟩
  rw [hco] at L0 O0 X0 R0 S0 W0 H0 hY1 hY2 jo cA cB ⊢
  obtain ⟨cx, hcx⟩ : ∃ l, txC x = l := ⟨_, rfl⟩
  rw [hcx] at L0 O0 X0 R0 S0 W0 H0 hP1 hP2 jx cA cB ⊢
  replace hcl := hid hcl
  replace hco := hid hco
  replace hcx := hid hcx
  by_cases p1 : 12 < xs.length ∧ xs.length < 256
  · obtain ⟨p1, p2⟩ := p1
    have q0 : decide ((12 : Int) < (xs.length : Int)) = true := Vy2 (by omega)
    have q1 : decide ((xs.length : Int) < (256 : Int)) = true := Vy2 (by omega)
    go_enter Tryd.func4, Tryd.ntmps4
    go_wp2
    go_ret
    exact ⟨rfl, W0.out⟩
  by_cases p3 : 258 < xs.length
  · have q0 : decide ((12 : Int) < (xs.length : Int)) = true := Vy2 (by omega)
    have q1 : decide ((xs.length : Int) < (256 : Int)) = false := Vy1 (by omega)
    have q2 : decide ((258 : Int) < (xs.length : Int)) = true := Vy2 (by omega)
    go_enter Tryd.func4, Tryd.ntmps4
    go_wp2
    go_ret
    exact ⟨rfl, W0.out⟩
  by_cases p4 : 12 < ys.length
  · by_cases p5 : 12 < xs.length
    · have q0 : decide ((12 : Int) < (xs.length : Int)) = true := Vy2 (by omega)
      have q1 : decide ((xs.length : Int) < (256 : Int)) = false := Vy1 (by omega)
      have q2 : decide ((258 : Int) < (xs.length : Int)) = false := Vy1 (by omega)
      have q3 : decide ((12 : Int) < (ys.length : Int)) = true := Vy2 (by omega)
      go_enter Tryd.func4, Tryd.ntmps4
      go_wp2
      go_ret
      exact ⟨rfl, W0.out⟩
    · have q0 : decide ((12 : Int) < (xs.length : Int)) = false := Vy1 (by omega)
      have q2 : decide ((258 : Int) < (xs.length : Int)) = false := Vy1 (by omega)
      have q3 : decide ((12 : Int) < (ys.length : Int)) = true := Vy2 (by omega)
      go_enter Tryd.func4, Tryd.ntmps4
      go_wp2
      go_ret
      exact ⟨rfl, W0.out⟩
  by_cases p5 : 12 < xs.length
  · have q0 : decide ((12 : Int) < (xs.length : Int)) = true := Vy2 (by omega)
    have q1 : decide ((xs.length : Int) < (256 : Int)) = false := Vy1 (by omega)
    have q2 : decide ((258 : Int) < (xs.length : Int)) = false := Vy1 (by omega)
    have q3 : decide ((12 : Int) < (ys.length : Int)) = false := Vy1 (by omega)
    have hle := hid (show xs.length ≤ 300 by omega)
    have hla := hid (show La.xs.length ≤ 301 by omega)
    have hlp := hid (show Lp.xs.length ≤ 301 by omega)
    have hly := hid (show ys.length ≤ 12 by omega)
    clear hn1 hn2
    go_enter Tryd.func4, Tryd.ntmps4
    go_wp2_with ((with_reducible refine lDr L0.out jl.out hul ?_))
    refine (hTw.out _ R0.out.any hle.out).mono ?_
    rintro e w1 ⟨A1, c1, rfl, o1, hb⟩
    clear cA cB
    have H1 := hid (H0.out.bel hb (Vx4 hlow.out W0.out.size))
    have W1 := hid (W0.out.trans (hb.mono W0.out.size))
    have R1 := hid (R0.out.bel hb)
    have S1 := hid (S0.out.bel hb)
    have L1 := hid (Zab hb L0.out)
    have O1 := hid (Zab hb O0.out)
    have X1 := hid (Zab hb X0.out)
    clear H0 W0 R0 S0 L0 O0 X0
    have U1 := hid o1.held
    have k1 := hid o1.cap
    have m1 := hid W1.out.size
    clear o1 hb hTw
    have e1z := hid (Vx0 w1 (.cells zLnC 26))
    go_wp2_with (first
      | (with_reducible refine Zac rfl 26 rfl zLnC YoX ?_)
      | ((with_reducible refine stW 9 54 w1.heap.size 26 zLnC ?_ ?_ ?_ ?_ ?_); exact e1z.out; exact js.out _ _ _ _; exact zs.out _ _ _ _; exact os.out _ _ _ _; intro w2 hgS hbS hsS; have Q2 := hid (Zan rfl hbS); have s2 := hid (block_lt hgS); have T2 := hid (Zae hgS); clear hgS hbS hsS; have H2 := hid (H1.out.bel Q2.out (Vx4 hlow.out W1.out.size)); have W2 := hid (W1.out.trans (Q2.out.mono W1.out.size)); have R2 := hid (R1.out.bel Q2.out); have S2 := hid (S1.out.bel Q2.out); have L2 := hid (Zab Q2.out L1.out); have O2 := hid (Zab Q2.out O1.out); have X2 := hid (Zab Q2.out X1.out); have U2 := hid (U1.out.bel Q2.out); clear H1 W1 R1 S1 L1 O1 X1 U1)
      | (with_reducible refine lDr T2.out (js.out _ _ _ _) hul ?_)
      | (with_reducible refine lDr X2.out jx.out hux ?_))
    refine (hP1.out A1 c1 _ U2.out.row.any hle.out k1.out H2.out).mono ?_
    rintro e w3 ⟨A3, c3, D3, e3, rfl, o3, p3, hb⟩
    have H3 := hid (H2.out.bel hb (Vx4 hlow.out W2.out.size))
    have W3 := hid (W2.out.trans (hb.mono W2.out.size))
    have R3 := hid (R2.out.bel hb)
    have S3 := hid (S2.out.bel hb)
    have L3 := hid (Zab hb L2.out)
    have O3 := hid (Zab hb O2.out)
    have X3 := hid (Zab hb X2.out)
    have U3 := hid (U2.out.bel hb)
    have T3 := hid (Zab hb T2.out)
    clear H2 W2 R2 S2 L2 O2 X2 U2 T2
    have m3 := hid hb.size
    have V3 := hid o3.held
    have G3 := hid (OwnR.row p3).any
    have kg := hid p3.cap
    clear o3 p3 hb hP1
    have e3z := hid (Vx0 w3 (.cells zLnC 26))
    go_wp2_with (first
      | (with_reducible refine Zac rfl 26 rfl zLnC YoX ?_)
      | ((with_reducible refine stW 10 59 w3.heap.size 26 zLnC ?_ ?_ ?_ ?_ ?_); exact e3z.out; exact js.out _ _ _ _; exact zs.out _ _ _ _; exact os.out _ _ _ _; intro w4 hgS hbS hsS; have Q4 := hid (Zan rfl hbS); have s4 := hid (block_lt hgS); have B4 := hid (Zae hgS); have Z4 := hid hgS; clear hgS hbS hsS; have H4 := hid (H3.out.bel Q4.out (Vx4 hlow.out W3.out.size)); have W4 := hid (W3.out.trans (Q4.out.mono W3.out.size)); have R4 := hid (R3.out.bel Q4.out); have S4 := hid (S3.out.bel Q4.out); have L4 := hid (Zab Q4.out L3.out); have O4 := hid (Zab Q4.out O3.out); have X4 := hid (Zab Q4.out X3.out); have U4 := hid (U3.out.bel Q4.out); have T4 := hid (Zab Q4.out T3.out); have V4 := hid (V3.out.bel Q4.out); have G4 := hid (G3.out.bel Q4.out); clear H3 W3 R3 S3 L3 O3 X3 U3 T3 V3 G3)
      | (with_reducible refine lDr L4.out jl.out hul ?_)
      | (with_reducible refine lDr X4.out jx.out hux ?_))
    refine (hP2.out _ R4.out.any hle.out).mono ?_
    rintro e w5 ⟨A5, c5, D5, e5, rfl, o5, p5, hb⟩
    have H5 := hid (H4.out.bel hb (Vx4 hlow.out W4.out.size))
    have W5 := hid (W4.out.trans (hb.mono W4.out.size))
    have R5 := hid (R4.out.bel hb)
    have S5 := hid (S4.out.bel hb)
    have L5 := hid (Zab hb L4.out)
    have O5 := hid (Zab hb O4.out)
    have X5 := hid (Zab hb X4.out)
    have U5 := hid (U4.out.bel hb)
    have T5 := hid (Zab hb T4.out)
    have V5 := hid (V4.out.bel hb)
    have G5 := hid (G4.out.bel hb)
    have B5 := hid (Zab hb B4.out)
    have Z5 := hid ((hb.block _ (block_lt Z4.out)).trans Z4.out)
    clear H4 W4 R4 S4 L4 O4 X4 U4 T4 V4 G4 B4 Z4
    have m5 := hid hb.size
    have M5 := hid (OwnR.row o5).any
    have N5 := hid (OwnR.row p5).any
    clear o5 p5 hb hP2 X5
    have e5z := hid (Vx0 w5 (.cells zLnC 26))
    go_wp2_with (first
      | (with_reducible refine Zac rfl 26 rfl zLnC YoX ?_)
      | ((with_reducible refine stW 13 66 w5.heap.size 26 zLnC ?_ ?_ ?_ ?_ ?_); exact e5z.out; exact js.out _ _ _ _; exact zs.out _ _ _ _; exact os.out _ _ _ _; intro w6 hgS hbS hsS; have Q6 := hid (Zan rfl hbS); have s6 := hid (block_lt hgS); have C6 := hid (Zae hgS); clear hgS hbS hsS; have H6 := hid (H5.out.bel Q6.out (Vx4 hlow.out W5.out.size)); have W6 := hid (W5.out.trans (Q6.out.mono W5.out.size)); have R6 := hid (R5.out.bel Q6.out); have S6 := hid (S5.out.bel Q6.out); have L6 := hid (Zab Q6.out L5.out); have O6 := hid (Zab Q6.out O5.out); have U6 := hid (U5.out.bel Q6.out); have T6 := hid (Zab Q6.out T5.out); have V6 := hid (V5.out.bel Q6.out); have G6 := hid (G5.out.bel Q6.out); have B6 := hid (Zab Q6.out B5.out); have Z6 := hid ((Q6.out.block _ (block_lt Z5.out)).trans Z5.out); have M6 := hid (M5.out.bel Q6.out); have N6 := hid (N5.out.bel Q6.out); clear H5 W5 R5 S5 L5 O5 U5 T5 V5 G5 B5 Z5 M5 N5)
      | (with_reducible refine lDr T6.out (js.out _ _ _ _) hul ?_))
    refine (hR1.out A1 c1 _ U6.out.row.any hle.out k1.out H6.out).mono ?_
    rintro e w7 ⟨A7, c7, rfl, o7, hb⟩
    have H7 := hid (H6.out.bel hb (Vx4 hlow.out W6.out.size))
    have W7 := hid (W6.out.trans (hb.mono W6.out.size))
    have R7 := hid (R6.out.bel hb)
    have S7 := hid (S6.out.bel hb)
    have L7 := hid (Zab hb L6.out)
    have O7 := hid (Zab hb O6.out)
    have U7 := hid (U6.out.bel hb)
    have T7 := hid (Zab hb T6.out)
    have V7 := hid (V6.out.bel hb)
    have G7 := hid (G6.out.bel hb)
    have B7 := hid (Zab hb B6.out)
    have Z7 := hid ((hb.block _ (block_lt Z6.out)).trans Z6.out)
    have M7 := hid (M6.out.bel hb)
    have N7 := hid (N6.out.bel hb)
    have C7 := hid (Zab hb C6.out)
    clear H6 W6 R6 S6 L6 O6 U6 T6 V6 G6 B6 Z6 M6 N6 C6
    have m7 := hid hb.size
    have E7 := hid (OwnR.row o7).any
    have kr := hid o7.cap
    clear o7 hb hR1
    go_wp2_with ((with_reducible refine lDr L7.out jl.out hul ?_))
    refine (hR2.out _ R7.out.any hle.out).mono ?_
    rintro e w8 ⟨A8, c8, rfl, o8, hb⟩
    have H8 := hid (H7.out.bel hb (Vx4 hlow.out W7.out.size))
    have W8 := hid (W7.out.trans (hb.mono W7.out.size))
    have R8 := hid (R7.out.bel hb)
    have S8 := hid (S7.out.bel hb)
    have L8 := hid (Zab hb L7.out)
    have O8 := hid (Zab hb O7.out)
    have U8 := hid (U7.out.bel hb)
    have T8 := hid (Zab hb T7.out)
    have V8 := hid (V7.out.bel hb)
    have G8 := hid (G7.out.bel hb)
    have B8 := hid (Zab hb B7.out)
    have Z8 := hid ((hb.block _ (block_lt Z7.out)).trans Z7.out)
    have M8 := hid (M7.out.bel hb)
    have N8 := hid (N7.out.bel hb)
    have C8 := hid (Zab hb C7.out)
    have E8 := hid (E7.out.bel hb)
    clear H7 W7 R7 S7 L7 O7 U7 T7 V7 G7 B7 Z7 M7 N7 C7 E7
    have m8 := hid hb.size
    have F8 := hid (OwnR.row o8).any
    clear o8 hb hR2
    go_wp2_with ((with_reducible refine lDr T8.out (js.out _ _ _ _) hul ?_))
    refine (hQ1.out A1 c1 _ U8.out.row.any hle.out k1.out H8.out).mono ?_
    rintro e w9 ⟨A9, c9, D9, e9, rfl, o9, p9, hb⟩
    have H9 := hid (H8.out.bel hb (Vx4 hlow.out W8.out.size))
    have W9 := hid (W8.out.trans (hb.mono W8.out.size))
    have R9 := hid (R8.out.bel hb)
    have S9 := hid (S8.out.bel hb)
    have L9 := hid (Zab hb L8.out)
    have O9 := hid (Zab hb O8.out)
    have U9 := hid (U8.out.bel hb)
    have T9 := hid (Zab hb T8.out)
    have V9 := hid (V8.out.bel hb)
    have G9 := hid (G8.out.bel hb)
    have B9 := hid (Zab hb B8.out)
    have Z9 := hid ((hb.block _ (block_lt Z8.out)).trans Z8.out)
    have M9 := hid (M8.out.bel hb)
    have N9 := hid (N8.out.bel hb)
    have C9 := hid (Zab hb C8.out)
    have E9 := hid (E8.out.bel hb)
    have F9 := hid (F8.out.bel hb)
    clear H8 W8 R8 S8 L8 O8 U8 T8 V8 G8 B8 Z8 M8 N8 C8 E8 F8
    have I9 := hid o9.held
    have J9 := hid (OwnR.row p9).any
    have kp := hid p9.cap
    clear o9 p9 hb hQ1
    have e9z := hid (Vx0 w9 (.cells zLnC 26))
    go_wp2_with (first
      | (with_reducible refine Zac rfl 26 rfl zLnC YoX ?_)
      | ((with_reducible refine stW 20 85 w9.heap.size 26 zLnC ?_ ?_ ?_ ?_ ?_); exact e9z.out; exact js.out _ _ _ _; exact zs.out _ _ _ _; exact os.out _ _ _ _; intro w10 hgS hbS hsS; have Q10 := hid (Zan rfl hbS); have s10 := hid (block_lt hgS); have D10 := hid (Zae hgS); have Y10 := hid hgS; clear hgS hbS hsS; have H10 := hid (H9.out.bel Q10.out (Vx4 hlow.out W9.out.size)); have W10 := hid (W9.out.trans (Q10.out.mono W9.out.size)); have R10 := hid (R9.out.bel Q10.out); have S10 := hid (S9.out.bel Q10.out); have L10 := hid (Zab Q10.out L9.out); have O10 := hid (Zab Q10.out O9.out); have U10 := hid (U9.out.bel Q10.out); have T10 := hid (Zab Q10.out T9.out); have V10 := hid (V9.out.bel Q10.out); have G10 := hid (G9.out.bel Q10.out); have B10 := hid (Zab Q10.out B9.out); have Z10 := hid ((Q10.out.block _ (block_lt Z9.out)).trans Z9.out); have M10 := hid (M9.out.bel Q10.out); have N10 := hid (N9.out.bel Q10.out); have C10 := hid (Zab Q10.out C9.out); have E10 := hid (E9.out.bel Q10.out); have F10 := hid (F9.out.bel Q10.out); have I10 := hid (I9.out.bel Q10.out); have J10 := hid (J9.out.bel Q10.out); clear H9 W9 R9 S9 L9 O9 U9 T9 V9 G9 B9 Z9 M9 N9 C9 E9 F9 I9 J9)
      | (with_reducible refine lDr L10.out jl.out hul ?_))
    refine (hQ2.out _ R10.out.any hle.out).mono ?_
    rintro e w11 ⟨A11, c11, D11, e11, rfl, o11, p11, hb⟩
    have H11 := hid (H10.out.bel hb (Vx4 hlow.out W10.out.size))
    have W11 := hid (W10.out.trans (hb.mono W10.out.size))
    have R11 := hid (R10.out.bel hb)
    have S11 := hid (S10.out.bel hb)
    have L11 := hid (Zab hb L10.out)
    have O11 := hid (Zab hb O10.out)
    have U11 := hid (U10.out.bel hb)
    have T11 := hid (Zab hb T10.out)
    have V11 := hid (V10.out.bel hb)
    have G11 := hid (G10.out.bel hb)
    have B11 := hid (Zab hb B10.out)
    have Z11 := hid ((hb.block _ (block_lt Z10.out)).trans Z10.out)
    have M11 := hid (M10.out.bel hb)
    have N11 := hid (N10.out.bel hb)
    have C11 := hid (Zab hb C10.out)
    have E11 := hid (E10.out.bel hb)
    have F11 := hid (F10.out.bel hb)
    have I11 := hid (I10.out.bel hb)
    have J11 := hid (J10.out.bel hb)
    have D11 := hid (Zab hb D10.out)
    have Y11 := hid ((hb.block _ (block_lt Y10.out)).trans Y10.out)
    clear H10 W10 R10 S10 L10 O10 U10 T10 V10 G10 B10 Z10 M10 N10 C10 E10 F10 I10 J10 D10 Y10
    have P11 := hid (OwnR.row o11).any
    have Q11 := hid (OwnR.row p11).any
    clear o11 p11 hb hQ2
    have e11z := hid (Vx0 w11 (.cells zLnC 26))
    go_wp2_with (first
      | (with_reducible refine Zac rfl 26 rfl zLnC YoX ?_)
      | ((with_reducible refine stW 23 92 w11.heap.size 26 zLnC ?_ ?_ ?_ ?_ ?_); exact e11z.out; exact js.out _ _ _ _; exact zs.out _ _ _ _; exact os.out _ _ _ _; intro w12 hgS hbS hsS; have Q12 := hid (Zan rfl hbS); have s12 := hid (block_lt hgS); have A12 := hid (Zae hgS); clear hgS hbS hsS; have H12 := hid (H11.out.bel Q12.out (Vx4 hlow.out W11.out.size)); have W12 := hid (W11.out.trans (Q12.out.mono W11.out.size)); have R12 := hid (R11.out.bel Q12.out); have S12 := hid (S11.out.bel Q12.out); have L12 := hid (Zab Q12.out L11.out); have O12 := hid (Zab Q12.out O11.out); have U12 := hid (U11.out.bel Q12.out); have T12 := hid (Zab Q12.out T11.out); have V12 := hid (V11.out.bel Q12.out); have G12 := hid (G11.out.bel Q12.out); have B12 := hid (Zab Q12.out B11.out); have Z12 := hid ((Q12.out.block _ (block_lt Z11.out)).trans Z11.out); have M12 := hid (M11.out.bel Q12.out); have N12 := hid (N11.out.bel Q12.out); have C12 := hid (Zab Q12.out C11.out); have E12 := hid (E11.out.bel Q12.out); have F12 := hid (F11.out.bel Q12.out); have I12 := hid (I11.out.bel Q12.out); have J12 := hid (J11.out.bel Q12.out); have D12 := hid (Zab Q12.out D11.out); have Y12 := hid ((Q12.out.block _ (block_lt Y11.out)).trans Y11.out); have P12 := hid (P11.out.bel Q12.out); have Q12 := hid (Q11.out.bel Q12.out); clear H11 W11 R11 S11 L11 O11 U11 T11 V11 G11 B11 Z11 M11 N11 C11 E11 F11 I11 J11 D11 Y11 P11 Q11)
      | (with_reducible refine lDr B12.out (js.out _ _ _ _) hul ?_)
      | (with_reducible refine lDr C12.out (js.out _ _ _ _) hul ?_))
    refine (hYY.out La A3 c3 A5 c5 _ V12.out.row.any M12.out hla.out).mono ?_
    rintro e w13 ⟨rfl, hb⟩
    have H13 := hid (H12.out.bel hb (Vx4 hlow.out W12.out.size))
    have W13 := hid (W12.out.trans (hb.mono W12.out.size))
    have R13 := hid (R12.out.bel hb)
    have S13 := hid (S12.out.bel hb)
    have L13 := hid (Zab hb L12.out)
    have O13 := hid (Zab hb O12.out)
    have U13 := hid (U12.out.bel hb)
    have T13 := hid (Zab hb T12.out)
    have V13 := hid (V12.out.bel hb)
    have G13 := hid (G12.out.bel hb)
    have B13 := hid (Zab hb B12.out)
    have Z13 := hid ((hb.block _ (block_lt Z12.out)).trans Z12.out)
    have M13 := hid (M12.out.bel hb)
    have N13 := hid (N12.out.bel hb)
    have C13 := hid (Zab hb C12.out)
    have E13 := hid (E12.out.bel hb)
    have F13 := hid (F12.out.bel hb)
    have I13 := hid (I12.out.bel hb)
    have J13 := hid (J12.out.bel hb)
    have D13 := hid (Zab hb D12.out)
    have Y13 := hid ((hb.block _ (block_lt Y12.out)).trans Y12.out)
    have P13 := hid (P12.out.bel hb)
    have Q13 := hid (Q12.out.bel hb)
    have A13 := hid (Zab hb A12.out)
    clear H12 W12 R12 S12 L12 O12 U12 T12 V12 G12 B12 Z12 M12 N12 C12 E12 F12 I12 J12 D12 Y12 P12 Q12 A12
    clear hb M13 C13
    go_wp2_with fail
    refine (hTX.out O1 D3 e3 D5 e5 _ G13.out N13.out (by have := kg.out; unfold maxLen at this; omega)).mono ?_
    rintro e w14 ⟨rfl, hb⟩
    have H14 := hid (H13.out.bel hb (Vx4 hlow.out W13.out.size))
    have W14 := hid (W13.out.trans (hb.mono W13.out.size))
    have R14 := hid (R13.out.bel hb)
    have S14 := hid (S13.out.bel hb)
    have L14 := hid (Zab hb L13.out)
    have O14 := hid (Zab hb O13.out)
    have U14 := hid (U13.out.bel hb)
    have T14 := hid (Zab hb T13.out)
    have V14 := hid (V13.out.bel hb)
    have G14 := hid (G13.out.bel hb)
    have B14 := hid (Zab hb B13.out)
    have Z14 := hid ((hb.block _ (block_lt Z13.out)).trans Z13.out)
    have N14 := hid (N13.out.bel hb)
    have E14 := hid (E13.out.bel hb)
    have F14 := hid (F13.out.bel hb)
    have I14 := hid (I13.out.bel hb)
    have J14 := hid (J13.out.bel hb)
    have D14 := hid (Zab hb D13.out)
    have Y14 := hid ((hb.block _ (block_lt Y13.out)).trans Y13.out)
    have P14 := hid (P13.out.bel hb)
    have Q14 := hid (Q13.out.bel hb)
    have A14 := hid (Zab hb A13.out)
    clear H13 W13 R13 S13 L13 O13 U13 T13 V13 G13 B13 Z13 N13 E13 F13 I13 J13 D13 Y13 P13 Q13 A13
    clear hb G14 N14
    go_wp2_with fail
    refine (hTX.out Rs A7 c7 A8 c8 _ E14.out F14.out (by have := kr.out; unfold maxLen at this; omega)).mono ?_
    rintro e w15 ⟨rfl, hb⟩
    have H15 := hid (H14.out.bel hb (Vx4 hlow.out W14.out.size))
    have W15 := hid (W14.out.trans (hb.mono W14.out.size))
    have R15 := hid (R14.out.bel hb)
    have S15 := hid (S14.out.bel hb)
    have L15 := hid (Zab hb L14.out)
    have O15 := hid (Zab hb O14.out)
    have U15 := hid (U14.out.bel hb)
    have T15 := hid (Zab hb T14.out)
    have V15 := hid (V14.out.bel hb)
    have B15 := hid (Zab hb B14.out)
    have Z15 := hid ((hb.block _ (block_lt Z14.out)).trans Z14.out)
    have E15 := hid (E14.out.bel hb)
    have F15 := hid (F14.out.bel hb)
    have I15 := hid (I14.out.bel hb)
    have J15 := hid (J14.out.bel hb)
    have D15 := hid (Zab hb D14.out)
    have Y15 := hid ((hb.block _ (block_lt Y14.out)).trans Y14.out)
    have P15 := hid (P14.out.bel hb)
    have Q15 := hid (Q14.out.bel hb)
    have A15 := hid (Zab hb A14.out)
    clear H14 W14 R14 S14 L14 O14 U14 T14 V14 B14 Z14 E14 F14 I14 J14 D14 Y14 P14 Q14 A14
    clear hb E15 F15
    go_wp2_with fail
    refine rgB fun hHeld => ?_
    refine' tkM 0 rfl (fun _ h => Zab h D15.out) hul (js.out _ _ _ _) ?_
    refine' tkM 1 rfl (fun _ h => Zab h A15.out) hul (js.out _ _ _ _) ?_
    simp only [sQ]
    refine rdC 2 rfl (hYY.out Lp A9 c9 A11 c11 _ (I15.out.bel hHeld).row.any (P15.out.bel hHeld) hlp.out) fun v2 hB hHeld => ?_
    try simp only [sQ]
    refine' tkW 3 4 ?_
    refine' tkP 5 rfl ?_
    simp only [sQ]
    refine rdC 6 rfl (hTX.out Gp D9 e9 D11 e11 _ (J15.out.bel hHeld) (Q15.out.bel hHeld) (by have := kp.out; unfold maxLen at this; omega)) fun v6 hB hHeld => ?_
    try simp only [sQ]
    refine' tkW 7 8 ?_
    refine' tkW 9 10 ?_
    simp only [sQ]
    refine' tkW 11 12 ?_
    refine' tkP 13 rfl ?_
    refine' tkM 14 rfl (fun _ h => Zab h T15.out) hul (js.out _ _ _ _) ?_
    simp only [sQ]
    refine' tkM 16 rfl (fun _ h => Zab h L15.out) hul jl.out ?_
    simp only [sQ]
    refine rdC 15 rfl (hC1.out A1 c1 _ (U15.out.bel hHeld).row.any hle.out (H15.out.bel hHeld (Vx4 hlow.out W15.out.size))) fun v15 hB hHeld => ?_
    try simp only [sQ]
    refine rdC 17 rfl (hC2.out _ (R15.out.bel hHeld).any hle.out) fun w16 hB hHeld => ?_
    try simp only [sQ]
    refine' tkW 18 19 ?_
    refine' tkP 20 rfl ?_
    simp only [sQ]
    refine dnN ?_
    clear J15 P15 Q15 A15
    have H16 := hid (H15.out.bel hHeld (Vx4 hlow.out W15.out.size))
    have W16 := hid (W15.out.trans (hHeld.mono W15.out.size))
    have R16 := hid (R15.out.bel hHeld)
    have S16 := hid (S15.out.bel hHeld)
    have L16 := hid (Zab hHeld L15.out)
    have O16 := hid (Zab hHeld O15.out)
    have U16 := hid (U15.out.bel hHeld)
    have T16 := hid (Zab hHeld T15.out)
    have V16 := hid (V15.out.bel hHeld)
    have B16 := hid (Zab hHeld B15.out)
    have Z16 := hid ((hHeld.block _ (block_lt Z15.out)).trans Z15.out)
    have I16 := hid (I15.out.bel hHeld)
    have D16 := hid (Zab hHeld D15.out)
    have Y16 := hid ((hHeld.block _ (block_lt Y15.out)).trans Y15.out)
    clear H15 W15 R15 S15 L15 O15 U15 T15 V15 B15 Z15 I15 D15 Y15
    clear hHeld
    go_wp2_with fail
    refine rgB fun hHeld => ?_
    refine' tkM 0 rfl (fun _ h => Zab h T16.out) hul (js.out _ _ _ _) ?_
    refine' tkM 1 rfl (fun _ h => Zab h O16.out) hul jo.out ?_
    refine' tkM 3 rfl (fun _ h => Zab h L16.out) hul jl.out ?_
    refine' tkM 4 rfl (fun _ h => Zab h O16.out) hul jo.out ?_
    simp only [sQ]
    refine rdC 2 rfl (hY1.out A1 c1 _ (U16.out.bel hHeld).row.any (S16.out.bel hHeld).any hle.out hly.out) fun v2 hB hHeld => ?_
    try simp only [sQ]
    refine rdC 5 rfl (hY2.out _ (R16.out.bel hHeld).any (S16.out.bel hHeld).any hle.out hly.out) fun v5 hB hHeld => ?_
    try simp only [sQ]
    refine' tkL 6 ((.bool true)) rfl ?_ ?_
    · intro W hSw
      go_simp
    try simp only [sQ]
    refine' tkP 7 rfl ?_
    refine' tkM 8 rfl (fun _ h => Zab h T16.out) hul (js.out _ _ _ _) ?_
    refine' tkM 9 rfl (fun _ h => Zab h L16.out) hul jl.out ?_
    simp only [sQ]
    refine rdC 10 rfl (hY3.out A1 c1 _ (U16.out.bel hHeld).row.any (R16.out.bel hHeld).any hle.out) fun v10 hB hHeld => ?_
    try simp only [sQ]
    refine' tkW 11 12 ?_
    refine' tkM 13 rfl (fun _ h => Zab h T16.out) hul (js.out _ _ _ _) ?_
    refine' tkM 15 rfl (fun _ h => Zab h L16.out) hul jl.out ?_
    simp only [sQ]
    refine rdH 14 rfl fun K hK => ?_
    go_simp
    refine (hT2.out A1 c1 _ (U16.out.bel hHeld).row.any hle.out).mono ?_
    rintro e v14 ⟨A14, c14, rfl, o14, hB⟩
    go_wp2_with fail
    refine kB hK hHeld hB fun hHeld => ?_
    clear hK K
    try simp only [sQ]
    refine rdC 16 rfl (hY4.out A14 c14 _ (OwnR.row o14).any (R16.out.bel hHeld).any hle.out) fun w17 hB hHeld => ?_
    try simp only [sQ]
    refine' tkW 17 18 ?_
    simp only [sQ]
    refine dnN ?_
    clear O16 S16
    have H17 := hid (H16.out.bel hHeld (Vx4 hlow.out W16.out.size))
    have W17 := hid (W16.out.trans (hHeld.mono W16.out.size))
    have R17 := hid (R16.out.bel hHeld)
    have L17 := hid (Zab hHeld L16.out)
    have U17 := hid (U16.out.bel hHeld)
    have T17 := hid (Zab hHeld T16.out)
    have V17 := hid (V16.out.bel hHeld)
    have B17 := hid (Zab hHeld B16.out)
    have Z17 := hid ((hHeld.block _ (block_lt Z16.out)).trans Z16.out)
    have I17 := hid (I16.out.bel hHeld)
    have D17 := hid (Zab hHeld D16.out)
    have Y17 := hid ((hHeld.block _ (block_lt Y16.out)).trans Y16.out)
    clear H16 W16 R16 L16 U16 T16 V16 B16 Z16 I16 D16 Y16
    clear hHeld H17
    have ord : w.heap.size ≤ w1.heap.size ∧ w1.heap.size < w2.heap.size ∧ w2.heap.size ≤ w3.heap.size ∧ w3.heap.size < w8.heap.size := by
      have := m1.out; have := s2.out; have := m3.out; have := s4.out; have := m5.out; have := s6.out; have := m7.out; have := m8.out; omega
    replace ord := hid ord
    clear m1 s2 m3 s4 m5 s6 m7 m8
    have hbs : Soft w17 w9.heap.size := ⟨_, _, Y17.out⟩
    have y0 := hbx.out _ _ _ _ _ _ D17.out
    have hl9 := hlp.out
    go_wp2
    go_loopw [29] (fun i wr => ∃ k : Nat, k ≤ Lp.xs.length ∧ i = .int .i64 k ∧ MutI (fun b => w8.heap.size ≤ b ∧ b < w9.heap.size) w17 wr) (fun i _ => Lp.xs.length - (intOf i).toNat)
    case atStart => exact ⟨0, Nat.zero_le _, rfl, MutI.refl _ _⟩
    case round =>
      obtain ⟨k, hk, rfl, hm⟩ := hrel
      have y1 := hm.same hbs y0 (Zcd _ _ _)
      by_cases hlt : k < Lp.xs.length
      · obtain ⟨b, o, hA, hFb, hsb, hn0⟩ := held_numQ I17.out hlt
        subst hA
        have hlt2 : (k : Int) < (Lp.xs.length : Int) := by omega
        obtain ⟨n, hn⟩ := hm.num hsb hn0
        have hf := (hsb.mutI hm).free (o + k * 99 + 64)
        have Hn := hid hn
        have Hm := hid hm
        have HF := hid hFb
        clear hm hFb hsb y0 hn0 hbs
        go_wp2
        go_roundw
        case rel => exact ⟨k + 1, by omega, by go_num, Hm.out.store HF.out Hn.out _⟩
        case measure => simp [intOf]; omega
      · obtain rfl : k = Lp.xs.length := by omega
        have hlt2 : ¬ (Lp.xs.length : Int) < (Lp.xs.length : Int) := by omega
        have hC := hm.chg
        have od := ord.out
        have W18 := hid (W17.out.trans (hC.below W17.out.size (fun b hb e => by omega)))
        have R18 := hid (Row.chgLow R17.out hC (by omega))
        have L18 := hid (Zak L17.out (fun hb => hC.block _ hb (fun e => by omega)))
        have U18 := hid (U17.out.chg hC (by omega))
        have T18 := hid (Zak T17.out (fun hb => hC.block _ hb (fun e => by omega)))
        have V18 := hid (V17.out.chg hC (by omega))
        have B18 := hid (Zak B17.out (fun hb => hC.block _ hb (fun e => by omega)))
        have Z18 := hid ((hC.block _ (block_lt Z17.out) (fun e => by omega)).trans Z17.out)
        clear W17 R17 L17 U17 T17 V17 B17 Z17 I17 D17 Y17 hC od hbs y0 hm
        generalize hwr : wr = w18 at *
        replace hwr := hid hwr
        have hbs : Soft w18 w3.heap.size := ⟨_, _, Z18.out⟩
        have y0 := hbx.out _ _ _ _ _ _ B18.out
        have hl9 := hla.out
        go_wp2
        go_loopw [30] (fun i wr => ∃ k : Nat, k ≤ La.xs.length ∧ i = .int .i64 k ∧ MutI (fun b => w2.heap.size ≤ b ∧ b < w3.heap.size) w18 wr) (fun i _ => La.xs.length - (intOf i).toNat)
        case atStart => exact ⟨0, Nat.zero_le _, rfl, MutI.refl _ _⟩
        case round =>
          obtain ⟨k, hk, rfl, hm⟩ := hrel
          have y1 := hm.same hbs y0 (Zcd _ _ _)
          by_cases hlt : k < La.xs.length
          · obtain ⟨b, o, hA, hFb, hsb, hn0⟩ := held_numQ V18.out hlt
            subst hA
            have hlt2 : (k : Int) < (La.xs.length : Int) := by omega
            obtain ⟨n, hn⟩ := hm.num hsb hn0
            have hf := (hsb.mutI hm).free (o + k * 99 + 64)
            have Hn := hid hn
            have Hm := hid hm
            have HF := hid hFb
            clear hm hFb hsb y0 hn0 hbs
            go_wp2
            go_roundw
            case rel => exact ⟨k + 1, by omega, by go_num, Hm.out.store HF.out Hn.out _⟩
            case measure => simp [intOf]; omega
          · obtain rfl : k = La.xs.length := by omega
            have hlt2 : ¬ (La.xs.length : Int) < (La.xs.length : Int) := by omega
            have hC := hm.chg
            have od := ord.out
            have W19 := hid (W18.out.trans (hC.below W18.out.size (fun b hb e => by omega)))
            have R19 := hid (Row.chgLow R18.out hC (by omega))
            have L19 := hid (Zak L18.out (fun hb => hC.block _ hb (fun e => by omega)))
            have U19 := hid (U18.out.chg hC (by omega))
            have T19 := hid (Zak T18.out (fun hb => hC.block _ hb (fun e => by omega)))
            clear W18 R18 L18 U18 T18 V18 B18 Z18 hC od hbs y0 hm
            generalize hwr : wr = w19 at *
            replace hwr := hid hwr
            go_wp2_with (first
              | (with_reducible refine lDr T19.out (js.out _ _ _ _) hul ?_)
              | (with_reducible refine lDr L19.out jl.out hul ?_))
            refine (hY4.out A1 c1 _ U19.out.row.any R19.out.any hle.out).mono ?_
            rintro e w20 ⟨rfl, hb⟩
            have W20 := hid (W19.out.trans (hb.mono W19.out.size))
            clear hb
            go_wp2
            go_ret
            exact ⟨rfl, W20.out⟩
  · have q0 : decide ((12 : Int) < (xs.length : Int)) = false := Vy1 (by omega)
    have q2 : decide ((258 : Int) < (xs.length : Int)) = false := Vy1 (by omega)
    have q3 : decide ((12 : Int) < (ys.length : Int)) = false := Vy1 (by omega)
    have hle := hid (show xs.length ≤ 300 by omega)
    have hla := hid (show La.xs.length ≤ 301 by omega)
    have hlp := hid (show Lp.xs.length ≤ 301 by omega)
    have hly := hid (show ys.length ≤ 12 by omega)
    clear hn1 hn2
    go_enter Tryd.func4, Tryd.ntmps4
    go_wp2_with ((with_reducible refine lDr L0.out jl.out hul ?_))
    refine (hTw.out _ R0.out.any hle.out).mono ?_
    rintro e w1 ⟨A1, c1, rfl, o1, hb⟩
    clear cA cB
    have H1 := hid (H0.out.bel hb (Vx4 hlow.out W0.out.size))
    have W1 := hid (W0.out.trans (hb.mono W0.out.size))
    have R1 := hid (R0.out.bel hb)
    have S1 := hid (S0.out.bel hb)
    have L1 := hid (Zab hb L0.out)
    have O1 := hid (Zab hb O0.out)
    have X1 := hid (Zab hb X0.out)
    clear H0 W0 R0 S0 L0 O0 X0
    have U1 := hid o1.held
    have k1 := hid o1.cap
    have m1 := hid W1.out.size
    clear o1 hb hTw
    have e1z := hid (Vx0 w1 (.cells zLnC 26))
    go_wp2_with (first
      | (with_reducible refine Zac rfl 26 rfl zLnC YoX ?_)
      | ((with_reducible refine stW 9 54 w1.heap.size 26 zLnC ?_ ?_ ?_ ?_ ?_); exact e1z.out; exact js.out _ _ _ _; exact zs.out _ _ _ _; exact os.out _ _ _ _; intro w2 hgS hbS hsS; have Q2 := hid (Zan rfl hbS); have s2 := hid (block_lt hgS); have T2 := hid (Zae hgS); clear hgS hbS hsS; have H2 := hid (H1.out.bel Q2.out (Vx4 hlow.out W1.out.size)); have W2 := hid (W1.out.trans (Q2.out.mono W1.out.size)); have R2 := hid (R1.out.bel Q2.out); have S2 := hid (S1.out.bel Q2.out); have L2 := hid (Zab Q2.out L1.out); have O2 := hid (Zab Q2.out O1.out); have X2 := hid (Zab Q2.out X1.out); have U2 := hid (U1.out.bel Q2.out); clear H1 W1 R1 S1 L1 O1 X1 U1)
      | (with_reducible refine lDr T2.out (js.out _ _ _ _) hul ?_)
      | (with_reducible refine lDr X2.out jx.out hux ?_))
    refine (hP1.out A1 c1 _ U2.out.row.any hle.out k1.out H2.out).mono ?_
    rintro e w3 ⟨A3, c3, D3, e3, rfl, o3, p3, hb⟩
    have H3 := hid (H2.out.bel hb (Vx4 hlow.out W2.out.size))
    have W3 := hid (W2.out.trans (hb.mono W2.out.size))
    have R3 := hid (R2.out.bel hb)
    have S3 := hid (S2.out.bel hb)
    have L3 := hid (Zab hb L2.out)
    have O3 := hid (Zab hb O2.out)
    have X3 := hid (Zab hb X2.out)
    have U3 := hid (U2.out.bel hb)
    have T3 := hid (Zab hb T2.out)
    clear H2 W2 R2 S2 L2 O2 X2 U2 T2
    have m3 := hid hb.size
    have V3 := hid o3.held
    have G3 := hid (OwnR.row p3).any
    have kg := hid p3.cap
    clear o3 p3 hb hP1
    have e3z := hid (Vx0 w3 (.cells zLnC 26))
    go_wp2_with (first
      | (with_reducible refine Zac rfl 26 rfl zLnC YoX ?_)
      | ((with_reducible refine stW 10 59 w3.heap.size 26 zLnC ?_ ?_ ?_ ?_ ?_); exact e3z.out; exact js.out _ _ _ _; exact zs.out _ _ _ _; exact os.out _ _ _ _; intro w4 hgS hbS hsS; have Q4 := hid (Zan rfl hbS); have s4 := hid (block_lt hgS); have B4 := hid (Zae hgS); have Z4 := hid hgS; clear hgS hbS hsS; have H4 := hid (H3.out.bel Q4.out (Vx4 hlow.out W3.out.size)); have W4 := hid (W3.out.trans (Q4.out.mono W3.out.size)); have R4 := hid (R3.out.bel Q4.out); have S4 := hid (S3.out.bel Q4.out); have L4 := hid (Zab Q4.out L3.out); have O4 := hid (Zab Q4.out O3.out); have X4 := hid (Zab Q4.out X3.out); have U4 := hid (U3.out.bel Q4.out); have T4 := hid (Zab Q4.out T3.out); have V4 := hid (V3.out.bel Q4.out); have G4 := hid (G3.out.bel Q4.out); clear H3 W3 R3 S3 L3 O3 X3 U3 T3 V3 G3)
      | (with_reducible refine lDr L4.out jl.out hul ?_)
      | (with_reducible refine lDr X4.out jx.out hux ?_))
    refine (hP2.out _ R4.out.any hle.out).mono ?_
    rintro e w5 ⟨A5, c5, D5, e5, rfl, o5, p5, hb⟩
    have H5 := hid (H4.out.bel hb (Vx4 hlow.out W4.out.size))
    have W5 := hid (W4.out.trans (hb.mono W4.out.size))
    have R5 := hid (R4.out.bel hb)
    have S5 := hid (S4.out.bel hb)
    have L5 := hid (Zab hb L4.out)
    have O5 := hid (Zab hb O4.out)
    have X5 := hid (Zab hb X4.out)
    have U5 := hid (U4.out.bel hb)
    have T5 := hid (Zab hb T4.out)
    have V5 := hid (V4.out.bel hb)
    have G5 := hid (G4.out.bel hb)
    have B5 := hid (Zab hb B4.out)
    have Z5 := hid ((hb.block _ (block_lt Z4.out)).trans Z4.out)
    clear H4 W4 R4 S4 L4 O4 X4 U4 T4 V4 G4 B4 Z4
    have m5 := hid hb.size
    have M5 := hid (OwnR.row o5).any
    have N5 := hid (OwnR.row p5).any
    clear o5 p5 hb hP2 X5
    have e5z := hid (Vx0 w5 (.cells zLnC 26))
    go_wp2_with (first
      | (with_reducible refine Zac rfl 26 rfl zLnC YoX ?_)
      | ((with_reducible refine stW 13 66 w5.heap.size 26 zLnC ?_ ?_ ?_ ?_ ?_); exact e5z.out; exact js.out _ _ _ _; exact zs.out _ _ _ _; exact os.out _ _ _ _; intro w6 hgS hbS hsS; have Q6 := hid (Zan rfl hbS); have s6 := hid (block_lt hgS); have C6 := hid (Zae hgS); clear hgS hbS hsS; have H6 := hid (H5.out.bel Q6.out (Vx4 hlow.out W5.out.size)); have W6 := hid (W5.out.trans (Q6.out.mono W5.out.size)); have R6 := hid (R5.out.bel Q6.out); have S6 := hid (S5.out.bel Q6.out); have L6 := hid (Zab Q6.out L5.out); have O6 := hid (Zab Q6.out O5.out); have U6 := hid (U5.out.bel Q6.out); have T6 := hid (Zab Q6.out T5.out); have V6 := hid (V5.out.bel Q6.out); have G6 := hid (G5.out.bel Q6.out); have B6 := hid (Zab Q6.out B5.out); have Z6 := hid ((Q6.out.block _ (block_lt Z5.out)).trans Z5.out); have M6 := hid (M5.out.bel Q6.out); have N6 := hid (N5.out.bel Q6.out); clear H5 W5 R5 S5 L5 O5 U5 T5 V5 G5 B5 Z5 M5 N5)
      | (with_reducible refine lDr T6.out (js.out _ _ _ _) hul ?_))
    refine (hR1.out A1 c1 _ U6.out.row.any hle.out k1.out H6.out).mono ?_
    rintro e w7 ⟨A7, c7, rfl, o7, hb⟩
    have H7 := hid (H6.out.bel hb (Vx4 hlow.out W6.out.size))
    have W7 := hid (W6.out.trans (hb.mono W6.out.size))
    have R7 := hid (R6.out.bel hb)
    have S7 := hid (S6.out.bel hb)
    have L7 := hid (Zab hb L6.out)
    have O7 := hid (Zab hb O6.out)
    have U7 := hid (U6.out.bel hb)
    have T7 := hid (Zab hb T6.out)
    have V7 := hid (V6.out.bel hb)
    have G7 := hid (G6.out.bel hb)
    have B7 := hid (Zab hb B6.out)
    have Z7 := hid ((hb.block _ (block_lt Z6.out)).trans Z6.out)
    have M7 := hid (M6.out.bel hb)
    have N7 := hid (N6.out.bel hb)
    have C7 := hid (Zab hb C6.out)
    clear H6 W6 R6 S6 L6 O6 U6 T6 V6 G6 B6 Z6 M6 N6 C6
    have m7 := hid hb.size
    have E7 := hid (OwnR.row o7).any
    have kr := hid o7.cap
    clear o7 hb hR1
    go_wp2_with ((with_reducible refine lDr L7.out jl.out hul ?_))
    refine (hR2.out _ R7.out.any hle.out).mono ?_
    rintro e w8 ⟨A8, c8, rfl, o8, hb⟩
    have H8 := hid (H7.out.bel hb (Vx4 hlow.out W7.out.size))
    have W8 := hid (W7.out.trans (hb.mono W7.out.size))
    have R8 := hid (R7.out.bel hb)
    have S8 := hid (S7.out.bel hb)
    have L8 := hid (Zab hb L7.out)
    have O8 := hid (Zab hb O7.out)
    have U8 := hid (U7.out.bel hb)
    have T8 := hid (Zab hb T7.out)
    have V8 := hid (V7.out.bel hb)
    have G8 := hid (G7.out.bel hb)
    have B8 := hid (Zab hb B7.out)
    have Z8 := hid ((hb.block _ (block_lt Z7.out)).trans Z7.out)
    have M8 := hid (M7.out.bel hb)
    have N8 := hid (N7.out.bel hb)
    have C8 := hid (Zab hb C7.out)
    have E8 := hid (E7.out.bel hb)
    clear H7 W7 R7 S7 L7 O7 U7 T7 V7 G7 B7 Z7 M7 N7 C7 E7
    have m8 := hid hb.size
    have F8 := hid (OwnR.row o8).any
    clear o8 hb hR2
    go_wp2_with ((with_reducible refine lDr T8.out (js.out _ _ _ _) hul ?_))
    refine (hQ1.out A1 c1 _ U8.out.row.any hle.out k1.out H8.out).mono ?_
    rintro e w9 ⟨A9, c9, D9, e9, rfl, o9, p9, hb⟩
    have H9 := hid (H8.out.bel hb (Vx4 hlow.out W8.out.size))
    have W9 := hid (W8.out.trans (hb.mono W8.out.size))
    have R9 := hid (R8.out.bel hb)
    have S9 := hid (S8.out.bel hb)
    have L9 := hid (Zab hb L8.out)
    have O9 := hid (Zab hb O8.out)
    have U9 := hid (U8.out.bel hb)
    have T9 := hid (Zab hb T8.out)
    have V9 := hid (V8.out.bel hb)
    have G9 := hid (G8.out.bel hb)
    have B9 := hid (Zab hb B8.out)
    have Z9 := hid ((hb.block _ (block_lt Z8.out)).trans Z8.out)
    have M9 := hid (M8.out.bel hb)
    have N9 := hid (N8.out.bel hb)
    have C9 := hid (Zab hb C8.out)
    have E9 := hid (E8.out.bel hb)
    have F9 := hid (F8.out.bel hb)
    clear H8 W8 R8 S8 L8 O8 U8 T8 V8 G8 B8 Z8 M8 N8 C8 E8 F8
    have I9 := hid o9.held
    have J9 := hid (OwnR.row p9).any
    have kp := hid p9.cap
    clear o9 p9 hb hQ1
    have e9z := hid (Vx0 w9 (.cells zLnC 26))
    go_wp2_with (first
      | (with_reducible refine Zac rfl 26 rfl zLnC YoX ?_)
      | ((with_reducible refine stW 20 85 w9.heap.size 26 zLnC ?_ ?_ ?_ ?_ ?_); exact e9z.out; exact js.out _ _ _ _; exact zs.out _ _ _ _; exact os.out _ _ _ _; intro w10 hgS hbS hsS; have Q10 := hid (Zan rfl hbS); have s10 := hid (block_lt hgS); have D10 := hid (Zae hgS); have Y10 := hid hgS; clear hgS hbS hsS; have H10 := hid (H9.out.bel Q10.out (Vx4 hlow.out W9.out.size)); have W10 := hid (W9.out.trans (Q10.out.mono W9.out.size)); have R10 := hid (R9.out.bel Q10.out); have S10 := hid (S9.out.bel Q10.out); have L10 := hid (Zab Q10.out L9.out); have O10 := hid (Zab Q10.out O9.out); have U10 := hid (U9.out.bel Q10.out); have T10 := hid (Zab Q10.out T9.out); have V10 := hid (V9.out.bel Q10.out); have G10 := hid (G9.out.bel Q10.out); have B10 := hid (Zab Q10.out B9.out); have Z10 := hid ((Q10.out.block _ (block_lt Z9.out)).trans Z9.out); have M10 := hid (M9.out.bel Q10.out); have N10 := hid (N9.out.bel Q10.out); have C10 := hid (Zab Q10.out C9.out); have E10 := hid (E9.out.bel Q10.out); have F10 := hid (F9.out.bel Q10.out); have I10 := hid (I9.out.bel Q10.out); have J10 := hid (J9.out.bel Q10.out); clear H9 W9 R9 S9 L9 O9 U9 T9 V9 G9 B9 Z9 M9 N9 C9 E9 F9 I9 J9)
      | (with_reducible refine lDr L10.out jl.out hul ?_))
    refine (hQ2.out _ R10.out.any hle.out).mono ?_
    rintro e w11 ⟨A11, c11, D11, e11, rfl, o11, p11, hb⟩
    have H11 := hid (H10.out.bel hb (Vx4 hlow.out W10.out.size))
    have W11 := hid (W10.out.trans (hb.mono W10.out.size))
    have R11 := hid (R10.out.bel hb)
    have S11 := hid (S10.out.bel hb)
    have L11 := hid (Zab hb L10.out)
    have O11 := hid (Zab hb O10.out)
    have U11 := hid (U10.out.bel hb)
    have T11 := hid (Zab hb T10.out)
    have V11 := hid (V10.out.bel hb)
    have G11 := hid (G10.out.bel hb)
    have B11 := hid (Zab hb B10.out)
    have Z11 := hid ((hb.block _ (block_lt Z10.out)).trans Z10.out)
    have M11 := hid (M10.out.bel hb)
    have N11 := hid (N10.out.bel hb)
    have C11 := hid (Zab hb C10.out)
    have E11 := hid (E10.out.bel hb)
    have F11 := hid (F10.out.bel hb)
    have I11 := hid (I10.out.bel hb)
    have J11 := hid (J10.out.bel hb)
    have D11 := hid (Zab hb D10.out)
    have Y11 := hid ((hb.block _ (block_lt Y10.out)).trans Y10.out)
    clear H10 W10 R10 S10 L10 O10 U10 T10 V10 G10 B10 Z10 M10 N10 C10 E10 F10 I10 J10 D10 Y10
    have P11 := hid (OwnR.row o11).any
    have Q11 := hid (OwnR.row p11).any
    clear o11 p11 hb hQ2
    have e11z := hid (Vx0 w11 (.cells zLnC 26))
    go_wp2_with (first
      | (with_reducible refine Zac rfl 26 rfl zLnC YoX ?_)
      | ((with_reducible refine stW 23 92 w11.heap.size 26 zLnC ?_ ?_ ?_ ?_ ?_); exact e11z.out; exact js.out _ _ _ _; exact zs.out _ _ _ _; exact os.out _ _ _ _; intro w12 hgS hbS hsS; have Q12 := hid (Zan rfl hbS); have s12 := hid (block_lt hgS); have A12 := hid (Zae hgS); clear hgS hbS hsS; have H12 := hid (H11.out.bel Q12.out (Vx4 hlow.out W11.out.size)); have W12 := hid (W11.out.trans (Q12.out.mono W11.out.size)); have R12 := hid (R11.out.bel Q12.out); have S12 := hid (S11.out.bel Q12.out); have L12 := hid (Zab Q12.out L11.out); have O12 := hid (Zab Q12.out O11.out); have U12 := hid (U11.out.bel Q12.out); have T12 := hid (Zab Q12.out T11.out); have V12 := hid (V11.out.bel Q12.out); have G12 := hid (G11.out.bel Q12.out); have B12 := hid (Zab Q12.out B11.out); have Z12 := hid ((Q12.out.block _ (block_lt Z11.out)).trans Z11.out); have M12 := hid (M11.out.bel Q12.out); have N12 := hid (N11.out.bel Q12.out); have C12 := hid (Zab Q12.out C11.out); have E12 := hid (E11.out.bel Q12.out); have F12 := hid (F11.out.bel Q12.out); have I12 := hid (I11.out.bel Q12.out); have J12 := hid (J11.out.bel Q12.out); have D12 := hid (Zab Q12.out D11.out); have Y12 := hid ((Q12.out.block _ (block_lt Y11.out)).trans Y11.out); have P12 := hid (P11.out.bel Q12.out); have Q12 := hid (Q11.out.bel Q12.out); clear H11 W11 R11 S11 L11 O11 U11 T11 V11 G11 B11 Z11 M11 N11 C11 E11 F11 I11 J11 D11 Y11 P11 Q11)
      | (with_reducible refine lDr B12.out (js.out _ _ _ _) hul ?_)
      | (with_reducible refine lDr C12.out (js.out _ _ _ _) hul ?_))
    refine (hYY.out La A3 c3 A5 c5 _ V12.out.row.any M12.out hla.out).mono ?_
    rintro e w13 ⟨rfl, hb⟩
    have H13 := hid (H12.out.bel hb (Vx4 hlow.out W12.out.size))
    have W13 := hid (W12.out.trans (hb.mono W12.out.size))
    have R13 := hid (R12.out.bel hb)
    have S13 := hid (S12.out.bel hb)
    have L13 := hid (Zab hb L12.out)
    have O13 := hid (Zab hb O12.out)
    have U13 := hid (U12.out.bel hb)
    have T13 := hid (Zab hb T12.out)
    have V13 := hid (V12.out.bel hb)
    have G13 := hid (G12.out.bel hb)
    have B13 := hid (Zab hb B12.out)
    have Z13 := hid ((hb.block _ (block_lt Z12.out)).trans Z12.out)
    have M13 := hid (M12.out.bel hb)
    have N13 := hid (N12.out.bel hb)
    have C13 := hid (Zab hb C12.out)
    have E13 := hid (E12.out.bel hb)
    have F13 := hid (F12.out.bel hb)
    have I13 := hid (I12.out.bel hb)
    have J13 := hid (J12.out.bel hb)
    have D13 := hid (Zab hb D12.out)
    have Y13 := hid ((hb.block _ (block_lt Y12.out)).trans Y12.out)
    have P13 := hid (P12.out.bel hb)
    have Q13 := hid (Q12.out.bel hb)
    have A13 := hid (Zab hb A12.out)
    clear H12 W12 R12 S12 L12 O12 U12 T12 V12 G12 B12 Z12 M12 N12 C12 E12 F12 I12 J12 D12 Y12 P12 Q12 A12
    clear hb M13 C13
    go_wp2_with fail
    refine (hTX.out O1 D3 e3 D5 e5 _ G13.out N13.out (by have := kg.out; unfold maxLen at this; omega)).mono ?_
    rintro e w14 ⟨rfl, hb⟩
    have H14 := hid (H13.out.bel hb (Vx4 hlow.out W13.out.size))
    have W14 := hid (W13.out.trans (hb.mono W13.out.size))
    have R14 := hid (R13.out.bel hb)
    have S14 := hid (S13.out.bel hb)
    have L14 := hid (Zab hb L13.out)
    have O14 := hid (Zab hb O13.out)
    have U14 := hid (U13.out.bel hb)
    have T14 := hid (Zab hb T13.out)
    have V14 := hid (V13.out.bel hb)
    have G14 := hid (G13.out.bel hb)
    have B14 := hid (Zab hb B13.out)
    have Z14 := hid ((hb.block _ (block_lt Z13.out)).trans Z13.out)
    have N14 := hid (N13.out.bel hb)
    have E14 := hid (E13.out.bel hb)
    have F14 := hid (F13.out.bel hb)
    have I14 := hid (I13.out.bel hb)
    have J14 := hid (J13.out.bel hb)
    have D14 := hid (Zab hb D13.out)
    have Y14 := hid ((hb.block _ (block_lt Y13.out)).trans Y13.out)
    have P14 := hid (P13.out.bel hb)
    have Q14 := hid (Q13.out.bel hb)
    have A14 := hid (Zab hb A13.out)
    clear H13 W13 R13 S13 L13 O13 U13 T13 V13 G13 B13 Z13 N13 E13 F13 I13 J13 D13 Y13 P13 Q13 A13
    clear hb G14 N14
    go_wp2_with fail
    refine (hTX.out Rs A7 c7 A8 c8 _ E14.out F14.out (by have := kr.out; unfold maxLen at this; omega)).mono ?_
    rintro e w15 ⟨rfl, hb⟩
    have H15 := hid (H14.out.bel hb (Vx4 hlow.out W14.out.size))
    have W15 := hid (W14.out.trans (hb.mono W14.out.size))
    have R15 := hid (R14.out.bel hb)
    have S15 := hid (S14.out.bel hb)
    have L15 := hid (Zab hb L14.out)
    have O15 := hid (Zab hb O14.out)
    have U15 := hid (U14.out.bel hb)
    have T15 := hid (Zab hb T14.out)
    have V15 := hid (V14.out.bel hb)
    have B15 := hid (Zab hb B14.out)
    have Z15 := hid ((hb.block _ (block_lt Z14.out)).trans Z14.out)
    have E15 := hid (E14.out.bel hb)
    have F15 := hid (F14.out.bel hb)
    have I15 := hid (I14.out.bel hb)
    have J15 := hid (J14.out.bel hb)
    have D15 := hid (Zab hb D14.out)
    have Y15 := hid ((hb.block _ (block_lt Y14.out)).trans Y14.out)
    have P15 := hid (P14.out.bel hb)
    have Q15 := hid (Q14.out.bel hb)
    have A15 := hid (Zab hb A14.out)
    clear H14 W14 R14 S14 L14 O14 U14 T14 V14 B14 Z14 E14 F14 I14 J14 D14 Y14 P14 Q14 A14
    clear hb E15 F15
    go_wp2_with fail
    refine rgB fun hHeld => ?_
    refine' tkM 0 rfl (fun _ h => Zab h D15.out) hul (js.out _ _ _ _) ?_
    refine' tkM 1 rfl (fun _ h => Zab h A15.out) hul (js.out _ _ _ _) ?_
    simp only [sQ]
    refine rdC 2 rfl (hYY.out Lp A9 c9 A11 c11 _ (I15.out.bel hHeld).row.any (P15.out.bel hHeld) hlp.out) fun v2 hB hHeld => ?_
    try simp only [sQ]
    refine' tkW 3 4 ?_
    refine' tkP 5 rfl ?_
    simp only [sQ]
    refine rdC 6 rfl (hTX.out Gp D9 e9 D11 e11 _ (J15.out.bel hHeld) (Q15.out.bel hHeld) (by have := kp.out; unfold maxLen at this; omega)) fun v6 hB hHeld => ?_
    try simp only [sQ]
    refine' tkW 7 8 ?_
    refine' tkW 9 10 ?_
    simp only [sQ]
    refine' tkW 11 12 ?_
    refine' tkP 13 rfl ?_
    refine' tkM 14 rfl (fun _ h => Zab h T15.out) hul (js.out _ _ _ _) ?_
    simp only [sQ]
    refine' tkM 16 rfl (fun _ h => Zab h L15.out) hul jl.out ?_
    simp only [sQ]
    refine rdC 15 rfl (hC1.out A1 c1 _ (U15.out.bel hHeld).row.any hle.out (H15.out.bel hHeld (Vx4 hlow.out W15.out.size))) fun v15 hB hHeld => ?_
    try simp only [sQ]
    refine rdC 17 rfl (hC2.out _ (R15.out.bel hHeld).any hle.out) fun w16 hB hHeld => ?_
    try simp only [sQ]
    refine' tkW 18 19 ?_
    refine' tkP 20 rfl ?_
    simp only [sQ]
    refine dnN ?_
    clear J15 P15 Q15 A15
    have H16 := hid (H15.out.bel hHeld (Vx4 hlow.out W15.out.size))
    have W16 := hid (W15.out.trans (hHeld.mono W15.out.size))
    have R16 := hid (R15.out.bel hHeld)
    have S16 := hid (S15.out.bel hHeld)
    have L16 := hid (Zab hHeld L15.out)
    have O16 := hid (Zab hHeld O15.out)
    have U16 := hid (U15.out.bel hHeld)
    have T16 := hid (Zab hHeld T15.out)
    have V16 := hid (V15.out.bel hHeld)
    have B16 := hid (Zab hHeld B15.out)
    have Z16 := hid ((hHeld.block _ (block_lt Z15.out)).trans Z15.out)
    have I16 := hid (I15.out.bel hHeld)
    have D16 := hid (Zab hHeld D15.out)
    have Y16 := hid ((hHeld.block _ (block_lt Y15.out)).trans Y15.out)
    clear H15 W15 R15 S15 L15 O15 U15 T15 V15 B15 Z15 I15 D15 Y15
    clear hHeld
    go_wp2_with fail
    refine rgB fun hHeld => ?_
    refine' tkM 0 rfl (fun _ h => Zab h T16.out) hul (js.out _ _ _ _) ?_
    refine' tkM 1 rfl (fun _ h => Zab h O16.out) hul jo.out ?_
    refine' tkM 3 rfl (fun _ h => Zab h L16.out) hul jl.out ?_
    refine' tkM 4 rfl (fun _ h => Zab h O16.out) hul jo.out ?_
    simp only [sQ]
    refine rdC 2 rfl (hY1.out A1 c1 _ (U16.out.bel hHeld).row.any (S16.out.bel hHeld).any hle.out hly.out) fun v2 hB hHeld => ?_
    try simp only [sQ]
    refine rdC 5 rfl (hY2.out _ (R16.out.bel hHeld).any (S16.out.bel hHeld).any hle.out hly.out) fun v5 hB hHeld => ?_
    try simp only [sQ]
    refine' tkL 6 ((.bool true)) rfl ?_ ?_
    · intro W hSw
      go_simp
    try simp only [sQ]
    refine' tkP 7 rfl ?_
    refine' tkM 8 rfl (fun _ h => Zab h T16.out) hul (js.out _ _ _ _) ?_
    refine' tkM 9 rfl (fun _ h => Zab h L16.out) hul jl.out ?_
    simp only [sQ]
    refine rdC 10 rfl (hY3.out A1 c1 _ (U16.out.bel hHeld).row.any (R16.out.bel hHeld).any hle.out) fun v10 hB hHeld => ?_
    try simp only [sQ]
    refine' tkW 11 12 ?_
    refine' tkM 13 rfl (fun _ h => Zab h T16.out) hul (js.out _ _ _ _) ?_
    refine' tkM 15 rfl (fun _ h => Zab h L16.out) hul jl.out ?_
    simp only [sQ]
    refine rdH 14 rfl fun K hK => ?_
    go_simp
    refine (hT2.out A1 c1 _ (U16.out.bel hHeld).row.any hle.out).mono ?_
    rintro e v14 ⟨A14, c14, rfl, o14, hB⟩
    go_wp2_with fail
    refine kB hK hHeld hB fun hHeld => ?_
    clear hK K
    try simp only [sQ]
    refine rdC 16 rfl (hY4.out A14 c14 _ (OwnR.row o14).any (R16.out.bel hHeld).any hle.out) fun w17 hB hHeld => ?_
    try simp only [sQ]
    refine' tkW 17 18 ?_
    simp only [sQ]
    refine dnN ?_
    clear O16 S16
    have H17 := hid (H16.out.bel hHeld (Vx4 hlow.out W16.out.size))
    have W17 := hid (W16.out.trans (hHeld.mono W16.out.size))
    have R17 := hid (R16.out.bel hHeld)
    have L17 := hid (Zab hHeld L16.out)
    have U17 := hid (U16.out.bel hHeld)
    have T17 := hid (Zab hHeld T16.out)
    have V17 := hid (V16.out.bel hHeld)
    have B17 := hid (Zab hHeld B16.out)
    have Z17 := hid ((hHeld.block _ (block_lt Z16.out)).trans Z16.out)
    have I17 := hid (I16.out.bel hHeld)
    have D17 := hid (Zab hHeld D16.out)
    have Y17 := hid ((hHeld.block _ (block_lt Y16.out)).trans Y16.out)
    clear H16 W16 R16 L16 U16 T16 V16 B16 Z16 I16 D16 Y16
    clear hHeld H17
    have ord : w.heap.size ≤ w1.heap.size ∧ w1.heap.size < w2.heap.size ∧ w2.heap.size ≤ w3.heap.size ∧ w3.heap.size < w8.heap.size := by
      have := m1.out; have := s2.out; have := m3.out; have := s4.out; have := m5.out; have := s6.out; have := m7.out; have := m8.out; omega
    replace ord := hid ord
    clear m1 s2 m3 s4 m5 s6 m7 m8
    have hbs : Soft w17 w9.heap.size := ⟨_, _, Y17.out⟩
    have y0 := hbx.out _ _ _ _ _ _ D17.out
    have hl9 := hlp.out
    go_wp2
    go_loopw [29] (fun i wr => ∃ k : Nat, k ≤ Lp.xs.length ∧ i = .int .i64 k ∧ MutI (fun b => w8.heap.size ≤ b ∧ b < w9.heap.size) w17 wr) (fun i _ => Lp.xs.length - (intOf i).toNat)
    case atStart => exact ⟨0, Nat.zero_le _, rfl, MutI.refl _ _⟩
    case round =>
      obtain ⟨k, hk, rfl, hm⟩ := hrel
      have y1 := hm.same hbs y0 (Zcd _ _ _)
      by_cases hlt : k < Lp.xs.length
      · obtain ⟨b, o, hA, hFb, hsb, hn0⟩ := held_numQ I17.out hlt
        subst hA
        have hlt2 : (k : Int) < (Lp.xs.length : Int) := by omega
        obtain ⟨n, hn⟩ := hm.num hsb hn0
        have hf := (hsb.mutI hm).free (o + k * 99 + 64)
        have Hn := hid hn
        have Hm := hid hm
        have HF := hid hFb
        clear hm hFb hsb y0 hn0 hbs
        go_wp2
        go_roundw
        case rel => exact ⟨k + 1, by omega, by go_num, Hm.out.store HF.out Hn.out _⟩
        case measure => simp [intOf]; omega
      · obtain rfl : k = Lp.xs.length := by omega
        have hlt2 : ¬ (Lp.xs.length : Int) < (Lp.xs.length : Int) := by omega
        have hC := hm.chg
        have od := ord.out
        have W18 := hid (W17.out.trans (hC.below W17.out.size (fun b hb e => by omega)))
        have R18 := hid (Row.chgLow R17.out hC (by omega))
        have L18 := hid (Zak L17.out (fun hb => hC.block _ hb (fun e => by omega)))
        have U18 := hid (U17.out.chg hC (by omega))
        have T18 := hid (Zak T17.out (fun hb => hC.block _ hb (fun e => by omega)))
        have V18 := hid (V17.out.chg hC (by omega))
        have B18 := hid (Zak B17.out (fun hb => hC.block _ hb (fun e => by omega)))
        have Z18 := hid ((hC.block _ (block_lt Z17.out) (fun e => by omega)).trans Z17.out)
        clear W17 R17 L17 U17 T17 V17 B17 Z17 I17 D17 Y17 hC od hbs y0 hm
        generalize hwr : wr = w18 at *
        replace hwr := hid hwr
        have hbs : Soft w18 w3.heap.size := ⟨_, _, Z18.out⟩
        have y0 := hbx.out _ _ _ _ _ _ B18.out
        have hl9 := hla.out
        go_wp2
        go_loopw [30] (fun i wr => ∃ k : Nat, k ≤ La.xs.length ∧ i = .int .i64 k ∧ MutI (fun b => w2.heap.size ≤ b ∧ b < w3.heap.size) w18 wr) (fun i _ => La.xs.length - (intOf i).toNat)
        case atStart => exact ⟨0, Nat.zero_le _, rfl, MutI.refl _ _⟩
        case round =>
          obtain ⟨k, hk, rfl, hm⟩ := hrel
          have y1 := hm.same hbs y0 (Zcd _ _ _)
          by_cases hlt : k < La.xs.length
          · obtain ⟨b, o, hA, hFb, hsb, hn0⟩ := held_numQ V18.out hlt
            subst hA
            have hlt2 : (k : Int) < (La.xs.length : Int) := by omega
            obtain ⟨n, hn⟩ := hm.num hsb hn0
            have hf := (hsb.mutI hm).free (o + k * 99 + 64)
            have Hn := hid hn
            have Hm := hid hm
            have HF := hid hFb
            clear hm hFb hsb y0 hn0 hbs
            go_wp2
            go_roundw
            case rel => exact ⟨k + 1, by omega, by go_num, Hm.out.store HF.out Hn.out _⟩
            case measure => simp [intOf]; omega
          · obtain rfl : k = La.xs.length := by omega
            have hlt2 : ¬ (La.xs.length : Int) < (La.xs.length : Int) := by omega
            have hC := hm.chg
            have od := ord.out
            have W19 := hid (W18.out.trans (hC.below W18.out.size (fun b hb e => by omega)))
            have R19 := hid (Row.chgLow R18.out hC (by omega))
            have L19 := hid (Zak L18.out (fun hb => hC.block _ hb (fun e => by omega)))
            have U19 := hid (U18.out.chg hC (by omega))
            have T19 := hid (Zak T18.out (fun hb => hC.block _ hb (fun e => by omega)))
            clear W18 R18 L18 U18 T18 V18 B18 Z18 hC od hbs y0 hm
            generalize hwr : wr = w19 at *
            replace hwr := hid hwr
            go_wp2_with (first
              | (with_reducible refine lDr T19.out (js.out _ _ _ _) hul ?_)
              | (with_reducible refine lDr L19.out jl.out hul ?_))
            refine (hY4.out A1 c1 _ U19.out.row.any R19.out.any hle.out).mono ?_
            rintro e w20 ⟨rfl, hb⟩
            have W20 := hid (W19.out.trans (hb.mono W19.out.size))
            clear hb
            go_wp2
            go_ret
            exact ⟨rfl, W20.out⟩
end Go.Proofs.YtimaoonpgilekaaDoor.queueDoes
