/-
  The walk of QueueBest.
-/
import Derived.Test.YtimaoonpgilekaaDoorDoor
import Derived.ProofKit
import Derived.ShutString
import Derived.ChangeOld
import Derived.Below
import Derived.Test.YtimaoonpgilekaaDoorQuW
namespace Go.Proofs.YtimaoonpgilekaaDoor.queueBest
open Go.ChangeShapes Go.WideShapes Go.ChangeAt Go.RowKit
open Go.ChangeMaps (open_string shut_string)
set_option linter.unusedVariables false

theorem own : ownKnob Tryd.prog.godebug = none := by kernel_rfl
theorem laidOut : laidOutB Tryd.prog = true := by kernel_rfl

/-- WHAT THE WALK IS TOLD OF A SLICE OF INTEGERS THAT CAME IN: it is nil; or it leads to a row of 'cap' cells, the numbers 'zs' (the first 'len' are its elements, the rest its spare room), each fitting its kind. -/
def IsRow (k : IntKind) (w : World) (a : Option Addr) (len cap : Nat) (zs : List Int) : Prop :=
  (a = none ∧ len = 0 ∧ cap = 0 ∧ zs = []) ∨
  ∃ x, a = some x ∧ len ≤ cap ∧ cap ≤ maxLen ∧ zs.length = cap ∧ (∀ i, i < zs.length → w.cell? (x.add i) = some (.int k (zs.getD i 0))) ∧ ∀ n ∈ zs, (Lit.int k n).wf = true

/-! ### the walk -/
open Go.Proofs.YtimaoonpgilekaaDoor
theorem Yqr (w : World) (l m q : List Value) (t u v : TypeId) :
    (((w.alloc (.cells l.toArray t)).alloc (.cells m.toArray u)).alloc (.cells q.toArray v)).rangeAt w.heap.size 0 l ∧
    (((w.alloc (.cells l.toArray t)).alloc (.cells m.toArray u)).alloc (.cells q.toArray v)).rangeAt (w.heap.size + 1) 0 m ∧
    (((w.alloc (.cells l.toArray t)).alloc (.cells m.toArray u)).alloc (.cells q.toArray v)).rangeAt (w.heap.size + 1 + 1) 0 q ∧
    Below w.heap.size w (((w.alloc (.cells l.toArray t)).alloc (.cells m.toArray u)).alloc (.cells q.toArray v)) := by
  have h1 := Zae (Vx0 w (.cells l.toArray t))
  have h2 := Zae (Vx0 (w.alloc (.cells l.toArray t)) (.cells m.toArray u))
  have h3 := Zae (Vx0 ((w.alloc (.cells l.toArray t)).alloc (.cells m.toArray u)) (.cells q.toArray v))
  simp only [Vx2] at h2 h3
  exact ⟨Zab (Zad _ _) (Zab (Zad _ _) h1), Zab (Zad _ _) h2, h3, Zag (Zag (Zad _ _) (Zad _ _)) (Zad _ _)⟩
theorem Yp5 (l : Ln) (x : Tx) : (pqL l x).xs.length ≤ l.xs.length + 1 := by
  by_cases h : pqE l x = 0
  · rw [(Yn0 h).1]
    show (withL l.xs x).length ≤ _
    rw [Yot (Yn2 (Yn6 h).1).2.1]
    split <;> omega
  · rw [(YoI h).1]; exact Nat.zero_le _
theorem YqJ {l : Ln} {x : Tx} (h : pqE l x = 0) : (pqL l x).d = l.d := by rw [(Yn0 h).1]
theorem Yqa {l : Ln} {x y : Tx} (h : pqE l x = 0) (hn : x.n = y.n) (hf : pqE (pqL l x) y ≠ 2) (hl : ¬ y.f ≤ x.f) (i : Nat) (hi : i < l.xs.length) :
    hitX (pqL (pqL l x) y).xs l.xs[i].n = some (if l.xs[i].n = x.n then y else l.xs[i]) := by
  obtain ⟨-, -, h3, -, h5⟩ := YoE h hn hf hl
  by_cases hq : l.xs[i].n = x.n
  · rw [if_pos hq, hq, h3]
  · rw [if_neg hq, h5 _ hq, Yoe (Yn2 (Yn6 h).1).2.1 (List.getElem_mem hi)]
set_option linter.unusedSimpArgs false
set_option maxRecDepth 100000 in
set_option maxHeartbeats 32000000 in
theorem walk (x0 : Ln) (vs0 : List Value) (x1 : Tx) (vs1 : List Value) (x2 : Tx) (vs2 : List Value) (w : World) (w0 : Enc.rep (fun b => b < w.heap.size) w x0 vs0) (w1 : Enc.rep (fun b => b < w.heap.size) w x1 vs1) (w2 : Enc.rep (fun b => b < w.heap.size) w x2 vs2) (hT : Tab w) :
    Calls Tryd.prog 5 #[.agg vs0.toArray, .agg vs1.toArray, .agg vs2.toArray] w fun e w' => e = .returned (.bool true) ∧ Below w.heap.size w w' := by
  obtain ⟨A0, c0, rfl, hcc, hcm, hr⟩ := Yo2 w0
  obtain ⟨d, xs⟩ := x0
  obtain ⟨rfl, hx⟩ := ZlF w1
  obtain ⟨rfl, hy⟩ := ZlF w2
  generalize x1 = x at *
  generalize x2 = y at *
  dsimp only at hcc hr ⊢
  have hul := Tryd.underlying26
  have hux := Tryd.underlying33
  have hu := Tryd.underlying23
  have hlow := hid hT.low
  obtain ⟨z1, z2, z3, W0⟩ := Yqr w (lnC d A0 xs.length c0) (txC x) (txC y) 26 33 33
  have L0 := hid z1
  have X0 := hid z2
  have Y0 := hid z3
  have R0 := hid (hr.any.bel W0)
  replace W0 := hid W0
  have H0 := hid (hT.bel W0.out hlow.out)
  clear z1 z2 z3 hr hT w0 w1 w2
  have hAl := hid (fun W hW => Ypo W hW)
  obtain ⟨E1, hE1⟩ : ∃ e, pqE ⟨d, xs⟩ x = e := ⟨_, rfl⟩
  obtain ⟨La, hL1⟩ : ∃ l, pqL ⟨d, xs⟩ x = l := ⟨_, rfl⟩
  obtain ⟨O1, hO1⟩ : ∃ o, pqO ⟨d, xs⟩ x = o := ⟨_, rfl⟩
  obtain ⟨E2, hE2⟩ : ∃ e, pqE La y = e := ⟨_, rfl⟩
  obtain ⟨Lb, hL2⟩ : ∃ l, pqL La y = l := ⟨_, rfl⟩
  obtain ⟨O2, hO2⟩ : ∃ o, pqO La y = o := ⟨_, rfl⟩
  have hn1 : La.xs.length ≤ xs.length + 1 := by rw [← hL1]; exact Yp5 _ _
  have hn2 : Lb.xs.length ≤ La.xs.length + 1 := by rw [← hL2]; exact Yp5 _ _
  have hP1 := hid (fun W (h : Row (fun _ => True) W A0 xs) (hs : xs.length ≤ 12) hW => show Calls Tryd.prog 7 #[.agg (lnC d A0 xs.length c0).toArray, .agg (txC x).toArray] W (LnQ W La O1 E1) by
    have := Ype (fun _ => True) d A0 c0 xs x W h hx (by omega) hcc hcm hW
    rw [hE1, hL1, hO1] at this
    exact this)
  have hP2 := hid (fun A c W (h : Row (fun _ => True) W A La.xs) (hs : La.xs.length ≤ 1000) (h1 : La.xs.length ≤ c ∧ c ≤ maxLen) hW => show Calls Tryd.prog 7 #[.agg (lnC La.d A La.xs.length c).toArray, .agg (txC y).toArray] W (LnQ W Lb O2 E2) by
    have := Ype (fun _ => True) La.d A c La.xs y W h hy (by omega) h1.1 h1.2 hW
    rw [show pqE ⟨La.d, La.xs⟩ y = E2 from hE2, show pqL ⟨La.d, La.xs⟩ y = Lb from hL2, show pqO ⟨La.d, La.xs⟩ y = O2 from hO2] at this
    exact this)
  have F0 := hid (fun h : E1 ≠ 0 => show La.xs = [] by rw [← hL1, (YoI (by rw [hE1]; exact h)).1]; rfl)
  have F2 := hid (fun (h : E1 = 0) (hn : x.n = y.n) (h2 : E2 = 2) => show ownX y d = false from YoM (l := ⟨d, xs⟩) (hE1.trans h) hn (by rw [hL1, hE2]; exact h2))
  have F3 := hid (fun (h : E1 = 0) (hn : x.n = y.n) (h2 : E2 ≠ 2) (hl : y.f ≤ x.f) => show E2 = 190 ∧ O2 = [] ∧ hitX La.xs x.n = some x by
    have := YoD (l := ⟨d, xs⟩) (hE1.trans h) hn (by rw [hL1, hE2]; exact h2) hl
    rw [hL1, hE2, hO2] at this; exact this)
  have F4 := hid (fun (h : E1 = 0) (hn : x.n = y.n) (h2 : E2 ≠ 2) (hl : ¬ y.f ≤ x.f) => show E2 = 0 ∧ O2 = [x] ∧ hitX Lb.xs x.n = some y ∧ mayL Lb = true by
    have := YoE (l := ⟨d, xs⟩) (hE1.trans h) hn (by rw [hL1, hE2]; exact h2) hl
    rw [hL1, hE2, hO2, hL2] at this; exact ⟨this.1, this.2.1, this.2.2.1, this.2.2.2.1⟩)
  have F5 := hid (fun (h : E1 = 0) (hn : x.n = y.n) (h2 : E2 ≠ 2) (hl : ¬ y.f ≤ x.f) i (hi : i < xs.length) => show hitX Lb.xs xs[i].n = some (if xs[i].n = x.n then y else xs[i]) by
    have := Yqa (l := ⟨d, xs⟩) (hE1.trans h) hn (by rw [hL1, hE2]; exact h2) hl i hi
    rw [hL1, hL2] at this; exact this)
  clear hE1 hL1 hO1 hE2 hL2 hO2
  have hFa := hid (fun n A c W (h : Row (fun _ => True) W A La.xs) (hs : La.xs.length ≤ 1000) => Yps (fun _ => True) La.d A c n La.xs W h (by omega))
  have hFb := hid (fun n A c W (h : Row (fun _ => True) W A Lb.xs) (hs : Lb.xs.length ≤ 1000) => Yps (fun _ => True) Lb.d A c n Lb.xs W h (by omega))
  have hCk := hid (fun (hm : mayL Lb = true) A c W (h : Row (fun _ => True) W A Lb.xs) (hs : Lb.xs.length ≤ 1000) hW => show Calls Tryd.prog 14 #[.agg (lnC Lb.d A Lb.xs.length c).toArray] W fun e w' => e = .returned (.int .i64 0) ∧ Below W.heap.size W w' by
    have := Ypb (fun _ => True) Lb.d A c Lb.xs W h (by omega) hW
    rw [(Yph (n := 0) (l := ⟨Lb.d, Lb.xs⟩) hm).2.2] at this
    exact this)
  have jl := hid (YoL d A0 xs.length c0)
  have js := hid (fun d A n c => YoL d A n c)
  have zs := hid (fun d A n c => YoY d A n c)
  have os := hid (fun d A n c => YoZ d A n c)
  have hbx := hid (fun (W : World) (g : Nat) (d : Dg) (A : Option Addr) (n c : Nat) (h : W.rangeAt g 0 (lnC d A n c)) => (BoxL.of h).x)
  have hx0 := hid (fun (W : World) (h : W.rangeAt w.heap.size 0 (lnC d A0 xs.length c0)) => (BoxL.of h).x)
  have hd0 := hid (fun (W : World) (h : W.rangeAt w.heap.size 0 (lnC d A0 xs.length c0)) => (BoxL.of h).d)
  have hxx := hid (fun (W : World) (h : W.rangeAt (w.heap.size + 1) 0 (txC x)) => (⟨(BoxX.of h).n, (BoxX.of h).f⟩ : W.cell? ⟨w.heap.size + 1, 64, none⟩ = some (.int .u64 (x.n : Int)) ∧ W.cell? ⟨w.heap.size + 1, 66, none⟩ = some (.int .u64 (x.f : Int))))
  have hyy := hid (fun (W : World) (h : W.rangeAt (w.heap.size + 1 + 1) 0 (txC y)) => (⟨(BoxX.of h).n, (BoxX.of h).f⟩ : W.cell? ⟨w.heap.size + 1 + 1, 64, none⟩ = some (.int .u64 (y.n : Int)) ∧ W.cell? ⟨w.heap.size + 1 + 1, 66, none⟩ = some (.int .u64 (y.f : Int))))
  have jx := hid (Zby x)
  have ax := hid (Zb2 x)
  have zx := hid (ZcS x)
  have nx := hid (Zdw x)
  have jy := hid (Zby y)
  have ay := hid (Zb2 y)
  have zy := hid (ZcS y)
  have ny := hid (Zdw y)
  have jd := hid (ZaF d)
  have hEx : ∀ W, (Op.equalIn 10000 33 (.agg (txC x).toArray) (.agg (txC x).toArray)).run Tryd.prog W = .ok true W := fun W => Zfm x x hx hx true (Vy2 rfl) W
  have hEy : ∀ W, (Op.equalIn 10000 33 (.agg (txC y).toArray) (.agg (txC y).toArray)).run Tryd.prog W = .ok true W := fun W => Zfm y y hy hy true (Vy2 rfl) W
  obtain ⟨b1, hb1⟩ : ∃ b, decide (y = signX y) = b := ⟨_, rfl⟩
  obtain ⟨b2, hb2⟩ : ∃ b, decide (fromX y = d) = b := ⟨_, rfl⟩
  have hCy := hid (fun W hW => Zds y hy b1 hb1 W hW)
  have hFy := hid (fun W hW => Zg2 y hy W hW)
  have hEd : ∀ W, (Op.equalIn 10000 23 (.agg ((fromX y).1.map bv).toArray) (.agg (d.1.map bv).toArray)).run Tryd.prog W = .ok b2 W := fun W => ZaL (fromX y) d b2 hb2 W
  have how : ownX y d = (b1 && b2) := by unfold ownX; rw [hb1, hb2]
  rw [how] at F2
  have hEz := hid (fun (z : Tx) (hz : z.ok) W => Zfm z z hz hz true (Vy2 rfl) W)
  have hSx := hid (fun A D c d W h1 h2 => Ypd [x] 1 rfl (by decide) A D c d W h1 h2)
  have hvx : [Value.agg (txC x).toArray] = [x].map fun x => Value.agg (txC x).toArray := rfl
  have hnx : Hid ([x].length = 1) := hid rfl
  have hox : Hid (∀ z ∈ [x], z.ok) := hid (by intro z hz; rw [Vy4] at hz; subst hz; exact hx)
  have hvS : Hid (hitV (some x) = .returned (.tuple #[.agg (txC x).toArray, .bool true])) := hid rfl
  have hvY : Hid (hitV (some y) = .returned (.tuple #[.agg (txC y).toArray, .bool true])) := hid rfl
  have hxk := hid hx
  have hyk := hid hy
  replace hvx := hid hvx
  replace hcc := hid hcc
  replace hcm := hid hcm
  have c0x := hid ((hxx.out _ X0.out).1)
  have c0y := hid ((hyy.out _ Y0.out).1)
  clear how hb1 hb2 hx hy
  obtain ⟨cl, hcl⟩ : ∃ l, lnC d A0 xs.length c0 = l := ⟨_, rfl⟩
  rw [hcl] at L0 X0 Y0 R0 W0 H0 hP1 jl hx0 hd0 c0x c0y ⊢
  replace hcl := hid hcl
  generalize hcx : txC x = cx at *
  generalize hcy : txC y = cy at *
  generalize (fromX y).1.map bv = cf at *
  generalize d.1.map bv = cd at *
  replace hcx := hid hcx
  replace hcy := hid hcy
  clear c0x c0y
  go_enter Tryd.func5, Tryd.ntmps5
  go_wp2_with fail
  generalize ((w.alloc (.cells cl.toArray 26)).alloc (.cells cx.toArray 33)).alloc (.cells cy.toArray 33) = w0 at *
  refine (hAl.out _ H0.out).mono ?_
  rintro e w1 ⟨rfl, hb⟩
  have H1 := hid (H0.out.bel hb (Vx4 hlow.out W0.out.size))
  have W1 := hid (W0.out.trans (hb.mono W0.out.size))
  have R1 := hid (R0.out.bel hb)
  have L1 := hid (Zab hb L0.out)
  have X1 := hid (Zab hb X0.out)
  have Y1 := hid (Zab hb Y0.out)
  clear H0 W0 R0 L0 X0 Y0
  clear hb 
  have cx1 := hx0.out _ L1.out
  have xn1 := (hxx.out _ X1.out).1
  have yn1 := (hyy.out _ Y1.out).1
  by_cases hlong : 12 < xs.length
  · have hlg : (12 : Int) < (xs.length : Int) := by omega
    go_wp2
    go_ret
    exact ⟨rfl, W1.out⟩
  have hlg : decide ((12 : Int) < (xs.length : Int)) = false := Vy1 (by omega)
  by_cases hnn : x.n = y.n
  rotate_left
  · have hne : ((x.n : Int) != (y.n : Int)) = true := bne_iff_ne.2 (by omega)
    go_wp2
    go_ret
    exact ⟨rfl, W1.out⟩
  have hle := hid (show xs.length ≤ 12 by omega)
  have hl1 := hid (show La.xs.length ≤ 1000 by omega)
  have hl2 := hid (show Lb.xs.length ≤ 1000 by omega)
  have hne : ((x.n : Int) != (y.n : Int)) = false := by rw [hnn]; simp
  replace hnn := hid hnn
  clear hlong hn1 hn2
  go_wp2_with (first
    | (with_reducible refine lDr L1.out jl.out hul ?_)
    | (with_reducible refine lDr X1.out jx.out hux ?_))
  refine (hP1.out _ R1.out hle.out H1.out).mono ?_
  rintro e w2 ⟨A2, c2, D2, e2, rfl, o2, p2, hb⟩
  clear cx1 xn1 yn1 hne
  have H2 := hid (H1.out.bel hb (Vx4 hlow.out W1.out.size))
  have W2 := hid (W1.out.trans (hb.mono W1.out.size))
  have R2 := hid (R1.out.bel hb)
  have L2 := hid (Zab hb L1.out)
  have X2 := hid (Zab hb X1.out)
  have Y2 := hid (Zab hb Y1.out)
  clear H1 W1 R1 L1 X1 Y1
  have U2 := hid (OwnR.row o2).any
  have k2 := hid o2.cap
  clear o2 p2 hb hP1
  have e2z := hid (Vx0 w2 (.cells zLnC 26))
  go_wp2_with (first
    | (with_reducible refine Zac rfl 26 rfl zLnC YoX ?_)
    | ((with_reducible refine stW 8 42 w2.heap.size 26 zLnC ?_ ?_ ?_ ?_ ?_); exact e2z.out; exact js.out _ _ _ _; exact zs.out _ _ _ _; exact os.out _ _ _ _; intro w3 hgS hbS hsS; have Q3 := hid (Zan rfl hbS); have B3 := hid (Zae hgS); clear hgS hbS hsS; have H3 := hid (H2.out.bel Q3.out (Vx4 hlow.out W2.out.size)); have W3 := hid (W2.out.trans (Q3.out.mono W2.out.size)); have R3 := hid (R2.out.bel Q3.out); have L3 := hid (Zab Q3.out L2.out); have X3 := hid (Zab Q3.out X2.out); have Y3 := hid (Zab Q3.out Y2.out); have U3 := hid (U2.out.bel Q3.out); clear H2 W2 R2 L2 X2 Y2 U2)
    | (with_reducible refine lDr B3.out (js.out _ _ _ _) hul ?_)
    | (with_reducible refine lDr Y3.out jy.out hux ?_))
  refine (hP2.out A2 c2 _ U3.out hl1.out k2.out H3.out).mono ?_
  rintro e w4 ⟨A4, c4, D4, e4, rfl, o4, p4, hb⟩
  have H4 := hid (H3.out.bel hb (Vx4 hlow.out W3.out.size))
  have W4 := hid (W3.out.trans (hb.mono W3.out.size))
  have R4 := hid (R3.out.bel hb)
  have L4 := hid (Zab hb L3.out)
  have X4 := hid (Zab hb X3.out)
  have Y4 := hid (Zab hb Y3.out)
  have U4 := hid (U3.out.bel hb)
  have B4 := hid (Zab hb B3.out)
  clear H3 W3 R3 L3 X3 Y3 U3 B3
  have V4 := hid (OwnR.row o4).any
  have G4 := hid (OwnR.row p4).any
  clear o4 p4 hb hP2
  by_cases hE1 : E1 = 0
  rotate_left
  · have hq : (E1 != 0) = true := bne_iff_ne.2 hE1
    have hl0 : La.xs.length = 0 := by rw [F0.out hE1]; rfl
    have hlq : ((La.xs.length : Int) == 0) = true := by rw [hl0]; rfl
    clear hl0
    have e4z := hid (Vx0 w4 (.cells zLnC 26))
    go_wp2_with (first
      | (with_reducible refine Zac rfl 26 rfl zLnC YoX ?_)
      | ((with_reducible refine stW 11 49 w4.heap.size 26 zLnC ?_ ?_ ?_ ?_ ?_); exact e4z.out; exact js.out _ _ _ _; exact zs.out _ _ _ _; exact os.out _ _ _ _; intro w5 hgS hbS hsS; have Q5 := hid (Zan rfl hbS); have C5 := hid (Zae hgS); clear hgS hbS hsS; have H5 := hid (H4.out.bel Q5.out (Vx4 hlow.out W4.out.size)); have W5 := hid (W4.out.trans (Q5.out.mono W4.out.size)); have R5 := hid (R4.out.bel Q5.out); have L5 := hid (Zab Q5.out L4.out); have X5 := hid (Zab Q5.out X4.out); have Y5 := hid (Zab Q5.out Y4.out); have U5 := hid (U4.out.bel Q5.out); have B5 := hid (Zab Q5.out B4.out); have V5 := hid (V4.out.bel Q5.out); have G5 := hid (G4.out.bel Q5.out); clear H4 W4 R4 L4 X4 Y4 U4 B4 V4 G4; have cb5 := hbx.out _ _ _ _ _ _ B5.out; have xn5 := (hxx.out _ X5.out).1))
    go_ret
    exact ⟨rfl, W5.out⟩
  by_cases hE2 : E2 = 2
  · have hwn := F2.out hE1 hnn.out hE2
    have hb2 : b1 = true → b2 = false := fun h => by rw [h] at hwn; simpa using hwn
    subst hE1 hE2
    clear hwn F0 F2 F3 F4 F5
    have e4z := hid (Vx0 w4 (.cells zLnC 26))
    go_wp2_with (first
      | (with_reducible refine Zac rfl 26 rfl zLnC YoX ?_)
      | ((with_reducible refine stW 11 49 w4.heap.size 26 zLnC ?_ ?_ ?_ ?_ ?_); exact e4z.out; exact js.out _ _ _ _; exact zs.out _ _ _ _; exact os.out _ _ _ _; intro w5 hgS hbS hsS; have Q5 := hid (Zan rfl hbS); have C5 := hid (Zae hgS); clear hgS hbS hsS; have H5 := hid (H4.out.bel Q5.out (Vx4 hlow.out W4.out.size)); have W5 := hid (W4.out.trans (Q5.out.mono W4.out.size)); have R5 := hid (R4.out.bel Q5.out); have L5 := hid (Zab Q5.out L4.out); have X5 := hid (Zab Q5.out X4.out); have Y5 := hid (Zab Q5.out Y4.out); have U5 := hid (U4.out.bel Q5.out); have B5 := hid (Zab Q5.out B4.out); have V5 := hid (V4.out.bel Q5.out); have G5 := hid (G4.out.bel Q5.out); clear H4 W4 R4 L4 X4 Y4 U4 B4 V4 G4; have cb5 := hbx.out _ _ _ _ _ _ B5.out; have xn5 := (hxx.out _ X5.out).1))
    cases b1
    · refine rgB fun hHeld => ?_
      refine' tkW 0 1 ?_
      refine' tkM 2 rfl (fun _ h => Zab h Y5.out) hux jy.out ?_
      simp only [sQ]
      refine rdC 3 rfl (hCy.out _ (H5.out.bel hHeld (Vx4 hlow.out W5.out.size))) fun v3 hB hHeld => ?_
      try simp only [sQ]
      refine' tkW 4 5 ?_
      refine' tkW 6 7 ?_
      simp only [sQ]
      refine' tkW 8 9 ?_
      refine' tkW 10 11 ?_
      simp only [sQ]
      refine' tkW 12 13 ?_
      simp only [sQ]
      refine dnN ?_
      go_wp2
      go_ret
      exact ⟨rfl, W5.out.trans (hHeld.mono W5.out.size)⟩
    · have hb := hb2 rfl
      subst hb
      refine rgB fun hHeld => ?_
      refine' tkW 0 1 ?_
      refine' tkM 2 rfl (fun _ h => Zab h Y5.out) hux jy.out ?_
      simp only [sQ]
      refine rdC 3 rfl (hCy.out _ (H5.out.bel hHeld (Vx4 hlow.out W5.out.size))) fun v3 hB hHeld => ?_
      try simp only [sQ]
      refine' tkW 4 5 ?_
      refine' tkM 6 rfl (fun _ h => Zab h Y5.out) hux jy.out ?_
      refine' tkP 8 rfl ?_
      simp only [sQ]
      refine' tkM 9 rfl (fun _ h => Zab h (hd0.out _ L5.out)) hu jd.out ?_
      simp only [sQ]
      refine rdC 7 rfl (hFy.out _ (H5.out.bel hHeld (Vx4 hlow.out W5.out.size))) fun v7 hB hHeld => ?_
      try simp only [sQ]
      refine' tkW 10 11 ?_
      refine' tkW 12 13 ?_
      simp only [sQ]
      refine dnN ?_
      go_wp2
      go_ret
      exact ⟨rfl, W5.out.trans (hHeld.mono W5.out.size)⟩
  clear hCy hFy hEd F0 F2
  have hq2 : (E2 == 2) = false := beq_eq_false_iff_ne.2 hE2
  by_cases hl : y.f ≤ x.f
  · obtain ⟨q1, q2, q3⟩ := F3.out hE1 hnn.out hE2 hl
    have hfl : (y.f : Int) ≤ (x.f : Int) := by omega
    subst hE1 q1 q2
    have hFx := hid (fun W h => hFa.out x.n A2 c2 W h hl1.out)
    rw [q3] at hFx
    have hFy2 := hid (fun W h => hFb.out x.n A4 c4 W h hl2.out)
    rw [hvS.out] at hFx
    obtain ⟨oo, hoo⟩ : ∃ o, hitX Lb.xs x.n = o := ⟨_, rfl⟩
    rw [hoo] at hFy2
    unfold hitV at hFy2
    have jo := hid (Zby (oo.getD zX))
    have ao := hid (Zb2 (oo.getD zX))
    have zo := hid (ZcS (oo.getD zX))
    have no := hid (Zdw (oo.getD zX))
    generalize txC (oo.getD zX) = co at *
    generalize oo.isSome = bo at *
    clear hoo q3 F3 F4 F5 hl hE2
    have e4z := hid (Vx0 w4 (.cells zLnC 26))
    go_wp2_with (first
      | (with_reducible refine Zac rfl 26 rfl zLnC YoX ?_)
      | ((with_reducible refine stW 11 49 w4.heap.size 26 zLnC ?_ ?_ ?_ ?_ ?_); exact e4z.out; exact js.out _ _ _ _; exact zs.out _ _ _ _; exact os.out _ _ _ _; intro w5 hgS hbS hsS; have Q5 := hid (Zan rfl hbS); have C5 := hid (Zae hgS); clear hgS hbS hsS; have H5 := hid (H4.out.bel Q5.out (Vx4 hlow.out W4.out.size)); have W5 := hid (W4.out.trans (Q5.out.mono W4.out.size)); have R5 := hid (R4.out.bel Q5.out); have L5 := hid (Zab Q5.out L4.out); have X5 := hid (Zab Q5.out X4.out); have Y5 := hid (Zab Q5.out Y4.out); have U5 := hid (U4.out.bel Q5.out); have B5 := hid (Zab Q5.out B4.out); have V5 := hid (V4.out.bel Q5.out); have G5 := hid (G4.out.bel Q5.out); clear H4 W4 R4 L4 X4 Y4 U4 B4 V4 G4; have cb5 := hbx.out _ _ _ _ _ _ B5.out; have xn5 := (hxx.out _ X5.out).1)
      | (with_reducible refine lDr C5.out (js.out _ _ _ _) hul ?_))
    refine (hFy2.out _ V5.out).mono ?_
    rintro e w6 ⟨rfl, hb⟩
    have H6 := hid (H5.out.bel hb (Vx4 hlow.out W5.out.size))
    have W6 := hid (W5.out.trans (hb.mono W5.out.size))
    have R6 := hid (R5.out.bel hb)
    have L6 := hid (Zab hb L5.out)
    have X6 := hid (Zab hb X5.out)
    have Y6 := hid (Zab hb Y5.out)
    have U6 := hid (U5.out.bel hb)
    have B6 := hid (Zab hb B5.out)
    have V6 := hid (V5.out.bel hb)
    have G6 := hid (G5.out.bel hb)
    have C6 := hid (Zab hb C5.out)
    clear H5 W5 R5 L5 X5 Y5 U5 B5 V5 G5 C5
    clear hb 
    have e6z := hid (Vx0 w6 (.cells zTxC 33))
    go_wp2_with (first
      | (with_reducible refine Zac rfl 33 rfl zTxC Zbv ?_)
      | ((with_reducible refine stW 14 81 w6.heap.size 33 zTxC ?_ ?_ ?_ ?_ ?_); exact e6z.out; exact ao.out; exact zo.out; exact no.out; intro w7 hgS hbS hsS; have Q7 := hid (Zan rfl hbS); clear hgS hbS hsS; have H7 := hid (H6.out.bel Q7.out (Vx4 hlow.out W6.out.size)); have W7 := hid (W6.out.trans (Q7.out.mono W6.out.size)); have R7 := hid (R6.out.bel Q7.out); have L7 := hid (Zab Q7.out L6.out); have X7 := hid (Zab Q7.out X6.out); have Y7 := hid (Zab Q7.out Y6.out); have U7 := hid (U6.out.bel Q7.out); have B7 := hid (Zab Q7.out B6.out); have V7 := hid (V6.out.bel Q7.out); have G7 := hid (G6.out.bel Q7.out); have C7 := hid (Zab Q7.out C6.out); clear H6 W6 R6 L6 X6 Y6 U6 B6 V6 G6 C6; have xf7 := (hxx.out _ X7.out).2; have yf7 := (hyy.out _ Y7.out).2; have xn7 := (hxx.out _ X7.out).1)
      | (with_reducible refine lDr B7.out (js.out _ _ _ _) hul ?_))
    refine (hFx.out _ U7.out).mono ?_
    rintro e w8 ⟨rfl, hb⟩
    have H8 := hid (H7.out.bel hb (Vx4 hlow.out W7.out.size))
    have W8 := hid (W7.out.trans (hb.mono W7.out.size))
    have R8 := hid (R7.out.bel hb)
    have L8 := hid (Zab hb L7.out)
    have X8 := hid (Zab hb X7.out)
    have Y8 := hid (Zab hb Y7.out)
    have U8 := hid (U7.out.bel hb)
    have B8 := hid (Zab hb B7.out)
    have V8 := hid (V7.out.bel hb)
    have G8 := hid (G7.out.bel hb)
    have C8 := hid (Zab hb C7.out)
    clear H7 W7 R7 L7 X7 Y7 U7 B7 V7 G7 C7
    clear xf7 yf7 xn7
    clear hb 
    have e8z := hid (Vx0 w8 (.cells zTxC 33))
    go_wp2_with (first
      | (with_reducible refine Zac rfl 33 rfl zTxC Zbv ?_)
      | ((with_reducible refine stW 16 93 w8.heap.size 33 zTxC ?_ ?_ ?_ ?_ ?_); exact e8z.out; exact ax.out; exact zx.out; exact nx.out; intro w9 hgS hbS hsS; have Q9 := hid (Zan rfl hbS); have N9 := hid (Zae (l := cx) hgS); clear hgS hbS hsS; have H9 := hid (H8.out.bel Q9.out (Vx4 hlow.out W8.out.size)); have W9 := hid (W8.out.trans (Q9.out.mono W8.out.size)); have R9 := hid (R8.out.bel Q9.out); have L9 := hid (Zab Q9.out L8.out); have X9 := hid (Zab Q9.out X8.out); have Y9 := hid (Zab Q9.out Y8.out); have U9 := hid (U8.out.bel Q9.out); have B9 := hid (Zab Q9.out B8.out); have V9 := hid (V8.out.bel Q9.out); have G9 := hid (G8.out.bel Q9.out); have C9 := hid (Zab Q9.out C8.out); clear H8 W8 R8 L8 X8 Y8 U8 B8 V8 G8 C8)
      | (with_reducible refine lDr N9.out jx.out hux ?_)
      | (with_reducible refine lDr X9.out jx.out hux ?_))
    go_ret
    exact ⟨rfl, W9.out⟩
  · obtain ⟨q1, q2, q3, q4⟩ := F4.out hE1 hnn.out hE2 hl
    have hfl : ¬ (y.f : Int) ≤ (x.f : Int) := by omega
    have hall := hid (fun i hi => F5.out hE1 hnn.out hE2 hl i hi)
    subst hE1 q1 q2
    have hFy2 := hid (fun W h => hFb.out x.n A4 c4 W h hl2.out)
    rw [q3, hvY.out] at hFy2
    replace hCk := hid (hCk.out q4)
    clear q3 q4 F3 F4 F5 hl hE2 hFa
    have e4z := hid (Vx0 w4 (.cells zLnC 26))
    go_wp2_with (first
      | (with_reducible refine Zac rfl 26 rfl zLnC YoX ?_)
      | ((with_reducible refine stW 11 49 w4.heap.size 26 zLnC ?_ ?_ ?_ ?_ ?_); exact e4z.out; exact js.out _ _ _ _; exact zs.out _ _ _ _; exact os.out _ _ _ _; intro w5 hgS hbS hsS; have Q5 := hid (Zan rfl hbS); have C5 := hid (Zae hgS); clear hgS hbS hsS; have H5 := hid (H4.out.bel Q5.out (Vx4 hlow.out W4.out.size)); have W5 := hid (W4.out.trans (Q5.out.mono W4.out.size)); have R5 := hid (R4.out.bel Q5.out); have L5 := hid (Zab Q5.out L4.out); have X5 := hid (Zab Q5.out X4.out); have Y5 := hid (Zab Q5.out Y4.out); have U5 := hid (U4.out.bel Q5.out); have B5 := hid (Zab Q5.out B4.out); have V5 := hid (V4.out.bel Q5.out); have G5 := hid (G4.out.bel Q5.out); clear H4 W4 R4 L4 X4 Y4 U4 B4 V4 G4; have cb5 := hbx.out _ _ _ _ _ _ B5.out; have xn5 := (hxx.out _ X5.out).1)
      | (with_reducible refine lDr C5.out (js.out _ _ _ _) hul ?_))
    refine (hFy2.out _ V5.out).mono ?_
    rintro e w6 ⟨rfl, hb⟩
    have H6 := hid (H5.out.bel hb (Vx4 hlow.out W5.out.size))
    have W6 := hid (W5.out.trans (hb.mono W5.out.size))
    have R6 := hid (R5.out.bel hb)
    have L6 := hid (Zab hb L5.out)
    have X6 := hid (Zab hb X5.out)
    have Y6 := hid (Zab hb Y5.out)
    have U6 := hid (U5.out.bel hb)
    have B6 := hid (Zab hb B5.out)
    have V6 := hid (V5.out.bel hb)
    have G6 := hid (G5.out.bel hb)
    have C6 := hid (Zab hb C5.out)
    clear H5 W5 R5 L5 X5 Y5 U5 B5 V5 G5 C5
    clear hb 
    have e6z := hid (Vx0 w6 (.cells zTxC 33))
    go_wp2_with (first
      | (with_reducible refine Zac rfl 33 rfl zTxC Zbv ?_)
      | ((with_reducible refine stW 14 81 w6.heap.size 33 zTxC ?_ ?_ ?_ ?_ ?_); exact e6z.out; exact ay.out; exact zy.out; exact ny.out; intro w7 hgS hbS hsS; have Q7 := hid (Zan rfl hbS); have N7 := hid (Zae (l := cy) hgS); clear hgS hbS hsS; have H7 := hid (H6.out.bel Q7.out (Vx4 hlow.out W6.out.size)); have W7 := hid (W6.out.trans (Q7.out.mono W6.out.size)); have R7 := hid (R6.out.bel Q7.out); have L7 := hid (Zab Q7.out L6.out); have X7 := hid (Zab Q7.out X6.out); have Y7 := hid (Zab Q7.out Y6.out); have U7 := hid (U6.out.bel Q7.out); have B7 := hid (Zab Q7.out B6.out); have V7 := hid (V6.out.bel Q7.out); have G7 := hid (G6.out.bel Q7.out); have C7 := hid (Zab Q7.out C6.out); clear H6 W6 R6 L6 X6 Y6 U6 B6 V6 G6 C6; have xf7 := (hxx.out _ X7.out).2; have yf7 := (hyy.out _ Y7.out).2))
    clear xf7 yf7 xn5
    go_loopw [18] (fun i wr => ∃ j : Nat, j ≤ xs.length ∧ i = .int .i64 j ∧ Below w7.heap.size w7 wr) (fun i _ => xs.length - (intOf i).toNat)
    case atStart => exact ⟨0, Nat.zero_le _, rfl, Below.refl _ _⟩
    case round =>
      obtain ⟨j, hj, rfl, hbr⟩ := hrel
      have S8 := hid hbr
      have H8 := hid (H7.out.bel hbr (Vx4 hlow.out W7.out.size))
      have W8 := hid (W7.out.trans (hbr.mono W7.out.size))
      have R8 := hid (R7.out.bel hbr)
      have L8 := hid (Zab hbr L7.out)
      have X8 := hid (Zab hbr X7.out)
      have Y8 := hid (Zab hbr Y7.out)
      have U8 := hid (U7.out.bel hbr)
      have B8 := hid (Zab hbr B7.out)
      have V8 := hid (V7.out.bel hbr)
      have G8 := hid (G7.out.bel hbr)
      have C8 := hid (Zab hbr C7.out)
      have N8 := hid (Zab hbr N7.out)
      generalize hwr : wr = w8 at *
      replace hwr := hid hwr
      have hle2 : xs.length ≤ 12 := hle.out
      have cl8 := hx0.out _ L8.out
      by_cases hlt : j < xs.length
      · obtain ⟨b, o, hA, rj, cn, mj⟩ := YpD R8.out hlt
        subst hA
        have hlt2 : (j : Int) < (xs.length : Int) := by omega
        have hh := hall.out j hlt
        have cnh8 := hid (fun W (h : Below w8.heap.size w8 W) => (h.cell (Vx5 _ _ cn)).trans cn)
        have cnh := cn
        have hFz := hid (fun W h => hFb.out xs[j].n A4 c4 W h hl2.out)
        rw [hh] at hFz
        by_cases hjn : xs[j].n = x.n
        · rw [if_pos hjn, hvY.out] at hFz
          have hnq : ((xs[j].n : Int) != (x.n : Int)) = false := by rw [hjn]; simp
          have rjh := hid rj
          have az := ay
          have zz := zy
          have nz := ny
          generalize hcz : cy = cz at hFz az zz nz
          replace hcz := hid hcz
          clear hh hjn mj rj cn
          generalize txC xs[j] = xj at *
          generalize xs[j].n = nj at *
          go_wp2
          refine rgB fun hHeld => ?_
          refine' tkM 0 rfl (fun _ h => Zab h C8.out) hul (js.out _ _ _ _) ?_
          refine' tkP 1 rfl ?_
          refine' tkC 2 rfl cl8 ?_
          refine' tkP 3 rfl ?_
          simp only [sQ]
          refine' tkW 4 5 ?_
          refine' tkC 6 rfl cnh ?_
          simp only [sQ]
          apply shareK (T := fun (K : World → (Nat) → Prop) => ∀ (wq : World) (g : Nat), Below w8.heap.size w8 wq → w8.heap.size ≤ g → wq.heap[g]? = some (.cells zTxC 33 (0, 0)) → K wq g)
          intro M0
          · skip
            refine Ynx 7 11 rfl rfl (fun K hK => ?_) (fun K hK => ?_)
            · skip
              refine clB hK (hFz.out _ (V8.out.bel hHeld)) fun v7 hB hHeld => ?_
              try have eg := (hB.block _ (block_lt eg)).trans eg
              clear hK K
              try simp only [sQ]
              refine' tkW 8 9 ?_
              refine' tkP 10 rfl ?_
              simp only [sQ]
              refine rdH 11 rfl fun K hK => ?_
              refine Zar rfl 33 rfl zTxC Zbv ?_
              intro g v11 jg eg hB
              have mg := Vx1 hHeld.size jg
              refine kB hK hHeld hB fun hHeld => ?_
              clear hK K
              try simp only [sQ]
              exact M0 _ g hHeld mg eg
            · skip
              refine Zar rfl 33 rfl zTxC Zbv ?_
              intro g v11 jg eg hB
              have mg := Vx1 hHeld.size jg
              refine kB hK hHeld hB fun hHeld => ?_
              clear hK K
              try simp only [sQ]
              refine rdC 7 rfl (hFz.out _ (V8.out.bel hHeld)) fun v7 hB hHeld => ?_
              try have eg := (hB.block _ (block_lt eg)).trans eg
              try simp only [sQ]
              refine' tkW 8 9 ?_
              refine' tkP 10 rfl ?_
              simp only [sQ]
              exact M0 _ g hHeld mg eg
          intro wq g hHeld mg eg
          refine rdH 12 rfl fun K hK => ?_
          refine Zaj rfl 33 (.tmp 19) (.tmp 129) rfl g _ rfl rfl 33 zTxC eg az.out zz.out nz.out ?_
          intro v12 dg hG
          refine hK.out _ _ (hHeld.grown hG hHeld.size (by intro k hk; injection hk with hk; omega)) fun hHeld => ?_
          clear hK K
          try simp only [sQ]
          refine' tkP 13 rfl ?_
          simp only [sQ]
          refine dnN ?_
          have L9 := hid (Zab hHeld L8.out)
          have X9 := hid (Zab hHeld X8.out)
          have r9 := hid (Zab hHeld rjh.out)
          have S9 := hid (S8.out.trans (hHeld.mono S8.out.size))
          have d9 := hid (Zae dg)
          have cl9 := hx0.out _ L9.out
          have xn9 := (hxx.out _ X9.out).1
          have cn9 := cnh8.out _ hHeld
          clear hHeld dg mg
          go_wp2
          refine rgB fun hHeld => ?_
          refine' tkW 0 1 ?_
          refine' tkW 2 3 ?_
          simp only [sQ]
          refine' tkC 4 rfl cl9 ?_
          refine' tkW 5 6 ?_
          refine' tkP 7 rfl ?_
          simp only [sQ]
          refine' tkC 8 rfl cn9 ?_
          refine' tkP 9 rfl ?_
          refine' tkC 10 rfl xn9 ?_
          refine' tkP 11 rfl ?_
          simp only [sQ]
          refine' tkW 12 13 ?_
          refine' tkW 14 15 ?_
          simp only [sQ]
          refine' tkW 16 17 ?_
          refine' tkW 18 19 ?_
          simp only [sQ]
          refine' tkW 20 21 ?_
          simp only [sQ]
          refine dnN ?_
          go_wp2
          go_roundw
          case rel => exact ⟨j + 1, by omega, by go_num, S9.out.trans (hHeld.mono S9.out.size)⟩
          case measure => simp [intOf]; omega
        · rw [if_neg hjn] at hFz
          have hnq : ((xs[j].n : Int) != (x.n : Int)) = true := bne_iff_ne.2 (by omega)
          have hEj := hEz.out xs[j] mj
          have rjh := hid rj
          have az := hid (Zb2 xs[j])
          have zz := hid (ZcS xs[j])
          have nz := hid (Zdw xs[j])
          have jj := hid (Zby xs[j])
          rw [show hitV (some xs[j]) = .returned (.tuple #[.agg (txC xs[j]).toArray, .bool true]) from rfl] at hFz
          clear hh hjn mj rj cn
          generalize txC xs[j] = cz at *
          generalize xs[j].n = nj at *
          go_wp2
          refine rgB fun hHeld => ?_
          refine' tkM 0 rfl (fun _ h => Zab h C8.out) hul (js.out _ _ _ _) ?_
          refine' tkP 1 rfl ?_
          refine' tkC 2 rfl cl8 ?_
          refine' tkP 3 rfl ?_
          simp only [sQ]
          refine' tkW 4 5 ?_
          refine' tkC 6 rfl cnh ?_
          simp only [sQ]
          apply shareK (T := fun (K : World → (Nat) → Prop) => ∀ (wq : World) (g : Nat), Below w8.heap.size w8 wq → w8.heap.size ≤ g → wq.heap[g]? = some (.cells zTxC 33 (0, 0)) → K wq g)
          intro M0
          · skip
            refine Ynx 7 11 rfl rfl (fun K hK => ?_) (fun K hK => ?_)
            · skip
              refine clB hK (hFz.out _ (V8.out.bel hHeld)) fun v7 hB hHeld => ?_
              try have eg := (hB.block _ (block_lt eg)).trans eg
              clear hK K
              try simp only [sQ]
              refine' tkW 8 9 ?_
              refine' tkP 10 rfl ?_
              simp only [sQ]
              refine rdH 11 rfl fun K hK => ?_
              refine Zar rfl 33 rfl zTxC Zbv ?_
              intro g v11 jg eg hB
              have mg := Vx1 hHeld.size jg
              refine kB hK hHeld hB fun hHeld => ?_
              clear hK K
              try simp only [sQ]
              exact M0 _ g hHeld mg eg
            · skip
              refine Zar rfl 33 rfl zTxC Zbv ?_
              intro g v11 jg eg hB
              have mg := Vx1 hHeld.size jg
              refine kB hK hHeld hB fun hHeld => ?_
              clear hK K
              try simp only [sQ]
              refine rdC 7 rfl (hFz.out _ (V8.out.bel hHeld)) fun v7 hB hHeld => ?_
              try have eg := (hB.block _ (block_lt eg)).trans eg
              try simp only [sQ]
              refine' tkW 8 9 ?_
              refine' tkP 10 rfl ?_
              simp only [sQ]
              exact M0 _ g hHeld mg eg
          intro wq g hHeld mg eg
          refine rdH 12 rfl fun K hK => ?_
          refine Zaj rfl 33 (.tmp 19) (.tmp 129) rfl g _ rfl rfl 33 zTxC eg az.out zz.out nz.out ?_
          intro v12 dg hG
          refine hK.out _ _ (hHeld.grown hG hHeld.size (by intro k hk; injection hk with hk; omega)) fun hHeld => ?_
          clear hK K
          try simp only [sQ]
          refine' tkP 13 rfl ?_
          simp only [sQ]
          refine dnN ?_
          have L9 := hid (Zab hHeld L8.out)
          have X9 := hid (Zab hHeld X8.out)
          have r9 := hid (Zab hHeld rjh.out)
          have S9 := hid (S8.out.trans (hHeld.mono S8.out.size))
          have d9 := hid (Zae dg)
          have cl9 := hx0.out _ L9.out
          have xn9 := (hxx.out _ X9.out).1
          have cn9 := cnh8.out _ hHeld
          clear hHeld dg mg
          go_wp2
          refine rgB fun hHeld => ?_
          refine' tkW 0 1 ?_
          refine' tkW 2 3 ?_
          simp only [sQ]
          refine' tkC 4 rfl cl9 ?_
          refine' tkW 5 6 ?_
          refine' tkP 7 rfl ?_
          simp only [sQ]
          refine' tkC 8 rfl cn9 ?_
          refine' tkP 9 rfl ?_
          refine' tkC 10 rfl xn9 ?_
          refine' tkP 11 rfl ?_
          simp only [sQ]
          refine' tkP 12 rfl ?_
          refine' tkM 13 rfl (fun _ h => Zab h d9.out) hux jj.out ?_
          refine' tkP 14 rfl ?_
          refine' tkC 15 rfl cl9 ?_
          simp only [sQ]
          refine' tkW 16 17 ?_
          refine' tkM 18 rfl (fun _ h => Zab h r9.out) hux jj.out ?_
          refine' tkP 19 rfl ?_
          simp only [sQ]
          refine' tkW 20 21 ?_
          simp only [sQ]
          refine dnN ?_
          go_wp2
          go_roundw
          case rel => exact ⟨j + 1, by omega, by go_num, S9.out.trans (hHeld.mono S9.out.size)⟩
          case measure => simp [intOf]; omega
      · obtain rfl : j = xs.length := by omega
        have hlt2 : ¬ (xs.length : Int) < (xs.length : Int) := by omega
        go_wp2_with (first
          | (with_reducible refine lDr N8.out jy.out hux ?_)
          | (with_reducible refine lDr Y8.out jy.out hux ?_)
          | (with_reducible refine lDr X8.out jx.out hux ?_)
          | ((refine Ypc rfl 1 _ rfl [x] [.agg cx.toArray] hvx.out hnx.out (by decide) (by decide) hox.out rfl ?_); intro g10 w10 o5 B5; have T10 := hid (OwnR.row o5).any; have H10 := hid (H8.out.bel B5 (Vx4 hlow.out W8.out.size)); have W10 := hid (W8.out.trans (B5.mono W8.out.size)); have R10 := hid (R8.out.bel B5); have L10 := hid (Zab B5 L8.out); have X10 := hid (Zab B5 X8.out); have Y10 := hid (Zab B5 Y8.out); have U10 := hid (U8.out.bel B5); have B10 := hid (Zab B5 B8.out); have V10 := hid (V8.out.bel B5); have G10 := hid (G8.out.bel B5); have C10 := hid (Zab B5 C8.out); have N10 := hid (Zab B5 N8.out); have S10 := hid (S8.out.trans (B5.mono S8.out.size)); clear H8 W8 R8 L8 X8 Y8 U8 B8 V8 G8 C8 N8 S8; clear o5 B5))
        refine (hSx.out _ _ _ _ _ G10.out T10.out).mono ?_
        rintro e w11 ⟨rfl, hb⟩
        have H11 := hid (H10.out.bel hb (Vx4 hlow.out W10.out.size))
        have W11 := hid (W10.out.trans (hb.mono W10.out.size))
        have R11 := hid (R10.out.bel hb)
        have L11 := hid (Zab hb L10.out)
        have X11 := hid (Zab hb X10.out)
        have Y11 := hid (Zab hb Y10.out)
        have U11 := hid (U10.out.bel hb)
        have B11 := hid (Zab hb B10.out)
        have V11 := hid (V10.out.bel hb)
        have G11 := hid (G10.out.bel hb)
        have C11 := hid (Zab hb C10.out)
        have N11 := hid (Zab hb N10.out)
        have S11 := hid (S10.out.trans (hb.mono S10.out.size))
        have T11 := hid (T10.out.bel hb)
        clear H10 W10 R10 L10 X10 Y10 U10 B10 V10 G10 C10 N10 S10 T10
        clear hb 
        go_wp2_with ((with_reducible refine lDr C11.out (js.out _ _ _ _) hul ?_))
        refine (hCk.out A4 c4 _ V11.out hl2.out H11.out).mono ?_
        rintro e w12 ⟨rfl, hb⟩
        have H12 := hid (H11.out.bel hb (Vx4 hlow.out W11.out.size))
        have W12 := hid (W11.out.trans (hb.mono W11.out.size))
        have R12 := hid (R11.out.bel hb)
        have L12 := hid (Zab hb L11.out)
        have X12 := hid (Zab hb X11.out)
        have Y12 := hid (Zab hb Y11.out)
        have U12 := hid (U11.out.bel hb)
        have B12 := hid (Zab hb B11.out)
        have V12 := hid (V11.out.bel hb)
        have G12 := hid (G11.out.bel hb)
        have C12 := hid (Zab hb C11.out)
        have N12 := hid (Zab hb N11.out)
        have S12 := hid (S11.out.trans (hb.mono S11.out.size))
        have T12 := hid (T11.out.bel hb)
        clear H11 W11 R11 L11 X11 Y11 U11 B11 V11 G11 C11 N11 S11 T11
        clear hb 
        go_wp2
        go_ret
        exact ⟨rfl, W12.out⟩
end Go.Proofs.YtimaoonpgilekaaDoor.queueBest
