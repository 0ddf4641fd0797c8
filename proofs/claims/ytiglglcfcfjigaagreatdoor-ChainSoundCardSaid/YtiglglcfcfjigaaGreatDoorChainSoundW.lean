/-
  The walk of ChainSound.
-/
import Derived.ProofKit
import Derived.ShutString
import Derived.ChangeOld
import Derived.Below
import Derived.Test.YtiglglcfcfjigaaGreatDoorAlive17
import Derived.Test.YtiglglcfcfjigaaGreatDoorCaE
namespace Go.Proofs.YtiglglcfcfjigaaGreatDoor.chainSound
open Go.ChangeShapes Go.WideShapes Go.ChangeAt Go.RowKit
open Go.ChangeMaps (open_string shut_string)
set_option linter.unusedVariables false

theorem own : ownKnob Tryz.prog.godebug = none := by kernel_rfl
theorem laidOut : laidOutB Tryz.prog = true := by kernel_rfl

/-- WHAT THE WALK IS TOLD OF A SLICE OF INTEGERS THAT CAME IN: it is nil; or it leads to a row of 'cap' cells, the numbers 'zs' (the first 'len' are its elements, the rest its spare room), each fitting its kind. -/
def IsRow (k : IntKind) (w : World) (a : Option Addr) (len cap : Nat) (zs : List Int) : Prop :=
  (a = none ∧ len = 0 ∧ cap = 0 ∧ zs = []) ∨
  ∃ x, a = some x ∧ len ≤ cap ∧ cap ≤ maxLen ∧ zs.length = cap ∧ (∀ i, i < zs.length → w.cell? (x.add i) = some (.int k (zs.getD i 0))) ∧ ∀ n ∈ zs, (Lit.int k n).wf = true

/-! ### the walk -/
open Go.Proofs.YtiglglcfcfjigaaGreatDoor
set_option maxRecDepth 100000
theorem YnR (w : World) (c : Ch) (s : ChS) (l q : List Value) (t u x : TypeId) :
    let W := ((w.alloc (.cells (chV c s).toArray t)).alloc (.cells l.toArray u)).alloc (.cells q.toArray x)
    W.rangeAt w.heap.size 0 (chV c s) ∧ W.rangeAt (w.heap.size + 1) 0 l ∧ W.rangeAt (w.heap.size + 1 + 1) 0 q ∧ Below w.heap.size w W := by
  intro W
  have h1 := Zae (l := chV c s) (Vx0 w (.cells (chV c s).toArray t))
  have h2 := Zae (Vx0 (w.alloc (.cells (chV c s).toArray t)) (.cells l.toArray u))
  have h3 := Zae (Vx0 ((w.alloc (.cells (chV c s).toArray t)).alloc (.cells l.toArray u)) (.cells q.toArray x))
  simp only [Vx2] at h2 h3
  exact ⟨Zab (Zad _ _) (Zab (Zad _ _) h1), Zab (Zad _ _) h2, h3, Zag (Zag (Zad _ _) (Zad _ _)) (Zad _ _)⟩
/-- What is asked of a chain with a block more. -/
def SoundX (c : Ch) (box : Dg) (z : Int) (x : Ch) : Prop := z = 0 → soundC x box = true ∧ x.ls.length = c.ls.length + 1 ∧ ChB 50000 x
theorem YnT {c x : Ch} {box : Dg} {ds : List Dp} {xs : List Tx} (hb : ChB 900 c) (hl : c.ls.length ≤ 5) (hd : ds.length ≤ 20) (hx : xs.length ≤ 20) (hs : soundC c box = true) (h : AddOk c ds xs box x) : SoundX c box (addE c ds xs box) x := fun e => by
  have hB := (YlM (N := 900) hb (by omega) hd hx h).1
  obtain ⟨_, h2, h3, o, ho, rfl⟩ := Yle e h
  exact ⟨Ynr hs h2 h3 ho, by simp [addC], ⟨by have := hB.ns; omega, hB.ls, hB.xs⟩⟩
theorem YnU {c : Ch} {box : Dg} {h : Int} (hb : ChB 50000 c) (hs : soundC c box = true) : (cutE c h = 0 ∧ ∃ k : Nat, h = (k : Int) ∧ k < c.ls.length ∧ soundC (cutR c h) box = true ∧ (cutR c h).ls.length = k + 1 ∧ ChB 50000 (cutR c h)) ∨ (cutE c h ≠ 0 ∧ ¬ (0 ≤ h ∧ h < (c.ls.length : Int))) := by
  have hm : mayC c = true := by
    unfold soundC at hs
    simp only [Bool.and_eq_true] at hs
    exact hs.1
  by_cases hi : 0 ≤ h ∧ h < (c.ls.length : Int)
  · obtain ⟨k, rfl⟩ : ∃ k : Nat, h = (k : Int) := ⟨h.toNat, by omega⟩
    have hk : k < c.ls.length := by omega
    obtain ⟨e1, e2⟩ := YlQ hm hk
    refine .inl ⟨e1, k, rfl, hk, ?_, ?_, ?_⟩
    · rw [e2]; exact Ynt hs hk
    · rw [e2]; simp [cutC]; omega
    · rw [e2]; exact hb.cut hk
  · refine .inr ⟨?_, hi⟩
    unfold cutE
    rw [if_pos hm, if_neg hi]
    decide
set_option maxHeartbeats 16000000 in
theorem walk (x0 : Ch) (vs0 : List Value) (x1 : Bd) (vs1 : List Value) (l2 : List UInt8) (a3 : Int) (w : World) (w0 : Enc.rep (fun b => b < w.heap.size) w x0 vs0) (w1 : Enc.rep (fun b => b < w.heap.size) w x1 vs1) (w2 : l2.length = 32) (w3 : (Lit.int .i64 a3).wf = true) (hT : Tab w) :
    Calls Tryz.prog 6 #[.agg vs0.toArray, .agg vs1.toArray, .agg (l2.map bv).toArray, .int .i64 a3] w fun e w' => e = .returned (.bool true) ∧ Below w.heap.size w w' := by
  obtain ⟨A0, k0, L0, m0, rfl, ⟨hc0, hm0, hr⟩, hI, hl0, hml, hlr⟩ := Ynu w0
  obtain ⟨D0, d0, X0, e0, rfl, ⟨hd1, hd2, hdr⟩, ⟨hx1, hx2, hxr⟩⟩ := Zvg w1
  obtain ⟨ads, axs⟩ := x1
  obtain ⟨box, rfl⟩ : ∃ k : Dg, l2 = k.1 := ⟨⟨l2, w2⟩, rfl⟩
  generalize x0 = c at *
  dsimp only at *
  obtain ⟨s0, hs0⟩ : ∃ s : ChS, s = ⟨A0, k0, L0, m0⟩ := ⟨_, rfl⟩
  have hv0 : ([.slice A0 c.t.ns.length k0, .int .i64 c.t.root, .slice L0 c.ls.length m0] : List Value) = chV c s0 := by rw [hs0]; rfl
  have i0 : ChIn (fun b => b < w.heap.size) w c s0 := by rw [hs0]; exact ⟨hr, hlr, hc0, hl0⟩
  have hcm : c.t.ns.length ≤ 9223372036854775807 := by unfold maxLen at hm0; omega
  have hcl : c.ls.length ≤ 9223372036854775807 := by unfold maxLen at hml; omega
  rw [hv0]
  clear hs0 hv0
  obtain ⟨C0, Y0, S0, W0⟩ := YnR w c s0 [.slice D0 ads.length d0, .slice X0 axs.length e0] (box.1.map bv) 27 35 37
  have huc := Tryz.underlying27
  have hub := Tryz.underlying35
  have hu := Tryz.underlying37
  have hiS := hid (Zaz box)
  have I0 := hid (i0.bel W0)
  have P0 := hid (hdr.bel W0)
  have Q0 := hid (hxr.bel W0)
  have H0 := hid (hT.bel W0 hT.low)
  have hlow := hid hT.low
  have hAl := hid (fun W hW => YlO W hW)
  obtain ⟨g1, hg1⟩ : ∃ v, greatC c 5 = v := ⟨_, rfl⟩
  obtain ⟨g2, hg2⟩ : ∃ v, greatB ads.length axs.length = v := ⟨_, rfl⟩
  obtain ⟨g3, hg3⟩ : ∃ v, soundC c box = v := ⟨_, rfl⟩
  have hGr := hid (fun W h => hg1 ▸ Ylz (fun b => b < w.heap.size) c s0 5 W h hcm hcl)
  have hGa := hid (fun W => hg2 ▸ Zgi D0 d0 ads.length X0 e0 axs.length W)
  have hSo := hid (fun W h (hB : ChB 50000 c) hT => hg3 ▸ YnB (fun b => b < w.heap.size) c s0 box W h hB hT)
  replace hg1 := hid hg1
  replace hg2 := hid hg2
  replace hg3 := hid hg3
  replace C0 := hid C0
  replace Y0 := hid Y0
  replace S0 := hid S0
  replace W0 := hid W0
  clear hr hlr hdr hxr w0 w1 w2 w3 hI i0 hT
  go_enter Tryz.func6, Tryz.ntmps6
  go_wp2_with fail
  generalize ((w.alloc (.cells (chV c s0).toArray 27)).alloc (.cells #[.slice D0 ads.length d0, .slice X0 axs.length e0] 35)).alloc (.cells (box.1.map bv).toArray 37) = w0 at *
  refine (hAl.out _ H0.out).mono ?_
  rintro e w1 ⟨rfl, hb⟩
  have C1 := hid (Zab hb C0.out)
  have Y1 := hid (Zab hb Y0.out)
  have S1 := hid (Zab hb S0.out)
  have I1 := hid (I0.out.bel hb)
  have P1 := hid (P0.out.bel hb)
  have Q1 := hid (Q0.out.bel hb)
  have H1 := hid (H0.out.bel hb (Vx4 hlow.out W0.out.size))
  have W1 := hid (W0.out.trans (hb.mono W0.out.size))
  clear C0 Y0 S0 I0 P0 Q0 H0 W0
  clear hb hAl
  go_wp2_with ((with_reducible refine lDr C1.out (YkJ c s0) huc ?_))
  refine (hGr.out _ I1.out).mono ?_
  rintro e w2 ⟨rfl, hb⟩
  have C2 := hid (Zab hb C1.out)
  have Y2 := hid (Zab hb Y1.out)
  have S2 := hid (Zab hb S1.out)
  have I2 := hid (I1.out.bel hb)
  have P2 := hid (P1.out.bel hb)
  have Q2 := hid (Q1.out.bel hb)
  have H2 := hid (H1.out.bel hb (Vx4 hlow.out W1.out.size))
  have W2 := hid (W1.out.trans (hb.mono W1.out.size))
  clear C1 Y1 S1 I1 P1 Q1 H1 W1
  clear hb hGr
  cases g1 with
  | true =>
    go_wp2
    go_ret
    exact ⟨rfl, W2.out⟩
  | false =>
  go_wp2_with ((with_reducible refine lDr Y2.out (ZfA _ _) hub ?_))
  refine (hGa.out _).mono ?_
  rintro e w3 ⟨rfl, hb⟩
  have C3 := hid (Zab hb C2.out)
  have Y3 := hid (Zab hb Y2.out)
  have S3 := hid (Zab hb S2.out)
  have I3 := hid (I2.out.bel hb)
  have P3 := hid (P2.out.bel hb)
  have Q3 := hid (Q2.out.bel hb)
  have H3 := hid (H2.out.bel hb (Vx4 hlow.out W2.out.size))
  have W3 := hid (W2.out.trans (hb.mono W2.out.size))
  clear C2 Y2 S2 I2 P2 Q2 H2 W2
  clear hb hGa
  cases g2 with
  | true =>
    go_wp2
    go_ret
    exact ⟨rfl, W3.out⟩
  | false =>
  obtain ⟨cb9, cl5, cx9⟩ := Ynb hg1.out (by decide)
  obtain ⟨la1, la2⟩ := Ylg hg2.out
  have cb5 : ChB 50000 c := ⟨by have := cb9.ns; omega, cb9.ls, cb9.xs⟩
  have cbh := hid cb5
  go_wp2_with (first
    | (with_reducible refine lDr C3.out (YkJ c s0) huc ?_)
    | (with_reducible refine lDr S3.out hiS.out hu ?_))
  refine (hSo.out _ I3.out cbh.out H3.out).mono ?_
  rintro e w4 ⟨rfl, hb⟩
  have C4 := hid (Zab hb C3.out)
  have Y4 := hid (Zab hb Y3.out)
  have S4 := hid (Zab hb S3.out)
  have I4 := hid (I3.out.bel hb)
  have P4 := hid (P3.out.bel hb)
  have Q4 := hid (Q3.out.bel hb)
  have H4 := hid (H3.out.bel hb (Vx4 hlow.out W3.out.size))
  have W4 := hid (W3.out.trans (hb.mono W3.out.size))
  clear C3 Y3 S3 I3 P3 Q3 H3 W3
  clear hb hSo
  cases g3 with
  | false =>
    go_wp2
    go_ret
    exact ⟨rfl, W4.out⟩
  | true =>
  have hso := hg3.out
  obtain ⟨za, hza⟩ : ∃ z, addE c ads axs box = z := ⟨_, rfl⟩
  obtain ⟨zf, hzf⟩ : ∃ z, cutE c a3 = z := ⟨_, rfl⟩
  obtain ⟨cy, hcy⟩ : ∃ z, cutR c a3 = z := ⟨_, rfl⟩
  have hA1 := hid (fun W (hi : ChIn (fun b => b < w.heap.size) W c s0) (hD : Row (fun b => b < w.heap.size) W D0 ads) (hX : Row (fun b => b < w.heap.size) W X0 axs) hT => YmK (d := d0) (e := e0) (box := box) hi cb5 hD hX (by omega) (by omega) hT za (SoundX c box za) hza (fun cc h => hza ▸ YnT cb9 cl5 la1 la2 hso h))
  have hCt := hid (fun W (h : ChIn (fun b => b < w.heap.size) W c s0) hT => Yns h cb5 hT zf cy hzf hcy)
  have hY := hid (YnU (h := a3) cb5 hso)
  rw [hzf, hcy] at hY
  have hSx := hid (fun (F : Nat → Prop) (c' : Ch) (s : ChS) W (h : ChIn F W c' s) (hB : ChB 50000 c') hT (hs : soundC c' box = true) => (show Calls Tryz.prog 13 #[.agg (chV c' s).toArray, .agg (box.1.map bv).toArray] W fun e w' => e = .returned (.bool true) ∧ Below W.heap.size W w' from by
    have := YnB F c' s box W h hB hT
    rw [hs] at this
    exact this))
  have hcl5 := hid cl5
  clear cb9 hza hzf hcy cb5 cx9 hso la1 la2 cl5
  go_wp2_with (first
    | (with_reducible refine lDr C4.out (YkJ c s0) huc ?_)
    | (with_reducible refine lDr Y4.out (ZfA _ _) hub ?_)
    | (with_reducible refine lDr S4.out hiS.out hu ?_))
  refine (hA1.out _ I4.out P4.out Q4.out H4.out).mono ?_
  rintro e w5 ⟨cx, s5, rfl, no, hb, hok5⟩
  have C5 := hid (Zab hb C4.out)
  have Y5 := hid (Zab hb Y4.out)
  have S5 := hid (Zab hb S4.out)
  have I5 := hid (I4.out.bel hb)
  have P5 := hid (P4.out.bel hb)
  have Q5 := hid (Q4.out.bel hb)
  have H5 := hid (H4.out.bel hb (Vx4 hlow.out W4.out.size))
  have W5 := hid (W4.out.trans (hb.mono W4.out.size))
  clear C4 Y4 S4 I4 P4 Q4 H4 W4
  have N5 := hid no
  replace hok5 := hid hok5
  clear hb no hA1
  clear Y5
  clear P5
  clear Q5
  have e5 := hid (Vx0 w5 (.cells zChC 27))
  go_wp2_with (first
    | (with_reducible refine Zac rfl 27 rfl zChC YkN ?_)
    | ((with_reducible refine stW 10 37 _ 27 zChC ?_ ?_ ?_ ?_ ?_); exact e5.out; exact YkJ cx s5; rfl; exact YkR cx s5; intro w6 hgS hbS hsS; have X6 := hid (Zan rfl hbS); have D6 := hid (Zae (l := chV cx s5) hgS); clear hgS hbS hsS; have C6 := hid (Zab X6.out C5.out); have S6 := hid (Zab X6.out S5.out); have I6 := hid (I5.out.bel X6.out); have H6 := hid (H5.out.bel X6.out (Vx4 hlow.out W5.out.size)); have W6 := hid (W5.out.trans (X6.out.mono W5.out.size)); have N6 := hid (N5.out.bel X6.out); clear C5 S5 I5 H5 W5 N5)
    | (with_reducible refine lDr C6.out (YkJ c s0) huc ?_))
  refine (hCt.out _ I6.out H6.out).mono ?_
  rintro e w7 ⟨s7, rfl, jo, hb⟩
  have C7 := hid (Zab hb C6.out)
  have S7 := hid (Zab hb S6.out)
  have I7 := hid (I6.out.bel hb)
  have H7 := hid (H6.out.bel hb (Vx4 hlow.out W6.out.size))
  have W7 := hid (W6.out.trans (hb.mono W6.out.size))
  have N7 := hid (N6.out.bel hb)
  have D7 := hid (Zab hb D6.out)
  clear C6 S6 I6 H6 W6 N6 D6
  have J7 := hid jo
  clear hb jo hCt
  have e7 := hid (Vx0 w7 (.cells zChC 27))
  have hwm : IntKind.i64.wrap ((c.ls.length : Int) + 1) = ((c.ls.length + 1 : Nat) : Int) := by have := hcl5.out; rw [IntKind.wrap_i64]; omega
  have l7 := (BoxC.of (show _ from C7.out)).ls
  have nq : (((c.ls.length + 1 : Nat) : Int) != ((c.ls.length + 1 : Nat) : Int)) = false := by simp
  obtain ⟨h2, k, hk, hkl, y1, y2, y3⟩ | ⟨h2, hn⟩ := hY.out
  case inl =>
    have p2 : (zf == 0) = true := beq_iff_eq.2 h2
    have hwk : IntKind.i64.wrap (a3 + 1) = ((k + 1 : Nat) : Int) := by have := hcl5.out; rw [hk, IntKind.wrap_i64]; omega
    have nk : (((k + 1 : Nat) : Int) != ((k + 1 : Nat) : Int)) = false := by simp
    have d0 : decide (a3 ≥ 0) = true := Vy2 (by omega)
    have d1 : decide (a3 < (c.ls.length : Int)) = true := Vy2 (by omega)
    have y1' := hid y1
    have y3' := hid y3
    have hlY := hid y2
    replace hk := hid hk
    replace h2 := hid h2
    clear y1 y2 y3 hkl
    by_cases h1 : za = 0
    case pos =>
      have p1 : (za == 0) = true := beq_iff_eq.2 h1
      obtain ⟨x1s, x1l, x1b⟩ := hok5.out h1
      have X1s := hid x1s
      have X1l := hid x1l
      have X1b := hid x1b
      replace h1 := hid h1
      clear x1s x1l x1b
      go_wp2_with (first
        | (with_reducible refine Zac rfl 27 rfl zChC YkN ?_)
        | ((with_reducible refine stW 12 43 _ 27 zChC ?_ ?_ ?_ ?_ ?_); exact e7.out; exact YkJ cy s7; rfl; exact YkR cy s7; intro w8 hgS hbS hsS; have X8 := hid (Zan rfl hbS); have F8 := hid (Zae (l := chV cy s7) hgS); clear hgS hbS hsS; have C8 := hid (Zab X8.out C7.out); have S8 := hid (Zab X8.out S7.out); have I8 := hid (I7.out.bel X8.out); have H8 := hid (H7.out.bel X8.out (Vx4 hlow.out W7.out.size)); have W8 := hid (W7.out.trans (X8.out.mono W7.out.size)); have N8 := hid (N7.out.bel X8.out); have D8 := hid (Zab X8.out D7.out); have J8 := hid (J7.out.bel X8.out); clear C7 S7 I7 H7 W7 N7 D7 J7; have l1 := (BoxC.of (show _ from C8.out)).ls)
        | (with_reducible refine lDr D8.out (YkJ cx s5) huc ?_)
        | (with_reducible refine lDr S8.out hiS.out hu ?_))
      clear l1 l7
      refine (hSx.out _ cx s5 _ N8.out.inn X1b.out H8.out X1s.out).mono ?_
      rintro e w9 ⟨rfl, hb⟩
      have C9 := hid (Zab hb C8.out)
      have S9 := hid (Zab hb S8.out)
      have I9 := hid (I8.out.bel hb)
      have H9 := hid (H8.out.bel hb (Vx4 hlow.out W8.out.size))
      have W9 := hid (W8.out.trans (hb.mono W8.out.size))
      have N9 := hid (N8.out.bel hb)
      have D9 := hid (Zab hb D8.out)
      have J9 := hid (J8.out.bel hb)
      have F9 := hid (Zab hb F8.out)
      clear C8 S8 I8 H8 W8 N8 D8 J8 F8
      clear hb 
      have l1 := (BoxC.of (show _ from C9.out)).ls
      have l3 := (BoxC.of (show _ from D9.out)).ls
      rw [X1l.out] at l3
      go_wp2_with (first
        | (with_reducible refine lDr F9.out (YkJ cy s7) huc ?_)
        | (with_reducible refine lDr S9.out hiS.out hu ?_))
      clear l1 l3
      refine (hSx.out _ cy s7 _ J9.out.inn y3'.out H9.out y1'.out).mono ?_
      rintro e w10 ⟨rfl, hb⟩
      have C10 := hid (Zab hb C9.out)
      have S10 := hid (Zab hb S9.out)
      have I10 := hid (I9.out.bel hb)
      have H10 := hid (H9.out.bel hb (Vx4 hlow.out W9.out.size))
      have W10 := hid (W9.out.trans (hb.mono W9.out.size))
      have N10 := hid (N9.out.bel hb)
      have D10 := hid (Zab hb D9.out)
      have J10 := hid (J9.out.bel hb)
      have F10 := hid (Zab hb F9.out)
      clear C9 S9 I9 H9 W9 N9 D9 J9 F9
      clear hb 
      have l1 := (BoxC.of (show _ from C10.out)).ls
      have l4 := (BoxC.of (show _ from F10.out)).ls
      rw [hlY.out] at l4
      go_wp2
      go_ret
      exact ⟨rfl, W10.out⟩
    case neg =>
      have p1 : (za == 0) = false := beq_eq_false_iff_ne.2 h1
      replace h1 := hid h1
      go_wp2_with (first
        | (with_reducible refine Zac rfl 27 rfl zChC YkN ?_)
        | ((with_reducible refine stW 12 43 _ 27 zChC ?_ ?_ ?_ ?_ ?_); exact e7.out; exact YkJ cy s7; rfl; exact YkR cy s7; intro w8 hgS hbS hsS; have X8 := hid (Zan rfl hbS); have F8 := hid (Zae (l := chV cy s7) hgS); clear hgS hbS hsS; have C8 := hid (Zab X8.out C7.out); have S8 := hid (Zab X8.out S7.out); have I8 := hid (I7.out.bel X8.out); have H8 := hid (H7.out.bel X8.out (Vx4 hlow.out W7.out.size)); have W8 := hid (W7.out.trans (X8.out.mono W7.out.size)); have N8 := hid (N7.out.bel X8.out); have D8 := hid (Zab X8.out D7.out); have J8 := hid (J7.out.bel X8.out); clear C7 S7 I7 H7 W7 N7 D7 J7)
        | (with_reducible refine lDr F8.out (YkJ cy s7) huc ?_)
        | (with_reducible refine lDr S8.out hiS.out hu ?_))
      clear l7
      refine (hSx.out _ cy s7 _ J8.out.inn y3'.out H8.out y1'.out).mono ?_
      rintro e w9 ⟨rfl, hb⟩
      have C9 := hid (Zab hb C8.out)
      have S9 := hid (Zab hb S8.out)
      have I9 := hid (I8.out.bel hb)
      have H9 := hid (H8.out.bel hb (Vx4 hlow.out W8.out.size))
      have W9 := hid (W8.out.trans (hb.mono W8.out.size))
      have N9 := hid (N8.out.bel hb)
      have D9 := hid (Zab hb D8.out)
      have J9 := hid (J8.out.bel hb)
      have F9 := hid (Zab hb F8.out)
      clear C8 S8 I8 H8 W8 N8 D8 J8 F8
      clear hb 
      have l1 := (BoxC.of (show _ from C9.out)).ls
      have l4 := (BoxC.of (show _ from F9.out)).ls
      rw [hlY.out] at l4
      go_wp2
      go_ret
      exact ⟨rfl, W9.out⟩
  case inr =>
    have p2 : (zf == 0) = false := beq_eq_false_iff_ne.2 h2
    obtain ⟨d, hd⟩ : ∃ d, decide (a3 ≥ 0) = d := ⟨_, rfl⟩
    have d1 : d = true → decide (a3 < (c.ls.length : Int)) = false := fun e => Vy1 fun h => by
      rw [e, decide_eq_true_eq] at hd
      exact hn ⟨hd, h⟩
    replace d1 := hid d1
    have hd0 := hd
    replace hn := hid hn
    replace h2 := hid h2
    by_cases h1 : za = 0
    case pos =>
      have p1 : (za == 0) = true := beq_iff_eq.2 h1
      obtain ⟨x1s, x1l, x1b⟩ := hok5.out h1
      have X1s := hid x1s
      have X1l := hid x1l
      have X1b := hid x1b
      replace h1 := hid h1
      clear x1s x1l x1b
      go_wp2_with (first
        | (with_reducible refine Zac rfl 27 rfl zChC YkN ?_)
        | ((with_reducible refine stW 12 43 _ 27 zChC ?_ ?_ ?_ ?_ ?_); exact e7.out; exact YkJ cy s7; rfl; exact YkR cy s7; intro w8 hgS hbS hsS; have X8 := hid (Zan rfl hbS); have F8 := hid (Zae (l := chV cy s7) hgS); clear hgS hbS hsS; have C8 := hid (Zab X8.out C7.out); have S8 := hid (Zab X8.out S7.out); have I8 := hid (I7.out.bel X8.out); have H8 := hid (H7.out.bel X8.out (Vx4 hlow.out W7.out.size)); have W8 := hid (W7.out.trans (X8.out.mono W7.out.size)); have N8 := hid (N7.out.bel X8.out); have D8 := hid (Zab X8.out D7.out); have J8 := hid (J7.out.bel X8.out); clear C7 S7 I7 H7 W7 N7 D7 J7; have l1 := (BoxC.of (show _ from C8.out)).ls)
        | (with_reducible refine lDr D8.out (YkJ cx s5) huc ?_)
        | (with_reducible refine lDr S8.out hiS.out hu ?_))
      clear l1 l7
      refine (hSx.out _ cx s5 _ N8.out.inn X1b.out H8.out X1s.out).mono ?_
      rintro e w9 ⟨rfl, hb⟩
      have C9 := hid (Zab hb C8.out)
      have S9 := hid (Zab hb S8.out)
      have I9 := hid (I8.out.bel hb)
      have H9 := hid (H8.out.bel hb (Vx4 hlow.out W8.out.size))
      have W9 := hid (W8.out.trans (hb.mono W8.out.size))
      have N9 := hid (N8.out.bel hb)
      have D9 := hid (Zab hb D8.out)
      have J9 := hid (J8.out.bel hb)
      have F9 := hid (Zab hb F8.out)
      clear C8 S8 I8 H8 W8 N8 D8 J8 F8
      clear hb 
      have l1 := (BoxC.of (show _ from C9.out)).ls
      have l3 := (BoxC.of (show _ from D9.out)).ls
      rw [X1l.out] at l3
      cases d with
      | false =>
        go_wp2
        go_ret
        exact ⟨rfl, W9.out⟩
      | true =>
        have d2 := d1.out rfl
        go_wp2
        go_ret
        exact ⟨rfl, W9.out⟩
    case neg =>
      have p1 : (za == 0) = false := beq_eq_false_iff_ne.2 h1
      replace h1 := hid h1
      cases d with
      | false =>
        go_wp2_with (first
          | (with_reducible refine Zac rfl 27 rfl zChC YkN ?_)
          | ((with_reducible refine stW 12 43 _ 27 zChC ?_ ?_ ?_ ?_ ?_); exact e7.out; exact YkJ cy s7; rfl; exact YkR cy s7; intro w8 hgS hbS hsS; have X8 := hid (Zan rfl hbS); have F8 := hid (Zae (l := chV cy s7) hgS); clear hgS hbS hsS; have C8 := hid (Zab X8.out C7.out); have S8 := hid (Zab X8.out S7.out); have I8 := hid (I7.out.bel X8.out); have H8 := hid (H7.out.bel X8.out (Vx4 hlow.out W7.out.size)); have W8 := hid (W7.out.trans (X8.out.mono W7.out.size)); have N8 := hid (N7.out.bel X8.out); have D8 := hid (Zab X8.out D7.out); have J8 := hid (J7.out.bel X8.out); clear C7 S7 I7 H7 W7 N7 D7 J7; have l1 := (BoxC.of (show _ from C8.out)).ls))
        go_ret
        exact ⟨rfl, W8.out⟩
      | true =>
        have d2 := d1.out rfl
        go_wp2_with (first
          | (with_reducible refine Zac rfl 27 rfl zChC YkN ?_)
          | ((with_reducible refine stW 12 43 _ 27 zChC ?_ ?_ ?_ ?_ ?_); exact e7.out; exact YkJ cy s7; rfl; exact YkR cy s7; intro w8 hgS hbS hsS; have X8 := hid (Zan rfl hbS); have F8 := hid (Zae (l := chV cy s7) hgS); clear hgS hbS hsS; have C8 := hid (Zab X8.out C7.out); have S8 := hid (Zab X8.out S7.out); have I8 := hid (I7.out.bel X8.out); have H8 := hid (H7.out.bel X8.out (Vx4 hlow.out W7.out.size)); have W8 := hid (W7.out.trans (X8.out.mono W7.out.size)); have N8 := hid (N7.out.bel X8.out); have D8 := hid (Zab X8.out D7.out); have J8 := hid (J7.out.bel X8.out); clear C7 S7 I7 H7 W7 N7 D7 J7; have l1 := (BoxC.of (show _ from C8.out)).ls))
        go_ret
        exact ⟨rfl, W8.out⟩
end Go.Proofs.YtiglglcfcfjigaaGreatDoor.chainSound
