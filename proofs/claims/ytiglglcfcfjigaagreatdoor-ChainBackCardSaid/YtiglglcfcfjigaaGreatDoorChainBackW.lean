/-
  The walk of ChainBack.
-/
import Derived.ProofKit
import Derived.ShutString
import Derived.ChangeOld
import Derived.Below
import Derived.Test.YtiglglcfcfjigaaGreatDoorAlive17
import Derived.Test.YtiglglcfcfjigaaGreatDoorCaD
namespace Go.Proofs.YtiglglcfcfjigaaGreatDoor.chainBack
open Go.ChangeShapes Go.WideShapes Go.ChangeAt Go.RowKit
open Go.ChangeMaps (open_string shut_string)
set_option linter.unusedVariables false

theorem own : ownKnob Tryz.prog.godebug = none := by kernel_rfl
theorem laidOut : laidOutB Tryz.prog = true := by kernel_rfl

/-- WHAT THE WALK IS TOLD OF A SLICE OF INTEGERS THAT CAME IN: it is nil; or it leads to a row of 'cap' cells, the numbers 'zs' (the first 'len' are its elements, the rest its spare room), each fitting its kind. -/
def IsRow (k : IntKind) (w : World) (a : Option Addr) (len cap : Nat) (zs : List Int) : Prop :=
  (a = none ∧ len = 0 ∧ cap = 0 ∧ zs = []) ∨
  ∃ x, a = some x ∧ len ≤ cap ∧ cap ≤ maxLen ∧ zs.length = cap ∧ (∀ i, i < zs.length → w.cell? (x.add i) = some (.int k (zs.getD i 0))) ∧ ∀ n ∈ zs, (Lit.int k n).wf = true

/-! ### the walk -/
open Go.Proofs.YtiglglcfcfjigaaGreatDoor
set_option maxRecDepth 100000
theorem Ym7 (w : World) (c : Ch) (s : ChS) (l m q : List Value) (t u v x : TypeId) :
    let W := (((w.alloc (.cells (chV c s).toArray t)).alloc (.cells l.toArray u)).alloc (.cells m.toArray v)).alloc (.cells q.toArray x)
    W.rangeAt w.heap.size 0 (chV c s) ∧ W.rangeAt (w.heap.size + 1) 0 l ∧ W.rangeAt (w.heap.size + 1 + 1) 0 m ∧ W.rangeAt (w.heap.size + 1 + 1 + 1) 0 q ∧ Below w.heap.size w W := by
  intro W
  have h1 := Zae (l := chV c s) (Vx0 w (.cells (chV c s).toArray t))
  have h2 := Zae (Vx0 (w.alloc (.cells (chV c s).toArray t)) (.cells l.toArray u))
  have h3 := Zae (Vx0 ((w.alloc (.cells (chV c s).toArray t)).alloc (.cells l.toArray u)) (.cells m.toArray v))
  have h4 := Zae (Vx0 (((w.alloc (.cells (chV c s).toArray t)).alloc (.cells l.toArray u)).alloc (.cells m.toArray v)) (.cells q.toArray x))
  simp only [Vx2] at h2 h3 h4
  exact ⟨Zab (Zad _ _) (Zab (Zad _ _) (Zab (Zad _ _) h1)), Zab (Zad _ _) (Zab (Zad _ _) h2), Zab (Zad _ _) h3, h4, Zag (Zag (Zag (Zad _ _) (Zad _ _)) (Zad _ _)) (Zad _ _)⟩
set_option maxHeartbeats 16000000 in
theorem walk (x0 : Ch) (vs0 : List Value) (x1 : Bd) (vs1 : List Value) (x2 : Bd) (vs2 : List Value) (l3 : List UInt8) (w : World) (w0 : Enc.rep (fun b => b < w.heap.size) w x0 vs0) (w1 : Enc.rep (fun b => b < w.heap.size) w x1 vs1) (w2 : Enc.rep (fun b => b < w.heap.size) w x2 vs2) (w3 : l3.length = 32) (hT : Tab w) :
    Calls Tryz.prog 7 #[.agg vs0.toArray, .agg vs1.toArray, .agg vs2.toArray, .agg (l3.map bv).toArray] w fun e w' => e = .returned (.bool true) ∧ Below w.heap.size w w' := by
  obtain ⟨A0, k0, L0, m0, rfl, ⟨hc0, hm0, hr⟩, hI, hl0, hml, hlr⟩ := Ynu w0
  obtain ⟨D0, d0, X0, e0, rfl, ⟨hd1, hd2, hdr⟩, ⟨hx1, hx2, hxr⟩⟩ := Zvg w1
  obtain ⟨D1, d1, X1, e1, rfl, ⟨hd3, hd4, hdr1⟩, ⟨hx3, hx4, hxr1⟩⟩ := Zvg w2
  obtain ⟨ads, axs⟩ := x1
  obtain ⟨bds, bxs⟩ := x2
  obtain ⟨box, rfl⟩ : ∃ k : Dg, l3 = k.1 := ⟨⟨l3, w3⟩, rfl⟩
  generalize x0 = c at *
  dsimp only at *
  obtain ⟨s0, hs0⟩ : ∃ s : ChS, s = ⟨A0, k0, L0, m0⟩ := ⟨_, rfl⟩
  have hv0 : ([.slice A0 c.t.ns.length k0, .int .i64 c.t.root, .slice L0 c.ls.length m0] : List Value) = chV c s0 := by rw [hs0]; rfl
  have i0 : ChIn (fun b => b < w.heap.size) w c s0 := by rw [hs0]; exact ⟨hr, hlr, hc0, hl0⟩
  have hcm : c.t.ns.length ≤ 9223372036854775807 := by unfold maxLen at hm0; omega
  have hcl : c.ls.length ≤ 9223372036854775807 := by unfold maxLen at hml; omega
  rw [hv0]
  clear hs0 hv0
  obtain ⟨C0, A0', B0, S0, W0⟩ := Ym7 w c s0 [.slice D0 ads.length d0, .slice X0 axs.length e0] [.slice D1 bds.length d1, .slice X1 bxs.length e1] (box.1.map bv) 27 35 35 37
  have huc := Tryz.underlying27
  have hut := Tryz.underlying24
  have hub := Tryz.underlying35
  have hu := Tryz.underlying37
  have hul := Tryz.underlying77
  have hiS := hid (Zaz box)
  have I0 := hid (i0.bel W0)
  have P0 := hid (hdr.bel W0)
  have Q0 := hid (hxr.bel W0)
  have U0 := hid (hdr1.bel W0)
  have V0 := hid (hxr1.bel W0)
  have H0 := hid (hT.bel W0 hT.low)
  have hlow := hid hT.low
  have hAl := hid (fun W hW => YlO W hW)
  obtain ⟨g1, hg1⟩ : ∃ v, greatC c 5 = v := ⟨_, rfl⟩
  obtain ⟨g2, hg2⟩ : ∃ v, greatB ads.length axs.length = v := ⟨_, rfl⟩
  obtain ⟨g3, hg3⟩ : ∃ v, greatB bds.length bxs.length = v := ⟨_, rfl⟩
  have hGr := hid (fun W h => hg1 ▸ Ylz (fun b => b < w.heap.size) c s0 5 W h hcm hcl)
  have hGa := hid (fun W => hg2 ▸ Zgi D0 d0 ads.length X0 e0 axs.length W)
  have hGb := hid (fun W => hg3 ▸ Zgi D1 d1 bds.length X1 e1 bxs.length W)
  replace hg1 := hid hg1
  replace hg2 := hid hg2
  replace hg3 := hid hg3
  replace C0 := hid C0
  replace A0' := hid A0'
  replace B0 := hid B0
  replace S0 := hid S0
  replace W0 := hid W0
  clear hr hlr hdr hxr hdr1 hxr1 w0 w1 w2 w3 hI i0 hT
  go_enter Tryz.func7, Tryz.ntmps7
  go_wp2_with fail
  generalize (((w.alloc (.cells (chV c s0).toArray 27)).alloc (.cells #[.slice D0 ads.length d0, .slice X0 axs.length e0] 35)).alloc (.cells #[.slice D1 bds.length d1, .slice X1 bxs.length e1] 35)).alloc (.cells (box.1.map bv).toArray 37) = w0 at *
  rename Hid (w0.rangeAt (w.heap.size + 1) 0 _) => Y0
  refine (hAl.out _ H0.out).mono ?_
  rintro e w1 ⟨rfl, hb⟩
  have C1 := hid (Zab hb C0.out)
  have Y1 := hid (Zab hb Y0.out)
  have B1 := hid (Zab hb B0.out)
  have S1 := hid (Zab hb S0.out)
  have I1 := hid (I0.out.bel hb)
  have P1 := hid (P0.out.bel hb)
  have Q1 := hid (Q0.out.bel hb)
  have U1 := hid (U0.out.bel hb)
  have V1 := hid (V0.out.bel hb)
  have H1 := hid (H0.out.bel hb (Vx4 hlow.out W0.out.size))
  have W1 := hid (W0.out.trans (hb.mono W0.out.size))
  clear C0 Y0 B0 S0 I0 P0 Q0 U0 V0 H0 W0
  clear hb hAl
  go_wp2_with ((with_reducible refine lDr C1.out (YkJ c s0) huc ?_))
  refine (hGr.out _ I1.out).mono ?_
  rintro e w2 ⟨rfl, hb⟩
  have C2 := hid (Zab hb C1.out)
  have Y2 := hid (Zab hb Y1.out)
  have B2 := hid (Zab hb B1.out)
  have S2 := hid (Zab hb S1.out)
  have I2 := hid (I1.out.bel hb)
  have P2 := hid (P1.out.bel hb)
  have Q2 := hid (Q1.out.bel hb)
  have U2 := hid (U1.out.bel hb)
  have V2 := hid (V1.out.bel hb)
  have H2 := hid (H1.out.bel hb (Vx4 hlow.out W1.out.size))
  have W2 := hid (W1.out.trans (hb.mono W1.out.size))
  clear C1 Y1 B1 S1 I1 P1 Q1 U1 V1 H1 W1
  clear hb hGr
  cases g1 with
  | true =>
    go_wp2
    go_ret
    exact ⟨rfl, W2.out⟩
  | false =>
  go_wp2_with ((with_reducible refine lDr Y2.out (ZfA _ _) hub ?_))
  refine (hGa.out _).mono ?_
  rintro e w3 ⟨rfl, hb⟩
  have C3 := hid (Zab hb C2.out)
  have Y3 := hid (Zab hb Y2.out)
  have B3 := hid (Zab hb B2.out)
  have S3 := hid (Zab hb S2.out)
  have I3 := hid (I2.out.bel hb)
  have P3 := hid (P2.out.bel hb)
  have Q3 := hid (Q2.out.bel hb)
  have U3 := hid (U2.out.bel hb)
  have V3 := hid (V2.out.bel hb)
  have H3 := hid (H2.out.bel hb (Vx4 hlow.out W2.out.size))
  have W3 := hid (W2.out.trans (hb.mono W2.out.size))
  clear C2 Y2 B2 S2 I2 P2 Q2 U2 V2 H2 W2
  clear hb hGa
  cases g2 with
  | true =>
    go_wp2
    go_ret
    exact ⟨rfl, W3.out⟩
  | false =>
  go_wp2_with ((with_reducible refine lDr B3.out (ZfA _ _) hub ?_))
  refine (hGb.out _).mono ?_
  rintro e w4 ⟨rfl, hb⟩
  have C4 := hid (Zab hb C3.out)
  have Y4 := hid (Zab hb Y3.out)
  have B4 := hid (Zab hb B3.out)
  have S4 := hid (Zab hb S3.out)
  have I4 := hid (I3.out.bel hb)
  have P4 := hid (P3.out.bel hb)
  have Q4 := hid (Q3.out.bel hb)
  have U4 := hid (U3.out.bel hb)
  have V4 := hid (V3.out.bel hb)
  have H4 := hid (H3.out.bel hb (Vx4 hlow.out W3.out.size))
  have W4 := hid (W3.out.trans (hb.mono W3.out.size))
  clear C3 Y3 B3 S3 I3 P3 Q3 U3 V3 H3 W3
  clear hb hGb
  cases g3 with
  | true =>
    go_wp2
    go_ret
    exact ⟨rfl, W4.out⟩
  | false =>
  obtain ⟨cb9, cl5, cx9⟩ := Ynb hg1.out (by decide)
  obtain ⟨la1, la2⟩ := Ylg hg2.out
  obtain ⟨lb1, lb2⟩ := Ylg hg3.out
  have cb5 : ChB 50000 c := ⟨by have := cb9.ns; omega, cb9.ls, cb9.xs⟩
  obtain ⟨za, hza⟩ : ∃ z, addE c ads axs box = z := ⟨_, rfl⟩
  obtain ⟨zb, hzb⟩ : ∃ z, addE c bds bxs box = z := ⟨_, rfl⟩
  have hA1 := hid (fun W (hi : ChIn (fun b => b < w.heap.size) W c s0) (hD : Row (fun b => b < w.heap.size) W D0 ads) (hX : Row (fun b => b < w.heap.size) W X0 axs) hT => YmK (d := d0) (e := e0) (box := box) hi cb5 hD hX (by omega) (by omega) hT za (AddOk c ads axs box) hza (fun cc h => h))
  have hA2 := hid (fun W (hi : ChIn (fun b => b < w.heap.size) W c s0) (hD : Row (fun b => b < w.heap.size) W D1 bds) (hX : Row (fun b => b < w.heap.size) W X1 bxs) hT => YmK (d := d1) (e := e1) (box := box) hi cb5 hD hX (by omega) (by omega) hT zb (AddOk c bds bxs box) hzb (fun cc h => h))
  have hA3 := hid (fun (B : Nat) (cb : Ch) (s : ChS) W (hi : ChIn (fun b => B ≤ b) W cb s) (hB : ChB 50000 cb) (hD : Row (fun b => b < w.heap.size) W D1 bds) (hX : Row (fun b => b < w.heap.size) W X1 bxs) hT (h0 : addE cb bds bxs box = 0) => YmK (d := d1) (e := e1) (box := box) hi hB hD hX (by omega) (by omega) hT 0 (AddOk cb bds bxs box) h0 (fun cc h => h))
  have hCt := hid (fun (B : Nat) (x cb : Ch) (s : ChS) W (h : ChIn (fun b => B ≤ b) W x s) (hB : ChB 50000 x) hT (h1 : cutE x ((c.ls.length - 1 : Nat) : Int) = 0) (h2 : cutR x ((c.ls.length - 1 : Nat) : Int) = cb) => Yns h hB hT 0 cb h1 h2)
  have hXb := hid (fun x (h : AddOk c ads axs box x) => (show ChB 50000 x ∧ x.ls.length ≤ 6 from ⟨⟨by have := (YlM (N := 900) cb9 (by omega) (by omega) (by omega) h).1.ns; omega, (YlM (N := 900) cb9 (by omega) (by omega) (by omega) h).1.ls, (YlM (N := 900) cb9 (by omega) (by omega) (by omega) h).1.xs⟩, by have := (YlM (N := 900) cb9 (by omega) (by omega) (by omega) h).2; omega⟩))
  have hYb := hid (fun x (h : AddOk c bds bxs box x) => (show x.ls.length ≤ 6 ∧ ∀ l ∈ x.ls, l.ds.length ≤ 1000 ∧ l.xs.length ≤ 1000 ∧ l.rs.length ≤ 1000000 from ⟨by have := (YlM (N := 900) cb9 (by omega) (by omega) (by omega) h).2; omega, (YlM (N := 900) cb9 (by omega) (by omega) (by omega) h).1.xs⟩))
  have hFa := hid (fun x y (h1 : za = 0) (h2 : zb = 0) hx hy => Yma (hza.trans h1) (hzb.trans h2) (x := x) (y := y) hx hy)
  have hcx := hid cb5.xs
  have hcn := hid cb5.ns
  have hSt := hid (fun (F : Nat → Prop) (c' : Ch) (s : ChS) (j : Nat) (l : Lk) (ps : List Pr) W (h : ChIn F W c' s) (hB : ChB 50000 c') hT (ht : TellsJ c' l j ps) => (show Calls Tryz.prog 11 #[.agg (chV c' s).toArray, .int .i64 (j : Int)] W fun e w' => ∃ A' k', e = .returned (.tuple #[.agg #[.slice A' c'.t.ns.length k', .int .i64 l.root], .int .i64 0]) ∧ OwnR 106 w' W.heap.size A' k' c'.t.ns ∧ Below W.heap.size W w' from by
    have := Ylk F c' s (j : Int) W h ⟨by have := hB.ns; omega, hB.ls, hB.xs⟩ hT
    rw [ht.1, ht.2.1] at this
    exact this))
  have hPs := hid (fun (F : Nat → Prop) (c' : Ch) (A : Option Addr) (k : Nat) (l : Lk) (j : Nat) (ps : List Pr) W (h : Row F W A c'.t.ns) (ht : TellsJ c' l j ps) => (show Calls Tryz.prog 33 #[.agg #[.slice A c'.t.ns.length k, .int .i64 l.root]] W fun e w' => ∃ A' k', e = .returned (.tuple #[.slice A' ps.length k', .int .i64 0]) ∧ OwnR 43 w' W.heap.size A' k' ps ∧ Below W.heap.size W w' from by
    have := ZbN F A k c'.t.ns l.root W h ht.2.2.2.2
    rw [ht.2.2.1, ht.2.2.2.1] at this
    exact this))
  have cI5 := hid cb5
  have hSp := hid (fun (F G : Nat → Prop) (A D : Option Addr) (k d : Nat) (ps : List Pr) W (h1 : Row F W A ps) (h2 : Row G W D ps) (hl : ps.length ≤ 1000000) => (show Calls Tryz.prog 34 #[.slice A ps.length k, .slice D ps.length d] W fun e w' => e = .returned (.bool true) ∧ Below W.heap.size W w' from by
    have := ZbH F G A D k d ps.length ps.length ps ps W h1 h2 rfl rfl (by omega) (by omega)
    rw [Vy2 rfl] at this
    exact this))
  have hSk := hid (fun (F G : Nat → Prop) (x y : Lk) (s t : LkS) W (h1 : LkOk F W x s) (h2 : LkOk G W y t) (hy : y.ds.length ≤ 1000 ∧ y.xs.length ≤ 1000 ∧ y.rs.length ≤ 1000000) (hxy : sameK x y = true) => (show Calls Tryz.prog 35 #[.agg (lkC x s).toArray, .agg (lkC y t).toArray] W fun e w' => e = .returned (.bool true) ∧ Below W.heap.size W w' from by
    obtain ⟨e1, e2, e3, e4⟩ := YmV hxy
    have := Yls F G x y s t W h1 h2 (by rw [e2]; omega) (by rw [e3]; omega) (by rw [e4]; omega) (by omega)
    rw [hxy] at this
    exact this))
  clear cb9 hza hzb cb5 cx9
  go_wp2_with (first
    | (with_reducible refine lDr C4.out (YkJ c s0) huc ?_)
    | (with_reducible refine lDr Y4.out (ZfA _ _) hub ?_)
    | (with_reducible refine lDr S4.out hiS.out hu ?_))
  refine (hA1.out _ I4.out P4.out Q4.out H4.out).mono ?_
  rintro e w5 ⟨cx, s5, rfl, no, hb, hok5⟩
  have C5 := hid (Zab hb C4.out)
  have Y5 := hid (Zab hb Y4.out)
  have B5 := hid (Zab hb B4.out)
  have S5 := hid (Zab hb S4.out)
  have I5 := hid (I4.out.bel hb)
  have P5 := hid (P4.out.bel hb)
  have Q5 := hid (Q4.out.bel hb)
  have U5 := hid (U4.out.bel hb)
  have V5 := hid (V4.out.bel hb)
  have H5 := hid (H4.out.bel hb (Vx4 hlow.out W4.out.size))
  have W5 := hid (W4.out.trans (hb.mono W4.out.size))
  clear C4 Y4 B4 S4 I4 P4 Q4 U4 V4 H4 W4
  have N5 := hid no
  replace hok5 := hid hok5
  clear hb no hA1
  have e5 := hid (Vx0 w5 (.cells zChC 27))
  go_wp2_with (first
    | (with_reducible refine Zac rfl 27 rfl zChC YkN ?_)
    | ((with_reducible refine stW 10 48 _ 27 zChC ?_ ?_ ?_ ?_ ?_); exact e5.out; exact YkJ cx s5; rfl; exact YkR cx s5; intro w6 hgS hbS hsS; have X6 := hid (Zan rfl hbS); have D6 := hid (Zae (l := chV cx s5) hgS); clear hgS hbS hsS; have C6 := hid (Zab X6.out C5.out); have Y6 := hid (Zab X6.out Y5.out); have B6 := hid (Zab X6.out B5.out); have S6 := hid (Zab X6.out S5.out); have I6 := hid (I5.out.bel X6.out); have P6 := hid (P5.out.bel X6.out); have Q6 := hid (Q5.out.bel X6.out); have U6 := hid (U5.out.bel X6.out); have V6 := hid (V5.out.bel X6.out); have H6 := hid (H5.out.bel X6.out (Vx4 hlow.out W5.out.size)); have W6 := hid (W5.out.trans (X6.out.mono W5.out.size)); have N6 := hid (N5.out.bel X6.out); clear C5 Y5 B5 S5 I5 P5 Q5 U5 V5 H5 W5 N5)
    | (with_reducible refine lDr C6.out (YkJ c s0) huc ?_)
    | (with_reducible refine lDr B6.out (ZfA _ _) hub ?_)
    | (with_reducible refine lDr S6.out hiS.out hu ?_))
  refine (hA2.out _ I6.out U6.out V6.out H6.out).mono ?_
  rintro e w7 ⟨cy, s7, rfl, zo, hb, hok7⟩
  have C7 := hid (Zab hb C6.out)
  have Y7 := hid (Zab hb Y6.out)
  have B7 := hid (Zab hb B6.out)
  have S7 := hid (Zab hb S6.out)
  have I7 := hid (I6.out.bel hb)
  have P7 := hid (P6.out.bel hb)
  have Q7 := hid (Q6.out.bel hb)
  have U7 := hid (U6.out.bel hb)
  have V7 := hid (V6.out.bel hb)
  have H7 := hid (H6.out.bel hb (Vx4 hlow.out W6.out.size))
  have W7 := hid (W6.out.trans (hb.mono W6.out.size))
  have N7 := hid (N6.out.bel hb)
  have D7 := hid (Zab hb D6.out)
  clear C6 Y6 B6 S6 I6 P6 Q6 U6 V6 H6 W6 N6 D6
  have Z7 := hid zo
  replace hok7 := hid hok7
  clear hb zo hA2
  clear Y7
  clear P7
  clear Q7
  have e7 := hid (Vx0 w7 (.cells zChC 27))
  by_cases h1 : za = 0
  case neg =>
    have q1 : (za != 0) = true := bne_iff_ne.2 h1
    replace h1 := hid h1
    go_wp2_with (first
      | (with_reducible refine Zac rfl 27 rfl zChC YkN ?_)
      | ((with_reducible refine stW 12 55 _ 27 zChC ?_ ?_ ?_ ?_ ?_); exact e7.out; exact YkJ cy s7; rfl; exact YkR cy s7; intro w8 hgS hbS hsS; have X8 := hid (Zan rfl hbS); have E8 := hid (Zae (l := chV cy s7) hgS); clear hgS hbS hsS; have C8 := hid (Zab X8.out C7.out); have B8 := hid (Zab X8.out B7.out); have S8 := hid (Zab X8.out S7.out); have I8 := hid (I7.out.bel X8.out); have U8 := hid (U7.out.bel X8.out); have V8 := hid (V7.out.bel X8.out); have H8 := hid (H7.out.bel X8.out (Vx4 hlow.out W7.out.size)); have W8 := hid (W7.out.trans (X8.out.mono W7.out.size)); have N8 := hid (N7.out.bel X8.out); have D8 := hid (Zab X8.out D7.out); have Z8 := hid (Z7.out.bel X8.out); clear C7 B7 S7 I7 U7 V7 H7 W7 N7 D7 Z7))
    go_ret
    exact ⟨rfl, W8.out⟩
  case pos =>
  by_cases h2 : zb = 0
  case neg =>
    subst h1
    have q2 : (zb != 0) = true := bne_iff_ne.2 h2
    replace h2 := hid h2
    go_wp2_with (first
      | (with_reducible refine Zac rfl 27 rfl zChC YkN ?_)
      | ((with_reducible refine stW 12 55 _ 27 zChC ?_ ?_ ?_ ?_ ?_); exact e7.out; exact YkJ cy s7; rfl; exact YkR cy s7; intro w8 hgS hbS hsS; have X8 := hid (Zan rfl hbS); have E8 := hid (Zae (l := chV cy s7) hgS); clear hgS hbS hsS; have C8 := hid (Zab X8.out C7.out); have B8 := hid (Zab X8.out B7.out); have S8 := hid (Zab X8.out S7.out); have I8 := hid (I7.out.bel X8.out); have U8 := hid (U7.out.bel X8.out); have V8 := hid (V7.out.bel X8.out); have H8 := hid (H7.out.bel X8.out (Vx4 hlow.out W7.out.size)); have W8 := hid (W7.out.trans (X8.out.mono W7.out.size)); have N8 := hid (N7.out.bel X8.out); have D8 := hid (Zab X8.out D7.out); have Z8 := hid (Z7.out.bel X8.out); clear C7 B7 S7 I7 U7 V7 H7 W7 N7 D7 Z7))
    go_ret
    exact ⟨rfl, W8.out⟩
  case pos =>
  subst h1 h2
  obtain ⟨f1, ⟨f2, f3⟩, f4, f5, f6, f7, f8⟩ := hFa.out cx cy rfl rfl hok5.out hok7.out
  have hwn : IntKind.i64.wrap ((c.ls.length : Int) - 1) = ((c.ls.length - 1 : Nat) : Int) := by rw [IntKind.wrap_i64]; omega
  have hwm : IntKind.i64.wrap ((c.ls.length : Int) + 1) = ((c.ls.length + 1 : Nat) : Int) := by rw [IntKind.wrap_i64]; omega
  obtain ⟨xb5, xl5⟩ := hXb.out cx hok5.out
  obtain ⟨yl5, yx5⟩ := hYb.out cy hok7.out
  obtain ⟨cb, hcb⟩ : ∃ v, cutC cx (c.ls.length - 1) = v := ⟨_, rfl⟩
  rw [hcb] at f3 f4 f5 f6 f7 f8
  have K1 := hid xb5
  have K2 := hid f2
  have K3 := hid f3
  have K4 := hid f4
  have K5 := hid (show ChB 50000 cb from ⟨by rw [f5]; exact xb5.ns, by rw [f4]; omega, by rw [f4]; exact hcx.out⟩)
  have K6 := hid f6
  have K7 := hid f7
  have K8 := hid f8
  have K9 := hid yx5
  have hnp := hid f1
  have hy8 := hid yl5
  replace hwn := hid hwn
  replace hwm := hid hwm
  clear f1 f2 f3 f4 f5 f6 f7 f8 xb5 xl5 yl5 yx5 hcb hXb hYb hFa hok5 hok7
  have hwn2 := hwn.out
  go_wp2_with (first
    | (with_reducible refine Zac rfl 27 rfl zChC YkN ?_)
    | ((with_reducible refine stW 12 55 _ 27 zChC ?_ ?_ ?_ ?_ ?_); exact e7.out; exact YkJ cy s7; rfl; exact YkR cy s7; intro w8 hgS hbS hsS; have X8 := hid (Zan rfl hbS); have E8 := hid (Zae (l := chV cy s7) hgS); clear hgS hbS hsS; have C8 := hid (Zab X8.out C7.out); have B8 := hid (Zab X8.out B7.out); have S8 := hid (Zab X8.out S7.out); have I8 := hid (I7.out.bel X8.out); have U8 := hid (U7.out.bel X8.out); have V8 := hid (V7.out.bel X8.out); have H8 := hid (H7.out.bel X8.out (Vx4 hlow.out W7.out.size)); have W8 := hid (W7.out.trans (X8.out.mono W7.out.size)); have N8 := hid (N7.out.bel X8.out); have D8 := hid (Zab X8.out D7.out); have Z8 := hid (Z7.out.bel X8.out); clear C7 B7 S7 I7 U7 V7 H7 W7 N7 D7 Z7; have l8 := (BoxC.of (show _ from C8.out)).ls)
    | (with_reducible refine lDr D8.out (YkJ cx s5) huc ?_))
  clear hwn2 l8
  refine (hCt.out _ cx cb s5 _ N8.out.inn K1.out H8.out K2.out K3.out).mono ?_
  rintro e w9 ⟨s9, rfl, jo, hb⟩
  have C9 := hid (Zab hb C8.out)
  have B9 := hid (Zab hb B8.out)
  have S9 := hid (Zab hb S8.out)
  have I9 := hid (I8.out.bel hb)
  have U9 := hid (U8.out.bel hb)
  have V9 := hid (V8.out.bel hb)
  have H9 := hid (H8.out.bel hb (Vx4 hlow.out W8.out.size))
  have W9 := hid (W8.out.trans (hb.mono W8.out.size))
  have N9 := hid (N8.out.bel hb)
  have D9 := hid (Zab hb D8.out)
  have Z9 := hid (Z8.out.bel hb)
  have E9 := hid (Zab hb E8.out)
  clear C8 B8 S8 I8 U8 V8 H8 W8 N8 D8 Z8 E8
  have J9 := hid jo
  clear hb jo hCt
  have e9 := hid (Vx0 w9 (.cells zChC 27))
  go_wp2_with (first
    | (with_reducible refine Zac rfl 27 rfl zChC YkN ?_)
    | ((with_reducible refine stW 14 71 _ 27 zChC ?_ ?_ ?_ ?_ ?_); exact e9.out; exact YkJ cb s9; rfl; exact YkR cb s9; intro w10 hgS hbS hsS; have X10 := hid (Zan rfl hbS); have F10 := hid (Zae (l := chV cb s9) hgS); clear hgS hbS hsS; have C10 := hid (Zab X10.out C9.out); have B10 := hid (Zab X10.out B9.out); have S10 := hid (Zab X10.out S9.out); have I10 := hid (I9.out.bel X10.out); have U10 := hid (U9.out.bel X10.out); have V10 := hid (V9.out.bel X10.out); have H10 := hid (H9.out.bel X10.out (Vx4 hlow.out W9.out.size)); have W10 := hid (W9.out.trans (X10.out.mono W9.out.size)); have N10 := hid (N9.out.bel X10.out); have D10 := hid (Zab X10.out D9.out); have Z10 := hid (Z9.out.bel X10.out); have E10 := hid (Zab X10.out E9.out); have J10 := hid (J9.out.bel X10.out); clear C9 B9 S9 I9 U9 V9 H9 W9 N9 D9 Z9 E9 J9)
    | (with_reducible refine lDr F10.out (YkJ cb s9) huc ?_)
    | (with_reducible refine lDr B10.out (ZfA _ _) hub ?_)
    | (with_reducible refine lDr S10.out hiS.out hu ?_))
  refine (hA3.out _ cb s9 _ J10.out.inn K5.out U10.out V10.out H10.out K6.out).mono ?_
  rintro e w11 ⟨cz, s11, rfl, ro, hb, hok11⟩
  have C11 := hid (Zab hb C10.out)
  have B11 := hid (Zab hb B10.out)
  have S11 := hid (Zab hb S10.out)
  have I11 := hid (I10.out.bel hb)
  have U11 := hid (U10.out.bel hb)
  have V11 := hid (V10.out.bel hb)
  have H11 := hid (H10.out.bel hb (Vx4 hlow.out W10.out.size))
  have W11 := hid (W10.out.trans (hb.mono W10.out.size))
  have N11 := hid (N10.out.bel hb)
  have D11 := hid (Zab hb D10.out)
  have Z11 := hid (Z10.out.bel hb)
  have E11 := hid (Zab hb E10.out)
  have J11 := hid (J10.out.bel hb)
  have F11 := hid (Zab hb F10.out)
  clear C10 B10 S10 I10 U10 V10 H10 W10 N10 D10 Z10 E10 J10 F10
  have R11 := hid ro
  replace hok11 := hid hok11
  clear hb ro hA3
  obtain ⟨z1, z2, z3⟩ := K8.out cz hok11.out
  have K10 := hid z1
  have K11 := hid z2
  have K12 := hid z3
  clear z1 z2 z3 hok11
  have e11 := hid (Vx0 w11 (.cells zChC 27))
  have hwm2 := hwm.out
  have n1 : ((c.ls.length : Int) != (c.ls.length : Int)) = false := by simp
  have n2 : (((c.ls.length + 1 : Nat) : Int) != ((c.ls.length + 1 : Nat) : Int)) = false := by simp
  go_wp2_with (first
    | (with_reducible refine Zac rfl 27 rfl zChC YkN ?_)
    | ((with_reducible refine stW 16 78 _ 27 zChC ?_ ?_ ?_ ?_ ?_); exact e11.out; exact YkJ cz s11; rfl; exact YkR cz s11; intro w12 hgS hbS hsS; have X12 := hid (Zan rfl hbS); have G12 := hid (Zae (l := chV cz s11) hgS); clear hgS hbS hsS; have C12 := hid (Zab X12.out C11.out); have B12 := hid (Zab X12.out B11.out); have S12 := hid (Zab X12.out S11.out); have I12 := hid (I11.out.bel X12.out); have U12 := hid (U11.out.bel X12.out); have V12 := hid (V11.out.bel X12.out); have H12 := hid (H11.out.bel X12.out (Vx4 hlow.out W11.out.size)); have W12 := hid (W11.out.trans (X12.out.mono W11.out.size)); have N12 := hid (N11.out.bel X12.out); have D12 := hid (Zab X12.out D11.out); have Z12 := hid (Z11.out.bel X12.out); have E12 := hid (Zab X12.out E11.out); have J12 := hid (J11.out.bel X12.out); have F12 := hid (Zab X12.out F11.out); have R12 := hid (R11.out.bel X12.out); clear C11 B11 S11 I11 U11 V11 H11 W11 N11 D11 Z11 E11 J11 F11 R11; have l1 := (BoxC.of (show _ from C12.out)).ls; have l2 := (BoxC.of (show _ from F12.out)).ls; have l3 := (BoxC.of (show _ from G12.out)).ls; have l4 := (BoxC.of (show _ from E12.out)).ls; rw [K4.out] at l2; rw [K10.out] at l3; rw [K11.out] at l4))
  clear hwm2 n1 n2 l1 l2 l3 l4 hwn hwm
  go_loopw [18] (fun i w20 => ∃ j : Nat, j ≤ c.ls.length ∧ i = .int .i64 j ∧ Below w12.heap.size w12 w20) (fun i _ => c.ls.length - (intOf i).toNat)
  case atStart => exact ⟨0, Nat.zero_le _, rfl, Below.refl _ _⟩
  case round =>
    obtain ⟨j, hj, rfl, hb⟩ := hrel
    have C20 := hid (Zab hb C12.out)
    have B20 := hid (Zab hb B12.out)
    have S20 := hid (Zab hb S12.out)
    have I20 := hid (I12.out.bel hb)
    have U20 := hid (U12.out.bel hb)
    have V20 := hid (V12.out.bel hb)
    have H20 := hid (H12.out.bel hb (Vx4 hlow.out W12.out.size))
    have W20 := hid (W12.out.trans (hb.mono W12.out.size))
    have N20 := hid (N12.out.bel hb)
    have D20 := hid (Zab hb D12.out)
    have Z20 := hid (Z12.out.bel hb)
    have E20 := hid (Zab hb E12.out)
    have J20 := hid (J12.out.bel hb)
    have F20 := hid (Zab hb F12.out)
    have R20 := hid (R12.out.bel hb)
    have G20 := hid (Zab hb G12.out)
    clear C12 B12 S12 I12 U12 V12 H12 W12 N12 D12 Z12 E12 J12 F12 R12 G12
    have y20 := hid hb
    by_cases hlt : j < c.ls.length
    case pos =>
      have l1 := (BoxC.of (show _ from C20.out)).ls
      have hlt2 : (j : Int) < (c.ls.length : Int) := by omega
      obtain ⟨ps, tj1, tj2⟩ := K7.out j hlt
      have hlb := hcx.out _ (List.getElem_mem hlt)
      obtain ⟨b1, o1, hA1, s21, lk1, ok1⟩ := YkS I20.out.ls hlt
      obtain ⟨b2, o2, hA2, s22, lk2, ok2⟩ := YkS J20.out.inn.ls (show j < cb.ls.length by rw [K4.out]; exact hlt)
      have e12 : (cb.ls[j]'(by rw [K4.out]; exact hlt)) = c.ls[j] := by simp only [K4.out]
      rw [e12] at lk2 ok2
      generalize c.ls[j] = lj at *
      have l2 := (BoxC.of (show _ from F20.out)).ls
      rw [hA1] at l1
      rw [hA2, K4.out] at l2
      have hpl : ps.length ≤ 1000000 := by
        have := ZeH tj1.2.2.1 tj1.2.2.2.2
        rwa [← YlG tj1.2.2.1, tj1.2.2.2.1] at this
      have a1 := hid l1
      have a2 := hid l2
      have M20 := hid lk1.all
      have O20 := hid lk2.all
      have P20 := hid ok1
      have Q20 := hid ok2
      replace hA1 := hid hA1
      replace hA2 := hid hA2
      have t1 := hid tj1
      have t2 := hid tj2
      have hlq := hid hlb
      have hpq := hid hpl
      clear lk1 lk2 ok1 ok2 e12 tj1 tj2 hlb hpl l2
      go_wp2_with ((with_reducible refine lDr C20.out (YkJ c s0) huc ?_))
      clear l1
      refine (hSt.out _ c s0 j lj ps _ I20.out cI5.out H20.out t1.out).mono ?_
      rintro e w21 ⟨A21, k21, rfl, ho, hb⟩
      have C21 := hid (Zab hb C20.out)
      have B21 := hid (Zab hb B20.out)
      have S21 := hid (Zab hb S20.out)
      have I21 := hid (I20.out.bel hb)
      have U21 := hid (U20.out.bel hb)
      have V21 := hid (V20.out.bel hb)
      have H21 := hid (H20.out.bel hb (Vx4 hlow.out W20.out.size))
      have W21 := hid (W20.out.trans (hb.mono W20.out.size))
      have N21 := hid (N20.out.bel hb)
      have D21 := hid (Zab hb D20.out)
      have Z21 := hid (Z20.out.bel hb)
      have E21 := hid (Zab hb E20.out)
      have J21 := hid (J20.out.bel hb)
      have F21 := hid (Zab hb F20.out)
      have R21 := hid (R20.out.bel hb)
      have G21 := hid (Zab hb G20.out)
      have y21 := hid (y20.out.trans (hb.mono y20.out.size))
      have M21 := hid (Zab hb M20.out)
      have O21 := hid (Zab hb O20.out)
      have P21 := hid (P20.out.bel hb)
      have Q21 := hid (Q20.out.bel hb)
      clear C20 B20 S20 I20 U20 V20 H20 W20 N20 D20 Z20 E20 J20 F20 R20 G20 y20 M20 O20 P20 Q20
      have L21 := hid (OwnR.row ho)
      clear hb ho 
      have e21 := hid (Vx0 w21 (.cells zTrC 24))
      have hiT := hid (show (Tryz.prog.info? 24).map (·.size) = some ([Value.slice A21 c.t.ns.length k21, .int .i64 lj.root]).length from Zah)
      go_wp2_with (first
        | (with_reducible refine Zac rfl 24 rfl zTrC Zas ?_)
        | ((with_reducible refine stW 19 125 _ 24 zTrC ?_ ?_ ?_ ?_ ?_); exact e21.out; exact Zah; rfl; exact Zat A21 c.t.ns.length k21 lj.root; intro w22 hgS hbS hsS; have X22 := hid (Zan rfl hbS); have lt22 := hid (block_lt hgS); have T22 := hid (BoxT.of (Zae (l := [Value.slice A21 c.t.ns.length k21, .int .i64 lj.root]) hgS)); clear hgS hbS hsS; have C22 := hid (Zab X22.out C21.out); have B22 := hid (Zab X22.out B21.out); have S22 := hid (Zab X22.out S21.out); have I22 := hid (I21.out.bel X22.out); have U22 := hid (U21.out.bel X22.out); have V22 := hid (V21.out.bel X22.out); have H22 := hid (H21.out.bel X22.out (Vx4 hlow.out W21.out.size)); have W22 := hid (W21.out.trans (X22.out.mono W21.out.size)); have N22 := hid (N21.out.bel X22.out); have D22 := hid (Zab X22.out D21.out); have Z22 := hid (Z21.out.bel X22.out); have E22 := hid (Zab X22.out E21.out); have J22 := hid (J21.out.bel X22.out); have F22 := hid (Zab X22.out F21.out); have R22 := hid (R21.out.bel X22.out); have G22 := hid (Zab X22.out G21.out); have y22 := hid (y21.out.trans (X22.out.mono y21.out.size)); have M22 := hid (Zab X22.out M21.out); have O22 := hid (Zab X22.out O21.out); have P22 := hid (P21.out.bel X22.out); have Q22 := hid (Q21.out.bel X22.out); have L22 := hid (L21.out.bel X22.out); clear C21 B21 S21 I21 U21 V21 H21 W21 N21 D21 Z21 E21 J21 F21 R21 G21 y21 M21 O21 P21 Q21 L21)
        | (with_reducible refine lDr F22.out (YkJ cb s9) huc ?_))
      refine (hSt.out _ cb s9 j lj ps _ J22.out.inn K5.out H22.out t2.out).mono ?_
      rintro e w23 ⟨A23, k23, rfl, ho, hb⟩
      have C23 := hid (Zab hb C22.out)
      have B23 := hid (Zab hb B22.out)
      have S23 := hid (Zab hb S22.out)
      have I23 := hid (I22.out.bel hb)
      have U23 := hid (U22.out.bel hb)
      have V23 := hid (V22.out.bel hb)
      have H23 := hid (H22.out.bel hb (Vx4 hlow.out W22.out.size))
      have W23 := hid (W22.out.trans (hb.mono W22.out.size))
      have N23 := hid (N22.out.bel hb)
      have D23 := hid (Zab hb D22.out)
      have Z23 := hid (Z22.out.bel hb)
      have E23 := hid (Zab hb E22.out)
      have J23 := hid (J22.out.bel hb)
      have F23 := hid (Zab hb F22.out)
      have R23 := hid (R22.out.bel hb)
      have G23 := hid (Zab hb G22.out)
      have y23 := hid (y22.out.trans (hb.mono y22.out.size))
      have M23 := hid (Zab hb M22.out)
      have O23 := hid (Zab hb O22.out)
      have P23 := hid (P22.out.bel hb)
      have Q23 := hid (Q22.out.bel hb)
      have L23 := hid (L22.out.bel hb)
      have T23 := hid (T22.out.bel hb)
      clear C22 B22 S22 I22 U22 V22 H22 W22 N22 D22 Z22 E22 J22 F22 R22 G22 y22 M22 O22 P22 Q22 L22 T22
      have K23 := hid (OwnR.row ho)
      clear hb ho 
      have e23 := hid (Vx0 w23 (.cells zTrC 24))
      have hiY := hid (show (Tryz.prog.info? 24).map (·.size) = some ([Value.slice A23 cb.t.ns.length k23, .int .i64 lj.root]).length from Zah)
      go_wp2_with (first
        | (with_reducible refine Zac rfl 24 rfl zTrC Zas ?_)
        | ((with_reducible refine stW 21 131 _ 24 zTrC ?_ ?_ ?_ ?_ ?_); exact e23.out; exact Zah; rfl; exact Zat A23 cb.t.ns.length k23 lj.root; intro w24 hgS hbS hsS; have X24 := hid (Zan rfl hbS); have lt24 := hid (block_lt hgS); have Y24 := hid (BoxT.of (Zae (l := [Value.slice A23 cb.t.ns.length k23, .int .i64 lj.root]) hgS)); clear hgS hbS hsS; have C24 := hid (Zab X24.out C23.out); have B24 := hid (Zab X24.out B23.out); have S24 := hid (Zab X24.out S23.out); have I24 := hid (I23.out.bel X24.out); have U24 := hid (U23.out.bel X24.out); have V24 := hid (V23.out.bel X24.out); have H24 := hid (H23.out.bel X24.out (Vx4 hlow.out W23.out.size)); have W24 := hid (W23.out.trans (X24.out.mono W23.out.size)); have N24 := hid (N23.out.bel X24.out); have D24 := hid (Zab X24.out D23.out); have Z24 := hid (Z23.out.bel X24.out); have E24 := hid (Zab X24.out E23.out); have J24 := hid (J23.out.bel X24.out); have F24 := hid (Zab X24.out F23.out); have R24 := hid (R23.out.bel X24.out); have G24 := hid (Zab X24.out G23.out); have y24 := hid (y23.out.trans (X24.out.mono y23.out.size)); have M24 := hid (Zab X24.out M23.out); have O24 := hid (Zab X24.out O23.out); have P24 := hid (P23.out.bel X24.out); have Q24 := hid (Q23.out.bel X24.out); have L24 := hid (L23.out.bel X24.out); have T24 := hid (T23.out.bel X24.out); have K24 := hid (K23.out.bel X24.out); clear C23 B23 S23 I23 U23 V23 H23 W23 N23 D23 Z23 E23 J23 F23 R23 G23 y23 M23 O23 P23 Q23 L23 T23 K23)
        | (with_reducible refine lDr T24.out.all hiT.out hut ?_))
      refine (hPs.out _ c A21 k21 lj j ps _ L24.out t1.out).mono ?_
      rintro e w25 ⟨A25, k25, rfl, ho, hb⟩
      have C25 := hid (Zab hb C24.out)
      have B25 := hid (Zab hb B24.out)
      have S25 := hid (Zab hb S24.out)
      have I25 := hid (I24.out.bel hb)
      have U25 := hid (U24.out.bel hb)
      have V25 := hid (V24.out.bel hb)
      have H25 := hid (H24.out.bel hb (Vx4 hlow.out W24.out.size))
      have W25 := hid (W24.out.trans (hb.mono W24.out.size))
      have N25 := hid (N24.out.bel hb)
      have D25 := hid (Zab hb D24.out)
      have Z25 := hid (Z24.out.bel hb)
      have E25 := hid (Zab hb E24.out)
      have J25 := hid (J24.out.bel hb)
      have F25 := hid (Zab hb F24.out)
      have R25 := hid (R24.out.bel hb)
      have G25 := hid (Zab hb G24.out)
      have y25 := hid (y24.out.trans (hb.mono y24.out.size))
      have M25 := hid (Zab hb M24.out)
      have O25 := hid (Zab hb O24.out)
      have P25 := hid (P24.out.bel hb)
      have Q25 := hid (Q24.out.bel hb)
      have L25 := hid (L24.out.bel hb)
      have T25 := hid (T24.out.bel hb)
      have K25 := hid (K24.out.bel hb)
      have Y25 := hid (Y24.out.bel hb)
      clear C24 B24 S24 I24 U24 V24 H24 W24 N24 D24 Z24 E24 J24 F24 R24 G24 y24 M24 O24 P24 Q24 L24 T24 K24 Y24
      have p25 := hid (OwnR.row ho)
      clear hb ho 
      go_wp2_with ((with_reducible refine lDr Y25.out.all hiY.out hut ?_))
      refine (hPs.out _ cb A23 k23 lj j ps _ K25.out t2.out).mono ?_
      rintro e w26 ⟨A26, k26, rfl, ho, hb⟩
      have C26 := hid (Zab hb C25.out)
      have B26 := hid (Zab hb B25.out)
      have S26 := hid (Zab hb S25.out)
      have I26 := hid (I25.out.bel hb)
      have U26 := hid (U25.out.bel hb)
      have V26 := hid (V25.out.bel hb)
      have H26 := hid (H25.out.bel hb (Vx4 hlow.out W25.out.size))
      have W26 := hid (W25.out.trans (hb.mono W25.out.size))
      have N26 := hid (N25.out.bel hb)
      have D26 := hid (Zab hb D25.out)
      have Z26 := hid (Z25.out.bel hb)
      have E26 := hid (Zab hb E25.out)
      have J26 := hid (J25.out.bel hb)
      have F26 := hid (Zab hb F25.out)
      have R26 := hid (R25.out.bel hb)
      have G26 := hid (Zab hb G25.out)
      have y26 := hid (y25.out.trans (hb.mono y25.out.size))
      have M26 := hid (Zab hb M25.out)
      have O26 := hid (Zab hb O25.out)
      have P26 := hid (P25.out.bel hb)
      have Q26 := hid (Q25.out.bel hb)
      have L26 := hid (L25.out.bel hb)
      have T26 := hid (T25.out.bel hb)
      have K26 := hid (K25.out.bel hb)
      have Y26 := hid (Y25.out.bel hb)
      have p26 := hid (p25.out.bel hb)
      clear C25 B25 S25 I25 U25 V25 H25 W25 N25 D25 Z25 E25 J25 F25 R25 G25 y25 M25 O25 P25 Q25 L25 T25 K25 Y25 p25
      have q26 := hid (OwnR.row ho)
      clear hb ho 
      go_wp2
      have l1 := hid (BoxC.of (show _ from C26.out)).ls
      have l2 := hid (BoxC.of (show _ from F26.out)).ls
      rw [hA1.out] at l1
      rw [hA2.out, K4.out] at l2
      have hSe := hid (fun W h1 h2 => hSp.out (fun b => w24.heap.size ≤ b) (fun b => w25.heap.size ≤ b) A25 A26 k25 k26 ps W h1 h2 hpq.out)
      have hSq := hid (fun W h1 h2 => hSk.out (fun b => b < w.heap.size) (fun b => w8.heap.size ≤ b) lj lj s21 s22 W h1 h2 hlq.out (Ymk lj))
      have i1 := hid (YkW lj s21)
      have i2 := hid (YkW lj s22)
      generalize lkC lj s21 = lc1 at *
      generalize lkC lj s22 = lc2 at *
      refine rgB fun hHeld => ?_
      refine' tkW 0 1 ?_
      refine' tkW 2 3 ?_
      simp only [sQ]
      refine' tkW 4 5 ?_
      refine' tkW 6 7 ?_
      simp only [sQ]
      refine' tkW 8 9 ?_
      refine' tkW 10 11 ?_
      simp only [sQ]
      refine' tkW 12 13 ?_
      refine' tkW 14 15 ?_
      simp only [sQ]
      refine' tkP 16 rfl ?_
      simp only [sQ]
      refine rdC 17 rfl (hSe.out _ (p26.out.bel hHeld) (q26.out.bel hHeld)) fun v1 hB hHeld => ?_
      try simp only [sQ]
      refine' tkW 18 19 ?_
      refine' tkW 20 21 ?_
      simp only [sQ]
      refine' tkC 22 rfl l1 ?_
      refine' tkW 23 24 ?_
      refine' tkM 25 rfl (fun _ h => Zab h M26.out) hul i1.out ?_
      simp only [sQ]
      refine' tkP 26 rfl ?_
      refine' tkC 27 rfl l2 ?_
      refine' tkW 28 29 ?_
      simp only [sQ]
      refine' tkM 30 rfl (fun _ h => Zab h O26.out) hul i2.out ?_
      simp only [sQ]
      refine rdC 31 rfl (hSq.out _ (P26.out.bel hHeld) (Q26.out.bel hHeld)) fun v2 hB hHeld => ?_
      try simp only [sQ]
      refine' tkW 32 33 ?_
      simp only [sQ]
      refine dnN ?_
      have Z27 := hid (y26.out.trans (hHeld.mono y26.out.size))
      clear hHeld
      go_wp2
      go_roundw
      case rel => exact ⟨j + 1, by omega, by go_num, Z27.out⟩
      case measure => simp [intOf]; omega
    case neg =>
      obtain rfl : j = c.ls.length := by omega
      have l1 := (BoxC.of (show _ from C20.out)).ls
      have nq : (c.ls.length : Int) < (c.ls.length : Int) + 1 := by omega
      have l1' := hid l1
      obtain ⟨p1, p2, p3⟩ := K12.out
      obtain ⟨b1, o1, hA1, s21, lk1, ok1⟩ := YkS R20.out.inn.ls p1
      obtain ⟨b2, o2, hA2, s22, lk2, ok2⟩ := YkS Z20.out.inn.ls p2
      have hlb := hid (K9.out _ (List.getElem_mem p2))
      generalize cz.ls[c.ls.length] = x1 at *
      generalize cy.ls[c.ls.length] = x2 at *
      have l3 := hid (BoxC.of (show _ from G20.out)).ls
      have l4 := hid (BoxC.of (show _ from E20.out)).ls
      rw [hA1, K10.out] at l3
      rw [hA2, K11.out] at l4
      have i1 := hid (YkW x1 s21)
      have i2 := hid (YkW x2 s22)
      have M20 := hid lk1.all
      have O20 := hid lk2.all
      have P20 := hid ok1
      have Q20 := hid ok2
      have hSq := hid (fun W h1 h2 => hSk.out (fun b => w10.heap.size ≤ b) (fun b => w6.heap.size ≤ b) x1 x2 s21 s22 W h1 h2 hlb.out p3)
      generalize lkC x1 s21 = lc1 at *
      generalize lkC x2 s22 = lc2 at *
      replace hA1 := hid hA1
      replace hA2 := hid hA2
      clear lk1 lk2 ok1 ok2 p1 p2 p3
      go_wp2
      refine rgB fun hHeld => ?_
      refine' tkW 0 1 ?_
      refine' tkP 2 rfl ?_
      refine' tkC 3 rfl l3.out ?_
      simp only [sQ]
      refine' tkP 4 rfl ?_
      refine' tkC 5 rfl l1'.out ?_
      refine' tkW 6 7 ?_
      simp only [sQ]
      refine' tkM 8 rfl (fun _ h => Zab h M20.out) hul i1.out ?_
      refine' tkP 9 rfl ?_
      refine' tkC 10 rfl l4.out ?_
      refine' tkP 11 rfl ?_
      simp only [sQ]
      refine' tkC 12 rfl l1'.out ?_
      refine' tkW 13 14 ?_
      refine' tkM 15 rfl (fun _ h => Zab h O20.out) hul i2.out ?_
      simp only [sQ]
      refine rdC 16 rfl (hSq.out _ (P20.out.bel hHeld) (Q20.out.bel hHeld)) fun v2 hB hHeld => ?_
      try simp only [sQ]
      refine' tkW 17 18 ?_
      simp only [sQ]
      refine dnN ?_
      go_wp2
      go_ret
      exact ⟨rfl, W20.out.trans (hHeld.mono W20.out.size)⟩
end Go.Proofs.YtiglglcfcfjigaaGreatDoor.chainBack
