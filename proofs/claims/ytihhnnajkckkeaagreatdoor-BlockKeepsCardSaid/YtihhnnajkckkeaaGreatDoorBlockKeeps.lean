/-
  The Go function BlockKeeps returns true: the total becomes more by the deposits whose code is OK, and by nothing else: any tree, parent, body and box; its arguments read afterwards as before.
  Conditions: none. The frame around the walk was written by program (proof-skeleton.mjs).
-/
import Derived.Test.YtihhnnajkckkeaaGreatDoorRows
import Derived.Test.YtihhnnajkckkeaaGreatDoorDoor
import Derived.WalkKit
import Derived.ProofKit
import Derived.OpenShut
import Derived.ShutString
import Derived.ChangeOld
import Derived.Below
import Derived.Test.YtihhnnajkckkeaaGreatDoorAlive16
import Derived.Test.YtihhnnajkckkeaaGreatDoorRf6
import Derived.Test.YtihhnnajkckkeaaGreatDoorRf16
import Derived.Test.YtihhnnajkckkeaaGreatDoorStX
import Derived.Test.YtihhnnajkckkeaaGreatDoorAcL
namespace Go.Proofs.YtihhnnajkckkeaaGreatDoor.blockKeeps
open Go.ChangeShapes Go.WideShapes Go.ChangeAt Go.RowKit
open Go.ChangeMaps (open_string shut_string)
set_option linter.unusedVariables false

theorem own : ownKnob Tryz.prog.godebug = none := by kernel_rfl
theorem laidOut : laidOutB Tryz.prog = true := by kernel_rfl

/-- WHAT THE WALK IS TOLD OF A SLICE OF INTEGERS THAT CAME IN: it is nil; or it leads to a row of 'cap' cells, the numbers 'zs' (the first 'len' are its elements, the rest its spare room), each fitting its kind. -/
def IsRow (k : IntKind) (w : World) (a : Option Addr) (len cap : Nat) (zs : List Int) : Prop :=
  (a = none ∧ len = 0 ∧ cap = 0 ∧ zs = []) ∨
  ∃ x, a = some x ∧ len ≤ cap ∧ cap ≤ maxLen ∧ zs.length = cap ∧ (∀ i, i < zs.length → w.cell? (x.add i) = some (.int k (zs.getD i 0))) ∧ ∀ n ∈ zs, (Lit.int k n).wf = true

/-! ### the walk -/
open Go.Proofs.YtihhnnajkckkeaaGreatDoor
theorem Zf0 (w : World) (A : Option Addr) (n c : Nat) (root : Int) (l m q : List Value) (t u v y : TypeId) :
    BoxT ((((w.alloc (.cells #[.slice A n c, .int .i64 root] t)).alloc (.cells l.toArray u)).alloc (.cells m.toArray v)).alloc (.cells q.toArray y)) w.heap.size A n c root ∧
    ((((w.alloc (.cells #[.slice A n c, .int .i64 root] t)).alloc (.cells l.toArray u)).alloc (.cells m.toArray v)).alloc (.cells q.toArray y)).rangeAt (w.heap.size + 1) 0 l ∧
    ((((w.alloc (.cells #[.slice A n c, .int .i64 root] t)).alloc (.cells l.toArray u)).alloc (.cells m.toArray v)).alloc (.cells q.toArray y)).rangeAt (w.heap.size + 1 + 1) 0 m ∧
    ((((w.alloc (.cells #[.slice A n c, .int .i64 root] t)).alloc (.cells l.toArray u)).alloc (.cells m.toArray v)).alloc (.cells q.toArray y)).rangeAt (w.heap.size + 1 + 1 + 1) 0 q ∧
    Below w.heap.size w ((((w.alloc (.cells #[.slice A n c, .int .i64 root] t)).alloc (.cells l.toArray u)).alloc (.cells m.toArray v)).alloc (.cells q.toArray y)) := by
  have h1 := BoxT.new w A n c root t
  have b1 := Zad w (.cells #[.slice A n c, .int .i64 root] t)
  have h2 := Zae (heap_alloc_new (w.alloc (.cells #[.slice A n c, .int .i64 root] t)) (.cells l.toArray u))
  have h3 := Zae (heap_alloc_new ((w.alloc (.cells #[.slice A n c, .int .i64 root] t)).alloc (.cells l.toArray u)) (.cells m.toArray v))
  have h4 := Zae (heap_alloc_new (((w.alloc (.cells #[.slice A n c, .int .i64 root] t)).alloc (.cells l.toArray u)).alloc (.cells m.toArray v)) (.cells q.toArray y))
  simp only [World.size_alloc] at h2 h3 h4
  exact ⟨((h1.bel (Zad _ _)).bel (Zad _ _)).bel (Zad _ _), Zab (Zad _ _) (Zab (Zad _ _) h2), Zab (Zad _ _) h3, h4, Zag (Zag (Zag b1 (Zad _ _)) (Zad _ _)) (Zad _ _)⟩
theorem Zet {n m : Nat} (h : greatB n m = false) : n ≤ 20 ∧ m ≤ 20 := by
  unfold greatB bigB at h
  simp at h
  omega
theorem Yhj {W : World} {g o : Nat} {x : Rc} (h : W.rangeAt g o (rcC x)) : W.cell? ⟨g, o + 33, none⟩ = some (.int .i64 x.c) := by
  have h1 := Zdx (rcS x) o 2 (by simp [rcS]) h
  simp [rcS, x.i.2] at h1
  exact h1 0 _ rfl
theorem Zy8 {W : World} {g o : Nat} {x : Dp} (h : W.rangeAt g o (dpC x)) : W.cell? ⟨g, o + 33, none⟩ = some (.int .u64 (x.a : Int)) := by
  have h1 := Zdx (dpS x) o 2 (by simp [dpS]) h
  simp [dpS, x.t.2] at h1
  exact h1 0 _ rfl
set_option linter.unusedSimpArgs false
set_option maxRecDepth 100000 in
set_option maxHeartbeats 16000000 in
theorem walk (x0 : Tr) (vs0 : List Value) (x1 : Hd) (vs1 : List Value) (x2 : Bd) (vs2 : List Value) (l3 : List UInt8) (w : World) (w0 : Enc.rep (fun b => b < w.heap.size) w x0 vs0) (w1 : Enc.rep (fun b => b < w.heap.size) w x1 vs1) (w2 : Enc.rep (fun b => b < w.heap.size) w x2 vs2) (w3 : l3.length = 32) (hT : Tab w) :
    Calls Tryz.prog 6 #[.agg vs0.toArray, .agg vs1.toArray, .agg vs2.toArray, .agg (l3.map bv).toArray] w fun e w' => e = .returned (.bool true) ∧ Below w.heap.size w w' := by
  obtain ⟨A0, c0, rfl, hc0, hm0, hr, hI⟩ := Zdz w0
  obtain ⟨ns, root⟩ := x0
  obtain ⟨rfl, hx⟩ := ZiR w1
  obtain ⟨D0, d0, X0, e0, rfl, ⟨hd1, hd2, hdr⟩, ⟨hx1, hx2, hxr⟩⟩ := Zvg w2
  obtain ⟨ds, xs⟩ := x2
  obtain ⟨box, rfl⟩ : ∃ k : Dg, l3 = k.1 := ⟨⟨l3, w3⟩, rfl⟩
  generalize x1 = xh at *
  dsimp only at *
  have hcm : ns.length ≤ 9223372036854775807 := by unfold maxLen at hm0; omega
  obtain ⟨T0, N0, B0, S0, W0⟩ := Zf0 w A0 ns.length c0 root (hdC xh) [.slice D0 ds.length d0, .slice X0 xs.length e0] (box.1.map bv) 24 28 36 26
  have hut := Tryz.underlying24
  have huh := Tryz.underlying28
  have hub := Tryz.underlying36
  have hu := Tryz.underlying26
  have hiT := hid (show (Tryz.prog.info? 24).map (·.size) = some ([Value.slice A0 ns.length c0, .int .i64 root]).length from Zah)
  have hiS := hid (Zaz box)
  have jxh := hid (Zbu xh)
  have jBd := hid (show (Tryz.prog.info? 36).map (·.size) = some ([Value.slice D0 ds.length d0, .slice X0 xs.length e0]).length from ZfA _ _)
  have R0 := hid (hr.bel W0)
  have P0 := hid (hdr.bel W0)
  have Q0 := hid (hxr.bel W0)
  have H0 := hid (hT.bel W0 hT.low)
  have hlow := hid hT.low
  obtain ⟨gb, hgb⟩ : ∃ gb, greatT ns 600 = gb := ⟨_, rfl⟩
  have hGr := fun W hW => ZaY (fun b => b < w.heap.size) A0 c0 600 ns root W hW hcm
  rw [hgb] at hGr
  replace hGr := hid hGr
  replace hgb := hid hgb
  obtain ⟨gc, hgc⟩ : ∃ gc, greatB ds.length xs.length = gc := ⟨_, rfl⟩
  have hGB := hid (fun W => hgc ▸ Zgi D0 d0 ds.length X0 e0 xs.length W)
  replace hgc := hid hgc
  replace T0 := hid T0
  replace N0 := hid N0
  replace B0 := hid B0
  replace S0 := hid S0
  replace W0 := hid W0
  clear hr hdr hxr w0 w1 w2 w3 hI
  have hAl := hid (fun W hT => Zg9 W hT)
  go_enter Tryz.func6, Tryz.ntmps6
  go_wp2_with fail
  generalize (((w.alloc (.cells #[.slice A0 ns.length c0, .int .i64 root] 24)).alloc (.cells (hdC xh).toArray 28)).alloc (.cells #[.slice D0 ds.length d0, .slice X0 xs.length e0] 36)).alloc (.cells (box.1.map bv).toArray 26) = w0 at *
  refine (hAl.out _ H0.out).mono ?_
  rintro e w1 ⟨rfl, hb⟩
  have T1 := hid (T0.out.bel hb)
  have N1 := hid (Zab hb N0.out)
  have B1 := hid (Zab hb B0.out)
  have S1 := hid (Zab hb S0.out)
  have R1 := hid (R0.out.bel hb)
  have P1 := hid (P0.out.bel hb)
  have Q1 := hid (Q0.out.bel hb)
  have H1 := hid (H0.out.bel hb (Nat.lt_of_lt_of_le hlow.out W0.out.size))
  have W1 := hid (W0.out.trans (hb.mono W0.out.size))
  clear T0 N0 B0 S0 R0 P0 Q0 H0 W0
  clear hb hAl
  go_wp2_with (first
    | (with_reducible refine lDr T1.out.all hiT.out hut ?_ rfl rfl rfl rfl))
  refine (hGr.out _ R1.out).mono ?_
  rintro e w2 ⟨rfl, hb⟩
  have T2 := hid (T1.out.bel hb)
  have N2 := hid (Zab hb N1.out)
  have B2 := hid (Zab hb B1.out)
  have S2 := hid (Zab hb S1.out)
  have R2 := hid (R1.out.bel hb)
  have P2 := hid (P1.out.bel hb)
  have Q2 := hid (Q1.out.bel hb)
  have H2 := hid (H1.out.bel hb (Nat.lt_of_lt_of_le hlow.out W1.out.size))
  have W2 := hid (W1.out.trans (hb.mono W1.out.size))
  clear T1 N1 B1 S1 R1 P1 Q1 H1 W1
  clear hb hGr
  cases gb with
  | true =>
    go_wp2
    go_ret
    exact ⟨rfl, W2.out⟩
  | false =>
    go_wp2_with (first
      | (with_reducible refine lDr B2.out jBd.out hub ?_ rfl rfl rfl rfl))
    refine (hGB.out _).mono ?_
    rintro e w3 ⟨rfl, hb⟩
    have T3 := hid (T2.out.bel hb)
    have N3 := hid (Zab hb N2.out)
    have B3 := hid (Zab hb B2.out)
    have S3 := hid (Zab hb S2.out)
    have R3 := hid (R2.out.bel hb)
    have P3 := hid (P2.out.bel hb)
    have Q3 := hid (Q2.out.bel hb)
    have H3 := hid (H2.out.bel hb (Nat.lt_of_lt_of_le hlow.out W2.out.size))
    have W3 := hid (W2.out.trans (hb.mono W2.out.size))
    clear T2 N2 B2 S2 R2 P2 Q2 H2 W2
    clear hb hGB
    cases gc with
    | true =>
      go_wp2
      go_ret
      exact ⟨rfl, W3.out⟩
    | false =>
      obtain ⟨hlen, hvs⟩ := Zbi hgb.out
      obtain ⟨ld, lx⟩ := Zet hgc.out
      clear hgb hvs hgc
      by_cases hz : applyE ⟨ns, root⟩ xh ds xs box = 0
      case neg =>
        have hAp := hid (fun W hW hD hX hT => Zd6 (fun b => b < w.heap.size) (fun b => b < w.heap.size) (fun b => b < w.heap.size) A0 c0 ns root xh D0 d0 ds X0 e0 xs box W hx hW (by omega) hD hX (by omega) (by omega) hT (applyE ⟨ns, root⟩ xh ds xs box) (applyH ⟨ns, root⟩ xh ds xs box) (applyR ⟨ns, root⟩ xh ds xs box) (fun _ => True) rfl rfl rfl (fun _ _ => trivial))
        have hzn : (applyE ⟨ns, root⟩ xh ds xs box != 0) = true := bne_iff_ne.2 hz
        have nhH := hid (ZbM (applyH ⟨ns, root⟩ xh ds xs box))
        have jhH := hid (Zbu (applyH ⟨ns, root⟩ xh ds xs box))
        have ahH := hid (Zbg (applyH ⟨ns, root⟩ xh ds xs box))
        have zhH := hid (Zbw (applyH ⟨ns, root⟩ xh ds xs box))
        obtain ⟨hH, hhH⟩ : ∃ y, applyH ⟨ns, root⟩ xh ds xs box = y := ⟨_, rfl⟩
        rw [hhH] at nhH jhH ahH zhH
        rw [hhH] at hAp
        generalize applyE ⟨ns, root⟩ xh ds xs box = pz at *
        generalize applyR ⟨ns, root⟩ xh ds xs box = rs at *
        clear hz hhH
        go_wp2_with (first
          | (with_reducible refine lDr T3.out.all hiT.out hut ?_ rfl rfl rfl rfl)
          | (with_reducible refine lDr N3.out jxh.out huh ?_ rfl rfl rfl rfl)
          | (with_reducible refine lDr B3.out jBd.out hub ?_ rfl rfl rfl rfl)
          | (with_reducible refine lDr S3.out hiS.out hu ?_ rfl rfl rfl rfl))
        refine (hAp.out _ R3.out P3.out Q3.out H3.out).mono ?_
        rintro e w4 ⟨⟨na4, ra4⟩, ad4, cd4, Rr4, rq4, rfl, ho, hq, hb, hok4⟩
        dsimp only at ho hok4 ⊢
        have T4 := hid (T3.out.bel hb)
        have N4 := hid (Zab hb N3.out)
        have B4 := hid (Zab hb B3.out)
        have S4 := hid (Zab hb S3.out)
        have R4 := hid (R3.out.bel hb)
        have P4 := hid (P3.out.bel hb)
        have Q4 := hid (Q3.out.bel hb)
        have H4 := hid (H3.out.bel hb (Nat.lt_of_lt_of_le hlow.out W3.out.size))
        have W4 := hid (W3.out.trans (hb.mono W3.out.size))
        clear T3 N3 B3 S3 R3 P3 Q3 H3 W3
        have E4 := hid (OwnR.row ho)
        have Y4 := hid (OwnR.row hq)
        replace hok4 := hid hok4
        clear hb ho hq hAp
        have ea4 := hid (((Zad (w4.alloc (.cells zTrC 24)) (.cells zHdC 28)).block _ (by rw [World.size_alloc]; exact Nat.lt_succ_self _)).trans (heap_alloc_new w4 (.cells zTrC 24)))
        have eb4 := heap_alloc_new (w4.alloc (.cells zTrC 24)) (.cells zHdC 28)
        rw [World.size_alloc] at eb4
        replace eb4 := hid eb4
        have hW4 := hid (Zag (Zad w4 (.cells zTrC 24)) (Zad (w4.alloc (.cells zTrC 24)) (.cells zHdC 28)))
        have hiF := hid (show (Tryz.prog.info? 24).map (·.size) = some ([Value.slice ad4 na4.length cd4, .int .i64 ra4]).length from Zah)
        go_wp2_with (first
          | (with_reducible refine Zac rfl 24 rfl zTrC Zas ?_)
          | (with_reducible refine Zac rfl 28 rfl zHdC Za9 ?_)
          | ((with_reducible refine wpList_store_row rfl 24 (.tmp 10) (.tmp 40) rfl _ _ rfl rfl 24 zTrC ?_ ?_ ?_ ?_ ?_); exact ea4.out; exact Zah; rfl; exact Zat ad4 na4.length cd4 ra4; intro w5a g1 b1 s1; refine wpList_store_row rfl 28 (.tmp 11) (.tmp 41) rfl (w4.heap.size + 1) _ ?_ rfl 28 zHdC ?_ ?_ ?_ ?_ ?_; (first | rfl | (simp only [World.size_alloc]; rfl)); exact (b1.block _ (block_lt eb4.out) (by simp)).trans eb4.out; exact ahH.out; exact zhH.out; exact nhH.out; intro w5 g2 b2 s2; have X5a := hW4.out.grown b1 hW4.out.size (fun k e => by injection e with e; omega); have X5 := hid (X5a.grown b2 X5a.size (fun k e => by injection e with e; omega)); have F5 := hid (BoxT.of (Zae (l := [Value.slice ad4 na4.length cd4, .int .i64 ra4]) ((b2.block _ (block_lt g1) (by simp)).trans g1))); have G5 := hid (Zae (l := hdC hH) g2); clear g1 b1 s1 g2 b2 s2 X5a ea4 eb4 hW4; have T5 := hid (T4.out.bel X5.out); have N5 := hid (Zab X5.out N4.out); have B5 := hid (Zab X5.out B4.out); have S5 := hid (Zab X5.out S4.out); have R5 := hid (R4.out.bel X5.out); have P5 := hid (P4.out.bel X5.out); have Q5 := hid (Q4.out.bel X5.out); have H5 := hid (H4.out.bel X5.out (Nat.lt_of_lt_of_le hlow.out W4.out.size)); have W5 := hid (W4.out.trans (X5.out.mono W4.out.size)); have E5 := hid (E4.out.bel X5.out); have Y5 := hid (Y4.out.bel X5.out); clear T4 N4 B4 S4 R4 P4 Q4 H4 W4 E4 Y4))
        go_ret
        exact ⟨rfl, W5.out⟩
      case pos =>
        obtain ⟨hma, -, -, -, -, -⟩ := ZeI hz
        have hAp := hid (fun W hW hD hX hT => Zd6 (fun b => b < w.heap.size) (fun b => b < w.heap.size) (fun b => b < w.heap.size) A0 c0 ns root xh D0 d0 ds X0 e0 xs box W hx hW (by omega) hD hX (by omega) (by omega) hT 0 (applyH ⟨ns, root⟩ xh ds xs box) (applyR ⟨ns, root⟩ xh ds xs box) (fun o => mayA o = true ∧ o.ns.length ≤ 100000 ∧ totP (allT o) = totJ (allT ⟨ns, root⟩) ds ds.length) hz rfl rfl (fun o ho => ⟨(Zc4 hz ho).1, by have := (Zc4 hz ho).2.2.1; dsimp only at this; omega, by rw [Zyl hz ho, YeL]⟩))
        have hrl := ZgK hz
        have hrg : ∀ j (h : j < ds.length) (h2 : j < (applyR ⟨ns, root⟩ xh ds xs box).length), ((applyR ⟨ns, root⟩ xh ds xs box)[j]).c = giveC (giveAll (allT ⟨ns, root⟩) (ds.take j)) ds[j].t ds[j].a := fun j h h2 => by
          have e1 := Zrw ds (allT ⟨ns, root⟩) j h
          have e2 : (applyR ⟨ns, root⟩ xh ds xs box)[j]? = (giveRs (allT ⟨ns, root⟩) ds)[j]? := by
            rw [(Zbx hz).2.1, List.getElem?_append_left (by rw [Zde]; exact h)]
          rw [e1, List.getElem?_eq_getElem h2] at e2
          injection e2 with e2
          rw [e2]
        have nhH := hid (ZbM (applyH ⟨ns, root⟩ xh ds xs box))
        have jhH := hid (Zbu (applyH ⟨ns, root⟩ xh ds xs box))
        have ahH := hid (Zbg (applyH ⟨ns, root⟩ xh ds xs box))
        have zhH := hid (Zbw (applyH ⟨ns, root⟩ xh ds xs box))
        obtain ⟨hH, hhH⟩ : ∃ y, applyH ⟨ns, root⟩ xh ds xs box = y := ⟨_, rfl⟩
        rw [hhH] at nhH jhH ahH zhH
        rw [hhH] at hAp
        have hst := (Zcm hma).2
        have htj : ∀ j (h : j < ds.length), totJ (allT ⟨ns, root⟩) ds (j + 1) = totJ (allT ⟨ns, root⟩) ds j + (if giveC (giveAll (allT ⟨ns, root⟩) (ds.take j)) ds[j].t ds[j].a = 0 then ds[j].a else 0) := fun j h => YbE hst h
        have htf : ∀ j, totJ (allT ⟨ns, root⟩) ds j < 340282366920938463463374607431768211456 := YbD (Zff hma).1 (by dsimp only; omega) (by omega)
        have hTt := fun W hW => ZcU (fun b => b < w.heap.size) A0 c0 ns root W hW (by omega)
        rw [hma, if_pos rfl, if_pos rfl, if_pos rfl] at hTt
        have hH0 : totH (allT ⟨ns, root⟩) = totJ (allT ⟨ns, root⟩) ds 0 / 18446744073709551616 := rfl
        have hL0 : totL (allT ⟨ns, root⟩) = totJ (allT ⟨ns, root⟩) ds 0 % 18446744073709551616 := rfl
        rw [hH0, hL0] at hTt
        have hgc2 : ∀ j (h : j < ds.length), giveC (giveAll (allT ⟨ns, root⟩) (ds.take j)) ds[j].t ds[j].a = 0 ∨ giveC (giveAll (allT ⟨ns, root⟩) (ds.take j)) ds[j].t ds[j].a = 151 := fun j h => Zm3 _ _ _
        have hTo := hid (fun (o : Tr) (F : Nat → Prop) (A : Option Addr) (c : Nat) (W : World) (hW : Row F W A o.ns) (h1 : mayA o = true) (h2 : o.ns.length ≤ 100000) => (show Calls Tryz.prog 27 #[.agg #[.slice A o.ns.length c, .int .i64 o.root]] W fun e w' => e = .returned (.tuple #[.int .u64 ((totP (allT o) / 18446744073709551616 : Nat) : Int), .int .u64 ((totP (allT o) % 18446744073709551616 : Nat) : Int), .int .i64 0]) ∧ Below W.heap.size W w' from by have := ZcU F A c o.ns o.root W hW (by omega); rw [h1, if_pos rfl, if_pos rfl, if_pos rfl] at this; exact this))
        generalize applyR ⟨ns, root⟩ xh ds xs box = rs at *
        obtain ⟨gv, hgv⟩ : ∃ f : Nat → Int, ∀ j (h : j < ds.length), giveC (giveAll (allT ⟨ns, root⟩) (ds.take j)) ds[j].t ds[j].a = f j := ⟨fun j => if h : j < ds.length then giveC (giveAll (allT ⟨ns, root⟩) (ds.take j)) ds[j].t ds[j].a else 0, fun j h => by dsimp only; rw [dif_pos h]⟩
        have htj2 : ∀ j (h : j < ds.length), totJ (allT ⟨ns, root⟩) ds (j + 1) = totJ (allT ⟨ns, root⟩) ds j + (if gv j = 0 then ds[j].a else 0) := fun j h => by rw [htj j h, hgv j h]
        have hgc3 : ∀ j (h : j < ds.length), gv j = 0 ∨ gv j = 151 := fun j h => by rw [← hgv j h]; exact hgc2 j h
        have hrg2 : ∀ j (h : j < ds.length) (h2 : j < rs.length), (rs[j]).c = gv j := fun j h h2 => by rw [hrg j h h2, hgv j h]
        clear htj hgc2 hrg hgv hH0 hL0 hst hma hhH hz
        generalize totJ (allT ⟨ns, root⟩) ds = tj at *
        replace hTt := hid hTt
        replace htj2 := hid htj2
        replace hgc3 := hid hgc3
        replace hrg2 := hid hrg2
        replace htf := hid htf
        replace hrl := hid hrl
        go_wp2_with (first
          | (with_reducible refine lDr T3.out.all hiT.out hut ?_ rfl rfl rfl rfl)
          | (with_reducible refine lDr N3.out jxh.out huh ?_ rfl rfl rfl rfl)
          | (with_reducible refine lDr B3.out jBd.out hub ?_ rfl rfl rfl rfl)
          | (with_reducible refine lDr S3.out hiS.out hu ?_ rfl rfl rfl rfl))
        refine (hAp.out _ R3.out P3.out Q3.out H3.out).mono ?_
        rintro e w4 ⟨⟨na4, ra4⟩, ad4, cd4, Rr4, rq4, rfl, ho, hq, hb, hok4⟩
        dsimp only at ho hok4 ⊢
        have T4 := hid (T3.out.bel hb)
        have N4 := hid (Zab hb N3.out)
        have B4 := hid (Zab hb B3.out)
        have S4 := hid (Zab hb S3.out)
        have R4 := hid (R3.out.bel hb)
        have P4 := hid (P3.out.bel hb)
        have Q4 := hid (Q3.out.bel hb)
        have H4 := hid (H3.out.bel hb (Nat.lt_of_lt_of_le hlow.out W3.out.size))
        have W4 := hid (W3.out.trans (hb.mono W3.out.size))
        clear T3 N3 B3 S3 R3 P3 Q3 H3 W3
        have E4 := hid (OwnR.row ho)
        have Y4 := hid (OwnR.row hq)
        replace hok4 := hid hok4
        clear hb ho hq hAp
        have ea4 := hid (((Zad (w4.alloc (.cells zTrC 24)) (.cells zHdC 28)).block _ (by rw [World.size_alloc]; exact Nat.lt_succ_self _)).trans (heap_alloc_new w4 (.cells zTrC 24)))
        have eb4 := heap_alloc_new (w4.alloc (.cells zTrC 24)) (.cells zHdC 28)
        rw [World.size_alloc] at eb4
        replace eb4 := hid eb4
        have hW4 := hid (Zag (Zad w4 (.cells zTrC 24)) (Zad (w4.alloc (.cells zTrC 24)) (.cells zHdC 28)))
        have hiF := hid (show (Tryz.prog.info? 24).map (·.size) = some ([Value.slice ad4 na4.length cd4, .int .i64 ra4]).length from Zah)
        go_wp2_with (first
          | (with_reducible refine Zac rfl 24 rfl zTrC Zas ?_)
          | (with_reducible refine Zac rfl 28 rfl zHdC Za9 ?_)
          | ((with_reducible refine wpList_store_row rfl 24 (.tmp 10) (.tmp 40) rfl _ _ rfl rfl 24 zTrC ?_ ?_ ?_ ?_ ?_); exact ea4.out; exact Zah; rfl; exact Zat ad4 na4.length cd4 ra4; intro w5a g1 b1 s1; refine wpList_store_row rfl 28 (.tmp 11) (.tmp 41) rfl (w4.heap.size + 1) _ ?_ rfl 28 zHdC ?_ ?_ ?_ ?_ ?_; (first | rfl | (simp only [World.size_alloc]; rfl)); exact (b1.block _ (block_lt eb4.out) (by simp)).trans eb4.out; exact ahH.out; exact zhH.out; exact nhH.out; intro w5 g2 b2 s2; have X5a := hW4.out.grown b1 hW4.out.size (fun k e => by injection e with e; omega); have X5 := hid (X5a.grown b2 X5a.size (fun k e => by injection e with e; omega)); have F5 := hid (BoxT.of (Zae (l := [Value.slice ad4 na4.length cd4, .int .i64 ra4]) ((b2.block _ (block_lt g1) (by simp)).trans g1))); have G5 := hid (Zae (l := hdC hH) g2); clear g1 b1 s1 g2 b2 s2 X5a ea4 eb4 hW4; have T5 := hid (T4.out.bel X5.out); have N5 := hid (Zab X5.out N4.out); have B5 := hid (Zab X5.out B4.out); have S5 := hid (Zab X5.out S4.out); have R5 := hid (R4.out.bel X5.out); have P5 := hid (P4.out.bel X5.out); have Q5 := hid (Q4.out.bel X5.out); have H5 := hid (H4.out.bel X5.out (Nat.lt_of_lt_of_le hlow.out W4.out.size)); have W5 := hid (W4.out.trans (X5.out.mono W4.out.size)); have E5 := hid (E4.out.bel X5.out); have Y5 := hid (Y4.out.bel X5.out); clear T4 N4 B4 S4 R4 P4 Q4 H4 W4 E4 Y4)
          | (with_reducible refine lDr T5.out.all hiT.out hut ?_ rfl rfl rfl rfl))
        refine (hTt.out _ R5.out).mono ?_
        rintro e w6 ⟨rfl, hb⟩
        have T6 := hid (T5.out.bel hb)
        have N6 := hid (Zab hb N5.out)
        have B6 := hid (Zab hb B5.out)
        have S6 := hid (Zab hb S5.out)
        have R6 := hid (R5.out.bel hb)
        have P6 := hid (P5.out.bel hb)
        have Q6 := hid (Q5.out.bel hb)
        have H6 := hid (H5.out.bel hb (Nat.lt_of_lt_of_le hlow.out W5.out.size))
        have W6 := hid (W5.out.trans (hb.mono W5.out.size))
        have E6 := hid (E5.out.bel hb)
        have Y6 := hid (Y5.out.bel hb)
        have F6 := hid (F5.out.bel hb)
        have G6 := hid (Zab hb G5.out)
        clear T5 N5 B5 S5 R5 P5 Q5 H5 W5 E5 Y5 F5 G5
        clear hb hTt
        obtain ⟨th, hth⟩ : ∃ f : Nat → Int, ∀ j, ((tj j / 18446744073709551616 : Nat) : Int) = f j := ⟨_, fun j => rfl⟩
        obtain ⟨tl, htl⟩ : ∃ f : Nat → Int, ∀ j, ((tj j % 18446744073709551616 : Nat) : Int) = f j := ⟨_, fun j => rfl⟩
        rw [hth, htl]
        have hup : Hid (∀ j (h : j < ds.length) (hn : ds[j].a < 18446744073709551616), gv j = 0 → IntKind.u64.wrap (tl j + (ds[j].a : Int)) = tl (j + 1) ∧ (tl (j + 1) < tl j → IntKind.u64.wrap (th j + 1) = th (j + 1)) ∧ (¬ tl (j + 1) < tl j → th j = th (j + 1))) := hid fun j h hn h0 => by
          have e := htj2.out j h
          rw [if_pos h0] at e
          obtain ⟨t1, t2, t3⟩ := YbG (htf.out j) hn
          have f2 := htf.out (j + 1)
          rw [← e] at t1 t2 t3
          rw [hth, htl, hth, htl] at t2
          rw [hth, htl, hth, htl] at t3
          rw [htl, htl] at t1
          exact ⟨t1, fun q => t2 q f2, t3⟩
        have hst2 : Hid (∀ j (h : j < ds.length), gv j = 151 → tl (j + 1) = tl j ∧ th (j + 1) = th j) := hid fun j h h1 => by
          have e := htj2.out j h
          rw [if_neg (by rw [h1]; decide), Nat.add_zero] at e
          rw [← htl, ← htl, ← hth, ← hth, e]
          exact ⟨rfl, rfl⟩
        obtain ⟨v1, v2, v3⟩ := hok4.out
        have hTa := fun F A c W hW => hTo.out ⟨na4, ra4⟩ F A c W hW v1 v2
        rw [v3, hth, htl] at hTa
        dsimp only at hTa
        replace hTa := hid hTa
        clear hTo hok4 v1 v2 v3 hth htl htf htj2
        have cB := B6.out 0 _ rfl
        replace hrl := hid (show rs.length = ds.length + xs.length from hrl.out)
        go_wp2
        go_loopw [14, 15, 17] (fun h l i wr => ∃ j : Nat, j ≤ ds.length ∧ i = .int .i64 j ∧ h = .int .u64 (th j) ∧ l = .int .u64 (tl j) ∧ wr = w6) (fun _ _ i _ => ds.length - (intOf i).toNat)
        case atStart => exact ⟨0, Nat.zero_le _, rfl, rfl, rfl, rfl⟩
        case round =>
          obtain ⟨j, hj, rfl, rfl, rfl, rfl⟩ := hrel
          by_cases hlt : j < ds.length
          · have hlr : j < rs.length := by rw [hrl.out]; omega
            have l1 : (j : Int) < (ds.length : Int) := by omega
            have l2 : (j : Int) < (rs.length : Int) := by omega
            obtain ⟨b1, o1, rfl, hr1, -⟩ := ZnG Y6.out hlr
            obtain ⟨b2, o2, rfl, hr2, hd2⟩ := Zsb P6.out hlt
            have k1 := Yhj hr1
            rw [hrg2.out j hlt hlr] at k1
            have k2 := Zy8 hr2
            have u1 := hup.out j hlt hd2.2
            have u2 := hst2.out j hlt
            rcases hgc3.out j hlt with h0 | h1
            · rw [h0] at k1
              obtain ⟨x1, x2, x3⟩ := u1 h0
              obtain ⟨cb, hcb⟩ : ∃ b, decide (tl (j + 1) < tl j) = b := ⟨_, rfl⟩
              generalize ds[j].a = am at *
              generalize hqa : tl (j + 1) = q1 at *
              generalize hqb : th (j + 1) = q2 at *
              replace hqa := hid hqa
              replace hqb := hid hqb
              clear u1 u2 hr1 hr2
              cases cb with
              | true =>
                have x4 := x2 (of_decide_eq_true hcb)
                clear x2 x3
                go_wp2
                go_roundw
                case rel => exact ⟨j + 1, by omega, by go_num, by rw [hqb.out], by rw [hqa.out], trivial⟩
                case measure => simp [intOf]; omega
              | false =>
                have x4 := x3 (by first | exact of_decide_eq_false hcb | (have := of_decide_eq_false hcb; omega))
                clear x2 x3
                go_wp2
                go_roundw
                case rel => exact ⟨j + 1, by omega, by go_num, by rw [hqb.out, x4], by rw [hqa.out], trivial⟩
                case measure => simp [intOf]; omega
            · rw [h1] at k1
              obtain ⟨x1, x2⟩ := u2 h1
              clear u1 u2 hr1 hr2
              go_wp2
              go_roundw
              case rel => exact ⟨j + 1, by omega, by go_num, by rw [x2], by rw [x1], trivial⟩
              case measure => simp [intOf]; omega
          · obtain rfl : j = ds.length := by omega
            generalize th ds.length = hf at *
            generalize tl ds.length = lf at *
            go_wp2_with (first
              | (with_reducible refine lDr F6.out.all hiF.out hut ?_ rfl rfl rfl rfl))
            refine (hTa.out _ ad4 cd4 _ E6.out).mono ?_
            rintro e w7 ⟨rfl, hb⟩
            go_wp2
            go_ret
            exact ⟨rfl, W6.out.trans (hb.mono W6.out.size)⟩

/-! ### WHAT THE WALK GIVES, FOR EVERY ARGUMENT AND EVERY WORLD THAT HOLDS THE TABLE -/
set_option maxRecDepth 100000 in
theorem contract (H : Type) (enc : TypeId × Value → H) (W : World) (base : Nat) (args : Array Value) (ds gs : List (DataW H)) (before : List MemPlace)
    (hval0 : ∀ (j : Nat) t v, Tryz.f6.params[j]? = some t → args[j]? = some v → Value.okWide Tryz.prog W .any base t v)
    (hW : DataW.Whole enc Tryz.prog Tryz.f6.params.toList Rows.blockKeepsSpec.vars false W args.toList ds gs before) (hL : laidMetH Tryz.prog Rows.blockKeepsRow.laid W) :
    Calls Tryz.prog 6 args W fun e W' => ∃ v, e = .returned v ∧ Rows.blockKeepsSpec.post enc Tryz.prog Tryz.f6 false true false false W args v W' := by
  have hval : ∀ (j : Nat) t v, Tryz.f6.params[j]? = some t → args[j]? = some v → Value.okWide Tryz.prog W .any base t v := hval0
  have hW' := hW
  obtain ⟨p, q, hA0, hV, rfl, hfz, hnd⟩ := hW
  have hA : DataW.TrodAll enc Tryz.prog W 0 (fun _ => true) true Tryz.f6.params.toList args.toList ds p := hA0
  rw [Tryz.params6] at hA hval
  obtain ⟨v0, vs0, d0, ds0, p0, q0, hargs, rfl, rfl, h0, r0⟩ := trodAll_cons hA
  obtain ⟨v1, vs1, d1, ds1, p1, q1, rfl, rfl, rfl, h1, r1⟩ := trodAll_cons r0
  obtain ⟨v2, vs2, d2, ds2, p2, q2, rfl, rfl, rfl, h2, r2⟩ := trodAll_cons r1
  obtain ⟨v3, vs3, d3, ds3, p3, q3, rfl, rfl, rfl, h3, r3⟩ := trodAll_cons r2
  obtain ⟨rfl, rfl, rfl⟩ := trodAll_nil r3
  obtain rfl : args = #[v0, v1, v2, v3] := by cases args; simp_all
  obtain ⟨rfl, rfl⟩ := trodVars_none hV
  have k0 := h0
  have lt0 : ∀ x ∈ p0, x.block < W.heap.size := by obtain ⟨m, hm⟩ := k0; exact DataW.trod_lt m _ _ _ hm
  obtain ⟨x0, vs0, rfl, w0⟩ := Yg3 opensTr Tryz.underlying24 (hval 0 24 v0 rfl rfl) h0
  have k1 := h1
  have lt1 : ∀ x ∈ p1, x.block < W.heap.size := by obtain ⟨m, hm⟩ := k1; exact DataW.trod_lt m _ _ _ hm
  obtain ⟨x1, vs1, rfl, w1⟩ := Yg3 opensHd Tryz.underlying28 (hval 1 28 v1 rfl rfl) h1
  have k2 := h2
  have lt2 : ∀ x ∈ p2, x.block < W.heap.size := by obtain ⟨m, hm⟩ := k2; exact DataW.trod_lt m _ _ _ hm
  obtain ⟨x2, vs2, rfl, w2⟩ := Yg3 opensBd Tryz.underlying36 (hval 2 36 v2 rfl rfl) h2
  have k3 := h3
  have lt3 : ∀ x ∈ p3, x.block < W.heap.size := by obtain ⟨m, hm⟩ := k3; exact DataW.trod_lt m _ _ _ hm
  obtain ⟨l3, w3, rfl⟩ := YjF Tryz.underlying26 Tryz.underlying5 cellsByte cellsDig (hval 3 26 v3 rfl rfl) h3
  clear hA0 hval0
  refine (walk x0 vs0 x1 vs1 x2 vs2 l3 W w0 w1 w2 w3 (Yks hL)).mono fun e W' ⟨he, bel⟩ => ?_
  subst he
  exact ⟨_, rfl, _, _, _, [], _, [], hW', trodAll_mk1 (shut_bool Tryz.underlying4 _), (trodAll_cons_mk (Below.trod laidOut (by kernel_rfl) (of_decide_eq_true (by kernel_rfl)) k0 bel lt0) (trodAll_cons_mk (Below.trod laidOut (by kernel_rfl) (of_decide_eq_true (by kernel_rfl)) k1 bel lt1) (trodAll_cons_mk (Below.trod laidOut (by kernel_rfl) (of_decide_eq_true (by kernel_rfl)) k2 bel lt2) (trodAll_cons_mk (Below.trod laidOut (by kernel_rfl) (of_decide_eq_true (by kernel_rfl)) k3 bel lt3) trodAll_mk0)))), rfl, bel.frame _, fun h => by cases h⟩

theorem laid_met (os : Os) : laidMet Tryz.prog Rows.blockKeepsRow.laid ((laidWorld os).forCall (fun _ _ => 0) ⟨#[], #[.agg zTrC, .agg zHdC, .agg #[.slice none 0 0, .slice none 0 0], .agg (List.replicate 32 (bv 0)).toArray], []⟩).memory :=
  laidMet_of_run' 8 (by kernel_rfl) (by kernel_rfl)
theorem reads (os : Os) {H : Type} (enc : TypeId × Value → H) : ∃ places, DataW.whole enc Tryz.prog ((laidWorld os).forCall (fun _ _ => 0) ⟨#[], #[.agg zTrC, .agg zHdC, .agg #[.slice none 0 0, .slice none 0 0], .agg (List.replicate 32 (bv 0)).toArray], []⟩).memory Tryz.f6.params.toList Rows.blockKeepsSpec.vars false (#[.agg zTrC, .agg zHdC, .agg #[.slice none 0 0, .slice none 0 0], .agg (List.replicate 32 (bv 0)).toArray] : Array Value).toList 8 = some ([.agg [.nil, .lit (.int .i64 0)], .agg [.lit (.int .i64 0), .agg (List.replicate 32 (.lit (.int .u8 0))), .agg (List.replicate 32 (.lit (.int .u8 0))), .agg (List.replicate 32 (.lit (.int .u8 0))), .lit (.int .i64 0)], .agg [.nil, .nil], .agg (List.replicate 32 (.lit (.int .u8 0)))], [], places) :=
  ⟨[], by kernel_rfl⟩
set_option maxRecDepth 100000 in
theorem lifted (os : Os) (started : os.Started) (H : Type) (enc : TypeId × Value → H) (F : Stop.Interp) :
    ReturnsInHanded {} Tryz.checked os 6 .any ((OpenSpec.ofChange Rows.blockKeepsSpec).preRow enc Tryz.prog Tryz.f6 Rows.blockKeepsRow.domain false Rows.blockKeepsRow.laid) (((OpenSpec.ofChange Rows.blockKeepsSpec).at F).post enc Tryz.prog Tryz.f6 false true false false) := by
  obtain ⟨places, hx⟩ := reads os enc
  refine returnsInHanded_of_row (C := Tryz.checked) (s := OpenSpec.ofChange Rows.blockKeepsSpec) own started (by kernel_rfl) Tryz.func6
    (witness_row_at (enc := enc) (C := Tryz.checked) false (laidWorld os) #[.agg zTrC, .agg zHdC, .agg #[.slice none 0 0, .slice none 0 0], .agg (List.replicate 32 (bv 0)).toArray] rfl (by kernel_rfl) (by kernel_rfl) (by kernel_rfl)
      (OpenSpec.preRow_of_cond 8 hx (by kernel_rfl) (fun k hk => by cases hk) (by kernel_rfl) (laid_met os))) ?_
  intro W base args ds gs before hval hW _ _ _ hL _ _
  exact contract H enc W base args ds gs before hval hW hL
theorem said : Rows.BlockKeepsSaid :=
  OpenClaim.holds_of_cond 6 Tryz.f6 rfl rfl rfl rfl rfl rfl rfl ⟨rfl, rfl, rfl, rfl, rfl⟩ rfl rfl rfl rfl rfl (by kernel_rfl) Tryz.func6 (by kernel_rfl)
    (of_decide_eq_true (by kernel_rfl)) (by unfold Func.isWrapper; first | (rw [if_pos (by decide +kernel)]; kernel_rfl) | (rw [if_neg (by decide +kernel)]; exact ⟨rfl, rfl⟩))
    (fun os started H enc _ F => by rw [OpenClaim.pre_eq_preRow]; exact lifted os started H enc F)
set_option maxRecDepth 100000 in
/-- No parameter wants a stand-in; the program's own looks are off: what the card asks. -/
theorem plain (f : FuncId) (fn : Func) (hf : Tryz.pinned.checked.prog.funcNamed "beadroll/beadrolllaw16.BlockKeeps" = some f) (hfn : Tryz.pinned.checked.prog.funcs[f]? = some fn) :
    false = Tryz.pinned.checked.prog.looks [] ∧ ∀ (j : Nat) t, fn.params[j]? = some t → Tryz.pinned.checked.prog.wantsStandIn t = false := by
  obtain rfl : f = 6 := Option.some.inj ((show Tryz.prog.funcNamed "beadroll/beadrolllaw16.BlockKeeps" = some 6 by kernel_rfl).symm.trans hf) |>.symm
  obtain rfl : fn = Tryz.f6 := (Option.some.inj (Tryz.func6.symm.trans hfn)).symm
  refine ⟨by kernel_rfl, fun j t ht => ?_⟩
  rw [Tryz.params6] at ht
  have hm := Array.mem_of_getElem? ht
  simp only [List.mem_toArray, List.mem_cons, List.not_mem_nil, or_false] at hm
  rcases hm with rfl | rfl | rfl | rfl
  all_goals first | exact (show Tryz.prog.wantsStandIn 24 = false by kernel_rfl) | exact (show Tryz.prog.wantsStandIn 28 = false by kernel_rfl) | exact (show Tryz.prog.wantsStandIn 36 = false by kernel_rfl) | exact (show Tryz.prog.wantsStandIn 26 = false by kernel_rfl)
set_option maxRecDepth 100000 in
/-- ████ THE CARD ████ -/
theorem proved : Rows.BlockKeepsCardSaid :=
  Claim7.holds_tied_plain_at .later [] _ _ _ _ said (fun _ h => by cases h) (by kernel_rfl) (fun _ h => by cases h) blockKeeps_row_tie rfl ⟨rfl, rfl⟩ (by kernel_rfl) rfl plain (by kernel_rfl)
#print axioms proved
end Go.Proofs.YtihhnnajkckkeaaGreatDoor.blockKeeps
