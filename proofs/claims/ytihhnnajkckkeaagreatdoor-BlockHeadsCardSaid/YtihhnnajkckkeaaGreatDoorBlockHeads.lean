import Derived.Test.YtihhnnajkckkeaaGreatDoorRows
import Derived.Test.YtihhnnajkckkeaaGreatDoorDoor
import Derived.WalkKit
import Derived.ProofKit
import Derived.OpenShut
import Derived.ShutString
import Derived.ChangeOld
import Derived.Below
import Derived.Test.YtihhnnajkckkeaaGreatDoorAlive16
import Derived.Test.YtihhnnajkckkeaaGreatDoorRf6
import Derived.Test.YtihhnnajkckkeaaGreatDoorRf16
import Derived.Test.YtihhnnajkckkeaaGreatDoorStX
import Derived.Test.YtihhnnajkckkeaaGreatDoorBkL
namespace Go.Proofs.YtihhnnajkckkeaaGreatDoor.blockHeads
open Go.ChangeShapes Go.WideShapes Go.ChangeAt Go.RowKit
open Go.ChangeMaps (open_string shut_string)
set_option linter.unusedVariables false
theorem own : ownKnob Tryz.prog.godebug = none := by kernel_rfl
theorem laidOut : laidOutB Tryz.prog = true := by kernel_rfl
def IsRow (k : IntKind) (w : World) (a : Option Addr) (len cap : Nat) (zs : List Int) : Prop :=
 (a = none ∧ len = 0 ∧ cap = 0 ∧ zs = []) ∨
 ∃ x, a = some x ∧ len ≤ cap ∧ cap ≤ maxLen ∧ zs.length = cap ∧ (∀ i, i < zs.length → w.cell? (x.add i) = some (.int k (zs.getD i 0))) ∧ ∀ n ∈ zs, (Lit.int k n).wf = true
open Go.Proofs.YtihhnnajkckkeaaGreatDoor
theorem Zf0 (w : World) (A : Option Addr) (n c : Nat) (root : Int) (l m q : List Value) (t u v y : TypeId) :
  BoxT ((((w.alloc (.cells #[.slice A n c, .int .i64 root] t)).alloc (.cells l.toArray u)).alloc (.cells m.toArray v)).alloc (.cells q.toArray y)) w.heap.size A n c root ∧
  ((((w.alloc (.cells #[.slice A n c, .int .i64 root] t)).alloc (.cells l.toArray u)).alloc (.cells m.toArray v)).alloc (.cells q.toArray y)).rangeAt (w.heap.size + 1) 0 l ∧
  ((((w.alloc (.cells #[.slice A n c, .int .i64 root] t)).alloc (.cells l.toArray u)).alloc (.cells m.toArray v)).alloc (.cells q.toArray y)).rangeAt (w.heap.size + 1 + 1) 0 m ∧
  ((((w.alloc (.cells #[.slice A n c, .int .i64 root] t)).alloc (.cells l.toArray u)).alloc (.cells m.toArray v)).alloc (.cells q.toArray y)).rangeAt (w.heap.size + 1 + 1 + 1) 0 q ∧
  Below w.heap.size w ((((w.alloc (.cells #[.slice A n c, .int .i64 root] t)).alloc (.cells l.toArray u)).alloc (.cells m.toArray v)).alloc (.cells q.toArray y)) := by
 have h1 := BoxT.new w A n c root t
 have b1 := Zad w (.cells #[.slice A n c, .int .i64 root] t)
 have h2 := Zae (heap_alloc_new (w.alloc (.cells #[.slice A n c, .int .i64 root] t)) (.cells l.toArray u))
 have h3 := Zae (heap_alloc_new ((w.alloc (.cells #[.slice A n c, .int .i64 root] t)).alloc (.cells l.toArray u)) (.cells m.toArray v))
 have h4 := Zae (heap_alloc_new (((w.alloc (.cells #[.slice A n c, .int .i64 root] t)).alloc (.cells l.toArray u)).alloc (.cells m.toArray v)) (.cells q.toArray y))
 simp only [World.size_alloc] at h2 h3 h4
 exact ⟨((h1.bel (Zad _ _)).bel (Zad _ _)).bel (Zad _ _), Zab (Zad _ _) (Zab (Zad _ _) h2), Zab (Zad _ _) h3, h4, Zag (Zag (Zag b1 (Zad _ _)) (Zad _ _)) (Zad _ _)⟩
theorem Zet {n m : Nat} (h : greatB n m = false) : n ≤ 20 ∧ m ≤ 20 := by
 unfold greatB bigB at h
 simp at h
 omega
theorem Yhk {W : World} {g o : Nat} {x : Rc} (h : W.rangeAt g o (rcC x)) : W.cell? ⟨g, o, none⟩ = some (bv x.k) := by
 have := h 0 (bv x.k) (by simp [rcC, rcS])
 simpa using this
theorem ZwL {t : Tr} {x : Hd} {ds : List Dp} {xs : List Tx} {box : Dg} (hz : applyE t x ds xs box = 0) : (applyR t x ds xs box).length = ds.length + xs.length ∧ (∀ r ∈ applyR t x ds xs box, mayR r = true) ∧ ∀ (j : Nat) (h : j < (applyR t x ds xs box).length), ((applyR t x ds xs box)[j]).k = if j < ds.length then 1 else 2 := by
 refine ⟨ZgK hz, ?_, ?_⟩
 ·rw [(Zbx hz).2.1]
  intro r hr
  rcases List.mem_append.1 hr with h | h
  ·exact (Zir _ _ r h).1
  ·exact (Zj5 box _ _ r h).1
 ·intro j h
  have e := (Zbx hz).2.1
  by_cases hj : j < ds.length
  ·rw [if_pos hj]
   have hm : (applyR t x ds xs box)[j] ∈ giveRs (allT t) ds := by
    simp only [e]
    rw [List.getElem_append_left (by rw [Zde]; exact hj)]
    exact List.getElem_mem _
   exact (Zir _ _ _ hm).2
  ·rw [if_neg hj]
   have hm : (applyR t x ds xs box)[j] ∈ payRs box (giveAll (allT t) ds) xs := by
    simp only [e]
    rw [List.getElem_append_right (by rw [Zde]; omega)]
    exact List.getElem_mem _
   exact (Zj5 box _ _ _ hm).2
set_option linter.unusedSimpArgs false
set_option maxRecDepth 100000 in
set_option maxHeartbeats 16000000 in
theorem walk (x0 : Tr) (vs0 : List Value) (x1 : Hd) (vs1 : List Value) (x2 : Bd) (vs2 : List Value) (l3 : List UInt8) (w : World) (w0 : Enc.rep (fun b => b < w.heap.size) w x0 vs0) (w1 : Enc.rep (fun b => b < w.heap.size) w x1 vs1) (w2 : Enc.rep (fun b => b < w.heap.size) w x2 vs2) (w3 : l3.length = 32) (hT : Tab w) :
  Calls Tryz.prog 5 #[.agg vs0.toArray, .agg vs1.toArray, .agg vs2.toArray, .agg (l3.map bv).toArray] w fun e w' => e = .returned (.bool true) ∧ Below w.heap.size w w' := by
 obtain ⟨A0, c0, rfl, hc0, hm0, hr, hI⟩ := Zdz w0
 obtain ⟨ns, root⟩ := x0
 obtain ⟨rfl, hx⟩ := ZiR w1
 obtain ⟨D0, d0, X0, e0, rfl, ⟨hd1, hd2, hdr⟩, ⟨hx1, hx2, hxr⟩⟩ := Zvg w2
 obtain ⟨ds, xs⟩ := x2
 obtain ⟨box, rfl⟩ : ∃ k : Dg, l3 = k.1 := ⟨⟨l3, w3⟩, rfl⟩
 generalize x1 = xh at *
 dsimp only at *
 have hcm : ns.length ≤ 9223372036854775807 := by unfold maxLen at hm0; omega
 obtain ⟨T0, N0, B0, S0, W0⟩ := Zf0 w A0 ns.length c0 root (hdC xh) [.slice D0 ds.length d0, .slice X0 xs.length e0] (box.1.map bv) 24 28 36 26
 have hut := Tryz.underlying24
 have huh := Tryz.underlying28
 have hub := Tryz.underlying36
 have hu := Tryz.underlying26
 have hiT := hid (show (Tryz.prog.info? 24).map (·.size) = some ([Value.slice A0 ns.length c0, .int .i64 root]).length from Zah)
 have hiS := hid (Zaz box)
 have jxh := hid (Zbu xh)
 have jBd := hid (show (Tryz.prog.info? 36).map (·.size) = some ([Value.slice D0 ds.length d0, .slice X0 xs.length e0]).length from ZfA _ _)
 have R0 := hid (hr.bel W0)
 have P0 := hid (hdr.bel W0)
 have Q0 := hid (hxr.bel W0)
 have H0 := hid (hT.bel W0 hT.low)
 have hlow := hid hT.low
 obtain ⟨gb, hgb⟩ : ∃ gb, greatT ns 600 = gb := ⟨_, rfl⟩
 have hGr := fun W hW => ZaY (fun b => b < w.heap.size) A0 c0 600 ns root W hW hcm
 rw [hgb] at hGr
 replace hGr := hid hGr
 replace hgb := hid hgb
 obtain ⟨gc, hgc⟩ : ∃ gc, greatB ds.length xs.length = gc := ⟨_, rfl⟩
 have hGB := hid (fun W => hgc ▸ Zgi D0 d0 ds.length X0 e0 xs.length W)
 replace hgc := hid hgc
 replace T0 := hid T0
 replace N0 := hid N0
 replace B0 := hid B0
 replace S0 := hid S0
 replace W0 := hid W0
 clear hr hdr hxr w0 w1 w2 w3 hI
 have hur := Tryz.underlying61
 have hAl := hid (fun W hT => Zg9 W hT)
 go_enter Tryz.func5, Tryz.ntmps5
 go_wp2_with fail
 generalize (((w.alloc (.cells #[.slice A0 ns.length c0, .int .i64 root] 24)).alloc (.cells (hdC xh).toArray 28)).alloc (.cells #[.slice D0 ds.length d0, .slice X0 xs.length e0] 36)).alloc (.cells (box.1.map bv).toArray 26) = w0 at *
 refine (hAl.out _ H0.out).mono ?_
 rintro e w1 ⟨rfl, hb⟩
 have T1 := hid (T0.out.bel hb)
 have N1 := hid (Zab hb N0.out)
 have B1 := hid (Zab hb B0.out)
 have S1 := hid (Zab hb S0.out)
 have R1 := hid (R0.out.bel hb)
 have P1 := hid (P0.out.bel hb)
 have Q1 := hid (Q0.out.bel hb)
 have H1 := hid (H0.out.bel hb (Nat.lt_of_lt_of_le hlow.out W0.out.size))
 have W1 := hid (W0.out.trans (hb.mono W0.out.size))
 clear T0 N0 B0 S0 R0 P0 Q0 H0 W0
 clear hb hAl
 go_wp2_with (first
  | (with_reducible refine lDr T1.out.all hiT.out hut ?_ rfl rfl rfl rfl))
 refine (hGr.out _ R1.out).mono ?_
 rintro e w2 ⟨rfl, hb⟩
 have T2 := hid (T1.out.bel hb)
 have N2 := hid (Zab hb N1.out)
 have B2 := hid (Zab hb B1.out)
 have S2 := hid (Zab hb S1.out)
 have R2 := hid (R1.out.bel hb)
 have P2 := hid (P1.out.bel hb)
 have Q2 := hid (Q1.out.bel hb)
 have H2 := hid (H1.out.bel hb (Nat.lt_of_lt_of_le hlow.out W1.out.size))
 have W2 := hid (W1.out.trans (hb.mono W1.out.size))
 clear T1 N1 B1 S1 R1 P1 Q1 H1 W1
 clear hb hGr
 cases gb with
 | true =>
  go_wp2
  go_ret
  exact ⟨rfl, W2.out⟩
 | false =>
  go_wp2_with (first
   | (with_reducible refine lDr B2.out jBd.out hub ?_ rfl rfl rfl rfl))
  refine (hGB.out _).mono ?_
  rintro e w3 ⟨rfl, hb⟩
  have T3 := hid (T2.out.bel hb)
  have N3 := hid (Zab hb N2.out)
  have B3 := hid (Zab hb B2.out)
  have S3 := hid (Zab hb S2.out)
  have R3 := hid (R2.out.bel hb)
  have P3 := hid (P2.out.bel hb)
  have Q3 := hid (Q2.out.bel hb)
  have H3 := hid (H2.out.bel hb (Nat.lt_of_lt_of_le hlow.out W2.out.size))
  have W3 := hid (W2.out.trans (hb.mono W2.out.size))
  clear T2 N2 B2 S2 R2 P2 Q2 H2 W2
  clear hb hGB
  cases gc with
  | true =>
   go_wp2
   go_ret
   exact ⟨rfl, W3.out⟩
  | false =>
   obtain ⟨hlen, hvs⟩ := Zbi hgb.out
   obtain ⟨ld, lx⟩ := Zet hgc.out
   clear hgb hvs hgc
   by_cases hz : applyE ⟨ns, root⟩ xh ds xs box = 0
   case neg =>
    have hAp := hid (fun W hW hD hX hT => Zd6 (fun b => b < w.heap.size) (fun b => b < w.heap.size) (fun b => b < w.heap.size) A0 c0 ns root xh D0 d0 ds X0 e0 xs box W hx hW (by omega) hD hX (by omega) (by omega) hT (applyE ⟨ns, root⟩ xh ds xs box) zH [] (fun o => o = ⟨[], 0⟩) rfl (by unfold applyH; rw [if_neg hz]) (by unfold applyR; rw [if_neg hz]) (fun o ho => (Zur hz ho).1))
    have hzn : (applyE ⟨ns, root⟩ xh ds xs box != 0) = true := bne_iff_ne.2 hz
    have hEq : ∀ W, (Op.equalIn 10000 28 (.agg (hdC zH).toArray) (.agg (hdC zH).toArray)).run Tryz.prog W = .ok true W := fun W => ZhR zH zH Zgg Zgg true (decide_eq_true rfl) W
    have bH := hid (show Tryz.prog.built 28 [] = some (hdC zH).toArray from Zcc)
    have nhH := hid (ZbM (zH))
    have jhH := hid (Zbu (zH))
    have ahH := hid (Zbg (zH))
    have zhH := hid (Zbw (zH))
    obtain ⟨hH, hhH⟩ : ∃ y, zH = y := ⟨_, rfl⟩
    rw [hhH] at nhH jhH ahH zhH
    rw [hhH] at hAp hEq bH
    generalize applyE ⟨ns, root⟩ xh ds xs box = pz at *
    clear hz hhH
    go_wp2_with (first
     | (with_reducible refine lDr T3.out.all hiT.out hut ?_ rfl rfl rfl rfl)
     | (with_reducible refine lDr N3.out jxh.out huh ?_ rfl rfl rfl rfl)
     | (with_reducible refine lDr B3.out jBd.out hub ?_ rfl rfl rfl rfl)
     | (with_reducible refine lDr S3.out hiS.out hu ?_ rfl rfl rfl rfl))
    refine (hAp.out _ R3.out P3.out Q3.out H3.out).mono ?_
    rintro e w4 ⟨⟨na4, ra4⟩, ad4, cd4, Rr4, rq4, rfl, ho, hq, hb, hok4⟩
    dsimp only at ho hok4 ⊢
    have T4 := hid (T3.out.bel hb)
    have N4 := hid (Zab hb N3.out)
    have B4 := hid (Zab hb B3.out)
    have S4 := hid (Zab hb S3.out)
    have R4 := hid (R3.out.bel hb)
    have P4 := hid (P3.out.bel hb)
    have Q4 := hid (Q3.out.bel hb)
    have H4 := hid (H3.out.bel hb (Nat.lt_of_lt_of_le hlow.out W3.out.size))
    have W4 := hid (W3.out.trans (hb.mono W3.out.size))
    clear T3 N3 B3 S3 R3 P3 Q3 H3 W3
    have E4 := hid (OwnR.row ho)
    have Y4 := hid (OwnR.row hq)
    replace hok4 := hid hok4
    clear hb ho hq hAp
    have hno := hok4.out
    injection hno with hn0 hr0
    subst hn0 hr0
    simp only [List.length_nil]
    have ea4 := hid (((Zad (w4.alloc (.cells zTrC 24)) (.cells zHdC 28)).block _ (by rw [World.size_alloc]; exact Nat.lt_succ_self _)).trans (heap_alloc_new w4 (.cells zTrC 24)))
    have eb4 := heap_alloc_new (w4.alloc (.cells zTrC 24)) (.cells zHdC 28)
    rw [World.size_alloc] at eb4
    replace eb4 := hid eb4
    have hW4 := hid (Zag (Zad w4 (.cells zTrC 24)) (Zad (w4.alloc (.cells zTrC 24)) (.cells zHdC 28)))
    have hiF := hid (show (Tryz.prog.info? 24).map (·.size) = some ([Value.slice ad4 0 cd4, .int .i64 0]).length from Zah)
    go_wp2_with (first
     | (with_reducible refine Zac rfl 24 rfl zTrC Zas ?_)
     | (with_reducible refine Zac rfl 28 rfl zHdC Za9 ?_)
     | ((with_reducible refine wpList_store_row rfl 24 (.tmp 10) (.tmp 40) rfl _ _ rfl rfl 24 zTrC ?_ ?_ ?_ ?_ ?_); exact ea4.out; exact Zah; rfl; exact Zat ad4 0 cd4 0; intro w5a g1 b1 s1; refine wpList_store_row rfl 28 (.tmp 11) (.tmp 41) rfl (w4.heap.size + 1) _ ?_ rfl 28 zHdC ?_ ?_ ?_ ?_ ?_; (first | rfl | (simp only [World.size_alloc]; rfl)); exact (b1.block _ (block_lt eb4.out) (by simp)).trans eb4.out; exact ahH.out; exact zhH.out; exact nhH.out; intro w5 g2 b2 s2; have X5a := hW4.out.grown b1 hW4.out.size (fun k e => by injection e with e; omega); have X5 := hid (X5a.grown b2 X5a.size (fun k e => by injection e with e; omega)); have F5 := hid (BoxT.of (Zae (l := [Value.slice ad4 0 cd4, .int .i64 0]) ((b2.block _ (block_lt g1) (by simp)).trans g1))); have G5 := hid (Zae (l := hdC hH) g2); clear g1 b1 s1 g2 b2 s2 X5a ea4 eb4 hW4; have T5 := hid (T4.out.bel X5.out); have N5 := hid (Zab X5.out N4.out); have B5 := hid (Zab X5.out B4.out); have S5 := hid (Zab X5.out S4.out); have R5 := hid (R4.out.bel X5.out); have P5 := hid (P4.out.bel X5.out); have Q5 := hid (Q4.out.bel X5.out); have H5 := hid (H4.out.bel X5.out (Nat.lt_of_lt_of_le hlow.out W4.out.size)); have W5 := hid (W4.out.trans (X5.out.mono W4.out.size)); have E5 := hid (E4.out.bel X5.out); have Y5 := hid (Y4.out.bel X5.out); clear T4 N4 B4 S4 R4 P4 Q4 H4 W4 E4 Y4; have y5 := F5.out.ns)
     | (with_reducible refine lDr G5.out jhH.out huh ?_ rfl rfl rfl rfl)
     | ((with_reducible refine Zaf ?_ 28 _ rfl (hdC hH).toArray [] ?_ ?_ ?_); rfl; exact bH.out; rfl))
    go_ret
    exact ⟨rfl, W5.out⟩
   case pos =>
    obtain ⟨hma, hmh, hxh, hl1, hl2, -⟩ := ZeI hz
    obtain ⟨hrl, hmr, hkd⟩ := ZwL hz
    obtain ⟨hh, hhe⟩ : ∃ y, applyH ⟨ns, root⟩ xh ds xs box = y := ⟨_, rfl⟩
    have hhd := hhe
    rw [(Zbx hz).2.2, ← (Zbx hz).2.1] at hhd
    obtain ⟨sm, hsm⟩ : ∃ d, rootD (payAll box (giveAll (allT ⟨ns, root⟩) ds) xs) = d := ⟨_, rfl⟩
    have hAp := hid (fun W hW hD hX hT => Zd6 (fun b => b < w.heap.size) (fun b => b < w.heap.size) (fun b => b < w.heap.size) A0 c0 ns root xh D0 d0 ds X0 e0 xs box W hx hW (by omega) hD hX (by omega) (by omega) hT 0 hh (applyR ⟨ns, root⟩ xh ds xs box) (fun o => mayA o = true ∧ o.ns.length ≤ 100000 ∧ rootD (allT o) = sm) hz hhe rfl (fun o ho => ⟨(Zc4 hz ho).1, by have := (Zc4 hz ho).2.2.1; dsimp only at this; omega, by rw [(Zc4 hz ho).2.1, hsm]⟩))
    have hhmy := hmh
    unfold mayH at hhmy
    have hhmy := of_decide_eq_true hhmy
    generalize applyR ⟨ns, root⟩ xh ds xs box = rs at *
    have e1 : hh.h = xh.h + 1 := by rw [← hhd]; rfl
    have e2 : hh.p = nameD xh := by rw [← hhd]; rfl
    have e3 : hh.s = sm := by rw [← hhd, ← hsm]; rfl
    have e4 : hh.r = rootR (rs.map rcB) := by rw [← hhd]; rfl
    have e5 : hh.m = (rs.length : Int) := by rw [← hhd]; rfl
    have hhm : mayH hh = true := by
     unfold mayH
     rw [decide_eq_true_eq, e1, e5, hrl]
     omega
    have hFo := fun W hT => Zcw hh xh (ZkW hhm) hx W hT
    rw [show follows hh xh = true by unfold follows; rw [hhm, hmh, decide_eq_true e1, decide_eq_true e2]; rfl] at hFo
    have hRo := fun A2 c2 W h h1 h2 hT => Zb0 A2 c2 (rs.map rcB) W h h1 h2 (by rw [List.length_map]; omega) hT
    rw [if_pos (Ziv (by omega)), show rootRL (rs.map rcB) = rootR (rs.map rcB) by unfold rootRL; rw [if_pos (Ziv (by omega))]] at hRo
    have hSo := hid (fun (o : Tr) (F : Nat → Prop) (A : Option Addr) (c : Nat) (W : World) (hW : Row F W A o.ns) (h1 : mayA o = true) (h2 : o.ns.length ≤ 100000) (h3 : rootD (allT o) = sm) hT => (show Calls Tryz.prog 23 #[.agg #[.slice A o.ns.length c, .int .i64 o.root]] W fun e w' => e = .returned (.tuple #[.agg (sm.1.map bv).toArray, .int .i64 0]) ∧ Below W.heap.size W w' from by have := ZdP F A c o.ns o.root W hW (by omega) hT; rw [Zsy (Zft h1).1, if_pos (Zft h1).1, h3] at this; exact this))
    have hCo := hid (fun (o : Tr) (F : Nat → Prop) (A : Option Addr) (c : Nat) (W : World) (hW : Row F W A o.ns) (h1 : mayA o = true) (h2 : o.ns.length ≤ 100000) => (show Calls Tryz.prog 26 #[.agg #[.slice A o.ns.length c, .int .i64 o.root]] W fun e w' => e = .returned (.int .i64 0) ∧ Below W.heap.size W w' from by have := ZcT F A c o.ns o.root W hW (by omega); rw [h1, if_pos rfl] at this; exact this))
    obtain ⟨rr, hrr⟩ : ∃ d, rootR (rs.map rcB) = d := ⟨_, rfl⟩
    rw [hrr] at hRo e4
    have hBy := hid (fun (j : Nat) (h : j < rs.length) W => (show Calls Tryz.prog 22 #[.agg (rcC rs[j]).toArray] W fun e w' => ∃ A c, e = .returned (.tuple #[.slice A (rcB rs[j]).length c, .int .i64 0]) ∧ Own 5 w' W.heap.size A c (rcB rs[j]) ∧ Below W.heap.size W w' from by have hmj := hmr _ (List.getElem_mem h); have := Zdp rs[j] W; rw [show rcO rs[j] = rcB rs[j] by unfold rcO; rw [if_pos hmj], show rcE rs[j] = 0 by unfold rcE; rw [if_pos hmj]] at this; exact this))
    have eS : ∀ W, (Op.equalIn 10000 26 (.agg (sm.1.map bv).toArray) (.agg (sm.1.map bv).toArray)).run Tryz.prog W = .ok true W := fun W => ZaL sm sm true (decide_eq_true rfl) W
    have eR : ∀ W, (Op.equalIn 10000 26 (.agg (rr.1.map bv).toArray) (.agg (rr.1.map bv).toArray)).run Tryz.prog W = .ok true W := fun W => ZaL rr rr true (decide_eq_true rfl) W
    have hiM := hid (Zaz sm)
    have hiR := hid (Zaz rr)
    have wl : IntKind.i64.wrap ((ds.length : Int) + (xs.length : Int)) = (rs.length : Int) := by rw [hrl, IntWalk.i64_in _ (by omega)]; push_cast; rfl
    have hgO := (fun (W : World) (g : Nat) (h : W.rangeAt g 0 (hdC hh)) => (show W.rangeAt g 33 (sm.1.map bv) ∧ W.rangeAt g 65 (rr.1.map bv) ∧ W.cell? ⟨g, 97, none⟩ = some (.int .i64 (rs.length : Int)) from ⟨e3 ▸ (BoxH.of h).s, e4 ▸ (BoxH.of h).r, e5 ▸ (BoxH.of h).m⟩))
    replace hFo := hid hFo
    replace hRo := hid hRo
    replace hkd := hid hkd
    replace hrl := hid hrl
    replace wl := hid wl
    replace eS := hid eS
    replace eR := hid eR
    have ehm := hid e5
    clear hhd hsm hhmy e1 e2 e3 e4 e5 hhe hmh hxh hz hma hmr hrr hl1 hl2
    have nhh := hid (ZbM (hh))
    have jhh := hid (Zbu (hh))
    have ahh := hid (Zbg (hh))
    have zhh := hid (Zbw (hh))
    go_wp2_with (first
     | (with_reducible refine lDr T3.out.all hiT.out hut ?_ rfl rfl rfl rfl)
     | (with_reducible refine lDr N3.out jxh.out huh ?_ rfl rfl rfl rfl)
     | (with_reducible refine lDr B3.out jBd.out hub ?_ rfl rfl rfl rfl)
     | (with_reducible refine lDr S3.out hiS.out hu ?_ rfl rfl rfl rfl))
    refine (hAp.out _ R3.out P3.out Q3.out H3.out).mono ?_
    rintro e w4 ⟨⟨na4, ra4⟩, ad4, cd4, Rr4, rq4, rfl, ho, hq, hb, hok4⟩
    dsimp only at ho hok4 ⊢
    have T4 := hid (T3.out.bel hb)
    have N4 := hid (Zab hb N3.out)
    have B4 := hid (Zab hb B3.out)
    have S4 := hid (Zab hb S3.out)
    have R4 := hid (R3.out.bel hb)
    have P4 := hid (P3.out.bel hb)
    have Q4 := hid (Q3.out.bel hb)
    have H4 := hid (H3.out.bel hb (Nat.lt_of_lt_of_le hlow.out W3.out.size))
    have W4 := hid (W3.out.trans (hb.mono W3.out.size))
    clear T3 N3 B3 S3 R3 P3 Q3 H3 W3
    have E4 := hid (OwnR.row ho)
    have Y4 := hid (OwnR.row hq)
    replace hok4 := hid hok4
    clear hb ho hq hAp
    obtain ⟨q1, q2, q3⟩ := hok4.out
    have hSm := hid (fun F A c W hW hT => hSo.out ⟨na4, ra4⟩ F A c W hW q1 q2 q3 hT)
    have hCk := hid (fun F A c W hW => hCo.out ⟨na4, ra4⟩ F A c W hW q1 q2)
    clear hSo hCo hok4 q1 q2 q3
    have ea4 := hid (((Zad (w4.alloc (.cells zTrC 24)) (.cells zHdC 28)).block _ (by rw [World.size_alloc]; exact Nat.lt_succ_self _)).trans (heap_alloc_new w4 (.cells zTrC 24)))
    have eb4 := heap_alloc_new (w4.alloc (.cells zTrC 24)) (.cells zHdC 28)
    rw [World.size_alloc] at eb4
    replace eb4 := hid eb4
    have hW4 := hid (Zag (Zad w4 (.cells zTrC 24)) (Zad (w4.alloc (.cells zTrC 24)) (.cells zHdC 28)))
    have hiF := hid (show (Tryz.prog.info? 24).map (·.size) = some ([Value.slice ad4 na4.length cd4, .int .i64 ra4]).length from Zah)
    go_wp2_with (first
     | (with_reducible refine Zac rfl 24 rfl zTrC Zas ?_)
     | (with_reducible refine Zac rfl 28 rfl zHdC Za9 ?_)
     | ((with_reducible refine wpList_store_row rfl 24 (.tmp 10) (.tmp 40) rfl _ _ rfl rfl 24 zTrC ?_ ?_ ?_ ?_ ?_); exact ea4.out; exact Zah; rfl; exact Zat ad4 na4.length cd4 ra4; intro w5a g1 b1 s1; refine wpList_store_row rfl 28 (.tmp 11) (.tmp 41) rfl (w4.heap.size + 1) _ ?_ rfl 28 zHdC ?_ ?_ ?_ ?_ ?_; (first | rfl | (simp only [World.size_alloc]; rfl)); exact (b1.block _ (block_lt eb4.out) (by simp)).trans eb4.out; exact ahh.out; exact zhh.out; exact nhh.out; intro w5 g2 b2 s2; have X5a := hW4.out.grown b1 hW4.out.size (fun k e => by injection e with e; omega); have X5 := hid (X5a.grown b2 X5a.size (fun k e => by injection e with e; omega)); have F5 := hid (BoxT.of (Zae (l := [Value.slice ad4 na4.length cd4, .int .i64 ra4]) ((b2.block _ (block_lt g1) (by simp)).trans g1))); have G5 := hid (Zae (l := hdC hh) g2); clear g1 b1 s1 g2 b2 s2 X5a ea4 eb4 hW4; have T5 := hid (T4.out.bel X5.out); have N5 := hid (Zab X5.out N4.out); have B5 := hid (Zab X5.out B4.out); have S5 := hid (Zab X5.out S4.out); have R5 := hid (R4.out.bel X5.out); have P5 := hid (P4.out.bel X5.out); have Q5 := hid (Q4.out.bel X5.out); have H5 := hid (H4.out.bel X5.out (Nat.lt_of_lt_of_le hlow.out W4.out.size)); have W5 := hid (W4.out.trans (X5.out.mono W4.out.size)); have E5 := hid (E4.out.bel X5.out); have Y5 := hid (Y4.out.bel X5.out); clear T4 N4 B4 S4 R4 P4 Q4 H4 W4 E4 Y4))
    have hG5 := hgO _ _ G5.out
    have U5 := hid hG5.1
    have V5 := hid hG5.2.1
    have M5 := hid hG5.2.2
    clear hG5 hgO
    have i0 := B5.out 0 _ rfl
    replace i0 := hid i0
    go_loopw [14, 15] (fun v q wr => ∃ (j : Nat) (ps : List (List UInt8)) (A' : Option Addr) (c' : Nat), j ≤ rs.length ∧ q = .int .i64 (j : Int) ∧ Hid ((rs.take j).map rcB = ps) ∧ Hid (ps.length = j) ∧ v = .slice A' ps.length c' ∧ OwnL 57 5 wr w5.heap.size A' c' ps ∧ Below w5.heap.size w5 wr) (fun _ q _ => rs.length - (intOf q).toNat)
    case atStart => exact ⟨0, [], none, 0, Nat.zero_le _, rfl, rfl, rfl, rfl, OwnL.nil _ _, Below.refl _ _⟩
    case round =>
     obtain ⟨j, ps, A', c', hj, rfl, hps, hpl, rfl, ho, hb⟩ := hrel
     by_cases hlt : j < rs.length
     ·obtain ⟨b, o, hAe, hrng, hok⟩ := ZnG (Y5.out.bel hb) hlt
      subst hAe
      have hO := hid (hBy.out j hlt)
      have hjb := hid (show j ≤ 40 by have := hrl.out; omega)
      have hr9 : rs.length ≤ 40 := by have := hrl.out; omega
      have hnx : Hid ((rs.take (j + 1)).map rcB = ps ++ [rcB rs[j]]) := by
       rw [List.take_succ_eq_append_getElem hlt, List.map_append, hps.out]
       exact rfl
      have hz := hid (Zex rs[j])
      have hk := hkd.out j hlt
      have nd := hid hk
      generalize rcB rs[j] = z at *
      generalize rs[j] = xr at *
      have Ho0 := hid ho
      have W0' := hid hb
      have R0' := hid hrng
      have I0 := hid (Zab hb B5.out)
      have jr := hid (ZdM xr)
      have j1 : (j : Int) < rs.length := by omega
      clear ho hb hok hrng hk
      go_wp2_with (first
       | (with_reducible refine lDr R0'.out jr.out hur ?_ rfl rfl rfl rfl))
      refine (hO.out _).mono ?_
      rintro e w6 ⟨A3, c3, rfl, ho3, hb⟩
      have Hq6 := hid (ho3.base W0'.out.size)
      have Ho6 := hid (Ho0.out.bel hb)
      have W6' := hid (W0'.out.trans (hb.mono W0'.out.size))
      have K6 := hid (Zab hb R0'.out)
      have I6 := hid (Zab hb I0.out)
      clear ho3 hb hO Ho0 W0' R0' I0
      go_wp2_with fail
      have ck := Yhk K6.out
      have ci := I6.out 0 _ rfl
      rw [nd.out] at ck
      replace ci := hid ci
      by_cases hd : j < ds.length
      case pos =>
       have j3 : (j : Int) < ds.length := by omega
       rw [if_pos hd] at ck
       replace ck := hid (show w6.cell? ⟨b, o + j * 34, none⟩ = some (.int .u8 1) from ck)
       refine wp_region_noPanic ?_
       refine wp_region_held_drew (S := fun w' => Below w6.heap.size w6 w') (by kernel_rfl) ?_ (fun hHeld => ?_)
       ·exact Zao w6
       refine' tkP 0 rfl ?_
       try simp only [sQ]
       refine' tkP 1 rfl ?_
       try simp only [sQ]
       refine' tkP 2 rfl ?_
       try simp only [sQ]
       refine' tkP 3 rfl ?_
       try simp only [sQ]
       refine' tkP 4 rfl ?_
       try simp only [sQ]
       refine' tkP 5 rfl ?_
       try simp only [sQ]
       refine' tkP 6 rfl ?_
       try simp only [sQ]
       refine' tkL 7 ?_ rfl ?_ ?_
       rotate_left
       ·intro W hSw
        have hCell := (hSw.cell (World.block_lt_of_cell? _ _ ck.out)).trans ck.out
        go_simp
        first | done | (with_reducible rfl)
       try simp only [sQ]
       refine' tkP 8 rfl ?_
       try simp only [sQ]
       refine' tkP 9 rfl ?_
       try simp only [sQ]
       refine' tkP 10 rfl ?_
       try simp only [sQ]
       refine' tkL 11 ?_ rfl ?_ ?_
       rotate_left
       ·intro W hSw
        have hCell := (hSw.cell (World.block_lt_of_cell? _ _ ci.out)).trans ci.out
        go_simp
        first | done | (with_reducible rfl)
       try simp only [sQ]
       refine' tkP 12 rfl ?_
       try simp only [sQ]
       refine' tkP 13 rfl ?_
       try simp only [sQ]
       refine' tkP 14 rfl ?_
       try simp only [sQ]
       refine' tkP 15 rfl ?_
       try simp only [sQ]
       refine dnH ?_
       refine NoPanic.normal ?_
       clear j3 hd
       generalize World.drew w6 = w7 at *
       have Hq7 := hid (Hq6.out.bel hHeld)
       have Ho7 := hid (Ho6.out.bel hHeld)
       have W7' := hid (W6'.out.trans (hHeld.mono W6'.out.size))
       clear hHeld Hq6 Ho6 W6' K6 I6 ck ci
       go_wp2_with (first
        | (at_builtin; refine ZdF Zie Zm7 (by decide) rfl (.tmp 93) (.tmp 95) rfl w5.heap.size A' A3 _ c' c3 1 w7.heap.size ps z rfl rfl rfl (Ho7.out.alloc _) (Hq7.out.alloc _) (by rw [cell_of_row _ w7.heap.size 0 _ _ (0, 0) (heap_alloc_new w7 _)]; rfl) (by have := hpl.out; have := hjb.out; omega) (by have := W7'.out.size; simp; omega) ?_; intro A4 c4 w8 ho4 hb4; have Ho4 := hid ho4; have B8 := hid (((W7'.out.alloc W7'.out.size _)).trans hb4); clear ho4 hb4))
       go_roundw
       case rel => have h9 := hjb.out; exact ⟨j + 1, ps ++ [z], A4, c4, by omega, by go_num, hnx, by have := hpl.out; exact hid (by simp; exact this), by simp, Ho4.out, B8.out⟩
       case measure => have h9 := hjb.out; simp [intOf]; omega
      case neg =>
       have j3 : ¬ (j : Int) < ds.length := by omega
       rw [if_neg hd] at ck
       replace ck := hid (show w6.cell? ⟨b, o + j * 34, none⟩ = some (.int .u8 2) from ck)
       refine wp_region_noPanic ?_
       refine wp_region_held_drew (S := fun w' => Below w6.heap.size w6 w') (by kernel_rfl) ?_ (fun hHeld => ?_)
       ·exact Zao w6
       refine' tkP 0 rfl ?_
       try simp only [sQ]
       refine' tkP 1 rfl ?_
       try simp only [sQ]
       refine' tkP 2 rfl ?_
       try simp only [sQ]
       refine' tkP 3 rfl ?_
       try simp only [sQ]
       refine' tkP 4 rfl ?_
       try simp only [sQ]
       refine' tkP 5 rfl ?_
       try simp only [sQ]
       refine' tkP 6 rfl ?_
       try simp only [sQ]
       refine' tkL 7 ?_ rfl ?_ ?_
       rotate_left
       ·intro W hSw
        have hCell := (hSw.cell (World.block_lt_of_cell? _ _ ck.out)).trans ck.out
        go_simp
        first | done | (with_reducible rfl)
       try simp only [sQ]
       refine' tkP 8 rfl ?_
       try simp only [sQ]
       refine' tkP 9 rfl ?_
       try simp only [sQ]
       refine' tkP 10 rfl ?_
       try simp only [sQ]
       refine' tkL 11 ?_ rfl ?_ ?_
       rotate_left
       ·intro W hSw
        have hCell := (hSw.cell (World.block_lt_of_cell? _ _ ci.out)).trans ci.out
        go_simp
        first | done | (with_reducible rfl)
       try simp only [sQ]
       refine' tkP 12 rfl ?_
       try simp only [sQ]
       refine' tkP 13 rfl ?_
       try simp only [sQ]
       refine' tkP 14 rfl ?_
       try simp only [sQ]
       refine' tkP 15 rfl ?_
       try simp only [sQ]
       refine dnH ?_
       refine NoPanic.normal ?_
       clear j3 hd
       generalize World.drew w6 = w7 at *
       have Hq7 := hid (Hq6.out.bel hHeld)
       have Ho7 := hid (Ho6.out.bel hHeld)
       have W7' := hid (W6'.out.trans (hHeld.mono W6'.out.size))
       clear hHeld Hq6 Ho6 W6' K6 I6 ck ci
       go_wp2_with (first
        | (at_builtin; refine ZdF Zie Zm7 (by decide) rfl (.tmp 93) (.tmp 95) rfl w5.heap.size A' A3 _ c' c3 1 w7.heap.size ps z rfl rfl rfl (Ho7.out.alloc _) (Hq7.out.alloc _) (by rw [cell_of_row _ w7.heap.size 0 _ _ (0, 0) (heap_alloc_new w7 _)]; rfl) (by have := hpl.out; have := hjb.out; omega) (by have := W7'.out.size; simp; omega) ?_; intro A4 c4 w8 ho4 hb4; have Ho4 := hid ho4; have B8 := hid (((W7'.out.alloc W7'.out.size _)).trans hb4); clear ho4 hb4))
       go_roundw
       case rel => have h9 := hjb.out; exact ⟨j + 1, ps ++ [z], A4, c4, by omega, by go_num, hnx, by have := hpl.out; exact hid (by simp; exact this), by simp, Ho4.out, B8.out⟩
       case measure => have h9 := hjb.out; simp [intOf]; omega
     ·obtain rfl : j = rs.length := by omega
      have he : rs.map rcB = ps := by rw [← hps.out, List.take_length]
      have j2 : (rs.length : Int) ≤ rs.length := Int.le_refl _
      rw [he] at hRo
      have he2 : rs.length = ps.length := by rw [← he, List.length_map]
      replace he2 := hid he2
      have Lr := hid (OwnL.rds ho)
      have Lc := hid (OwnL.cap ho)
      have hb6 := hb
      generalize wr = w6 at *
      clear ho he hBy hkd i0 hb
      have T6 := hid (T5.out.bel hb6)
      have N6 := hid (Zab hb6 N5.out)
      have B6 := hid (Zab hb6 B5.out)
      have S6 := hid (Zab hb6 S5.out)
      have R6 := hid (R5.out.bel hb6)
      have P6 := hid (P5.out.bel hb6)
      have Q6 := hid (Q5.out.bel hb6)
      have H6 := hid (H5.out.bel hb6 (Nat.lt_of_lt_of_le hlow.out W5.out.size))
      have W6 := hid (W5.out.trans (hb6.mono W5.out.size))
      have E6 := hid (E5.out.bel hb6)
      have Y6 := hid (Y5.out.bel hb6)
      have F6 := hid (F5.out.bel hb6)
      have G6 := hid (Zab hb6 G5.out)
      have U6 := hid (Zab hb6 U5.out)
      have V6 := hid (Zab hb6 V5.out)
      have M6 := hid ((hb6.cell (World.block_lt_of_cell? _ _ M5.out)).trans M5.out)
      clear T5 N5 B5 S5 R5 P5 Q5 H5 W5 E5 Y5 F5 G5 U5 V5 M5
      have L6 := Lr
      clear hb6 Lr
      go_wp2_with (first
       | (with_reducible refine lDr F6.out.all hiF.out hut ?_ rfl rfl rfl rfl))
      refine (hSm.out _ ad4 cd4 _ E6.out H6.out).mono ?_
      rintro e w7 ⟨rfl, hb⟩
      have T7 := hid (T6.out.bel hb)
      have N7 := hid (Zab hb N6.out)
      have B7 := hid (Zab hb B6.out)
      have S7 := hid (Zab hb S6.out)
      have R7 := hid (R6.out.bel hb)
      have P7 := hid (P6.out.bel hb)
      have Q7 := hid (Q6.out.bel hb)
      have H7 := hid (H6.out.bel hb (Nat.lt_of_lt_of_le hlow.out W6.out.size))
      have W7 := hid (W6.out.trans (hb.mono W6.out.size))
      have E7 := hid (E6.out.bel hb)
      have Y7 := hid (Y6.out.bel hb)
      have F7 := hid (F6.out.bel hb)
      have G7 := hid (Zab hb G6.out)
      have U7 := hid (Zab hb U6.out)
      have V7 := hid (Zab hb V6.out)
      have M7 := hid ((hb.cell (World.block_lt_of_cell? _ _ M6.out)).trans M6.out)
      have L7 := hid (L6.out.bel hb)
      clear T6 N6 B6 S6 R6 P6 Q6 H6 W6 E6 Y6 F6 G6 U6 V6 M6 L6
      clear hb hSm
      have e7 := hid (heap_alloc_new w7 (.cells z32 26))
      go_wp2_with (first
       | (with_reducible refine Zac rfl 26 rfl z32 Zam ?_)
       | ((with_reducible refine wpList_store_row rfl 26 (.tmp 18) (.tmp 100) rfl _ _ rfl rfl 26 z32 ?_ ?_ ?_ ?_ ?_); exact e7.out; exact ZdN sm; exact zDg sm; exact Zji sm; intro w8 hgS hbS hsS; have X8 := hid (Zan rfl hbS); have D8 := hid (Zae (l := sm.1.map bv) hgS); clear hgS hbS hsS; have T8 := hid (T7.out.bel X8.out); have N8 := hid (Zab X8.out N7.out); have B8 := hid (Zab X8.out B7.out); have S8 := hid (Zab X8.out S7.out); have R8 := hid (R7.out.bel X8.out); have P8 := hid (P7.out.bel X8.out); have Q8 := hid (Q7.out.bel X8.out); have H8 := hid (H7.out.bel X8.out (Nat.lt_of_lt_of_le hlow.out W7.out.size)); have W8 := hid (W7.out.trans (X8.out.mono W7.out.size)); have E8 := hid (E7.out.bel X8.out); have Y8 := hid (Y7.out.bel X8.out); have F8 := hid (F7.out.bel X8.out); have G8 := hid (Zab X8.out G7.out); have U8 := hid (Zab X8.out U7.out); have V8 := hid (Zab X8.out V7.out); have M8 := hid ((X8.out.cell (World.block_lt_of_cell? _ _ M7.out)).trans M7.out); have L8 := hid (L7.out.bel X8.out); clear T7 N7 B7 S7 R7 P7 Q7 H7 W7 E7 Y7 F7 G7 U7 V7 M7 L7))
      refine (hRo.out _ _ _ L8.out Lc.out.1 Lc.out.2 H8.out).mono ?_
      rintro e w9 ⟨rfl, hb⟩
      have T9 := hid (T8.out.bel hb)
      have N9 := hid (Zab hb N8.out)
      have B9 := hid (Zab hb B8.out)
      have S9 := hid (Zab hb S8.out)
      have R9 := hid (R8.out.bel hb)
      have P9 := hid (P8.out.bel hb)
      have Q9 := hid (Q8.out.bel hb)
      have H9 := hid (H8.out.bel hb (Nat.lt_of_lt_of_le hlow.out W8.out.size))
      have W9 := hid (W8.out.trans (hb.mono W8.out.size))
      have E9 := hid (E8.out.bel hb)
      have Y9 := hid (Y8.out.bel hb)
      have F9 := hid (F8.out.bel hb)
      have G9 := hid (Zab hb G8.out)
      have U9 := hid (Zab hb U8.out)
      have V9 := hid (Zab hb V8.out)
      have M9 := hid ((hb.cell (World.block_lt_of_cell? _ _ M8.out)).trans M8.out)
      have L9 := hid (L8.out.bel hb)
      have D9 := hid (Zab hb D8.out)
      clear T8 N8 B8 S8 R8 P8 Q8 H8 W8 E8 Y8 F8 G8 U8 V8 M8 L8 D8
      clear hb hRo
      have e9 := hid (heap_alloc_new w9 (.cells z32 26))
      go_wp2_with (first
       | (with_reducible refine Zac rfl 26 rfl z32 Zam ?_)
       | ((with_reducible refine wpList_store_row rfl 26 (.tmp 20) (.tmp 105) rfl _ _ rfl rfl 26 z32 ?_ ?_ ?_ ?_ ?_); exact e9.out; exact ZdN rr; exact zDg rr; exact Zji rr; intro w10 hgS hbS hsS; have X10 := hid (Zan rfl hbS); have O10 := hid (Zae (l := rr.1.map bv) hgS); clear hgS hbS hsS; have T10 := hid (T9.out.bel X10.out); have N10 := hid (Zab X10.out N9.out); have B10 := hid (Zab X10.out B9.out); have S10 := hid (Zab X10.out S9.out); have R10 := hid (R9.out.bel X10.out); have P10 := hid (P9.out.bel X10.out); have Q10 := hid (Q9.out.bel X10.out); have H10 := hid (H9.out.bel X10.out (Nat.lt_of_lt_of_le hlow.out W9.out.size)); have W10 := hid (W9.out.trans (X10.out.mono W9.out.size)); have E10 := hid (E9.out.bel X10.out); have Y10 := hid (Y9.out.bel X10.out); have F10 := hid (F9.out.bel X10.out); have G10 := hid (Zab X10.out G9.out); have U10 := hid (Zab X10.out U9.out); have V10 := hid (Zab X10.out V9.out); have M10 := hid ((X10.out.cell (World.block_lt_of_cell? _ _ M9.out)).trans M9.out); have L10 := hid (L9.out.bel X10.out); have D10 := hid (Zab X10.out D9.out); clear T9 N9 B9 S9 R9 P9 Q9 H9 W9 E9 Y9 F9 G9 U9 V9 M9 L9 D9)
       | (with_reducible refine lDr G10.out jhh.out huh ?_ rfl rfl rfl rfl)
       | (with_reducible refine lDr N10.out jxh.out huh ?_ rfl rfl rfl rfl))
      refine (hFo.out _ H10.out).mono ?_
      rintro e w11 ⟨rfl, hb⟩
      have T11 := hid (T10.out.bel hb)
      have N11 := hid (Zab hb N10.out)
      have B11 := hid (Zab hb B10.out)
      have S11 := hid (Zab hb S10.out)
      have R11 := hid (R10.out.bel hb)
      have P11 := hid (P10.out.bel hb)
      have Q11 := hid (Q10.out.bel hb)
      have H11 := hid (H10.out.bel hb (Nat.lt_of_lt_of_le hlow.out W10.out.size))
      have W11 := hid (W10.out.trans (hb.mono W10.out.size))
      have E11 := hid (E10.out.bel hb)
      have Y11 := hid (Y10.out.bel hb)
      have F11 := hid (F10.out.bel hb)
      have G11 := hid (Zab hb G10.out)
      have U11 := hid (Zab hb U10.out)
      have V11 := hid (Zab hb V10.out)
      have M11 := hid ((hb.cell (World.block_lt_of_cell? _ _ M10.out)).trans M10.out)
      have L11 := hid (L10.out.bel hb)
      have D11 := hid (Zab hb D10.out)
      have O11 := hid (Zab hb O10.out)
      clear T10 N10 B10 S10 R10 P10 Q10 H10 W10 E10 Y10 F10 G10 U10 V10 M10 L10 D10 O10
      clear hb hFo
      have m11 := M11.out
      have b11 := B11.out 0 _ rfl
      have f11 := B11.out 1 _ rfl
      have eSo := eS.out
      have eRo := eR.out
      have wlo := wl.out
      go_wp2_with (first
       | (with_reducible refine lDr U11.out hiM.out hu ?_ rfl rfl rfl rfl)
       | (with_reducible refine lDr D11.out hiM.out hu ?_ rfl rfl rfl rfl)
       | (with_reducible refine lDr V11.out hiR.out hu ?_ rfl rfl rfl rfl)
       | (with_reducible refine lDr O11.out hiR.out hu ?_ rfl rfl rfl rfl)
       | (with_reducible refine lDr F11.out.all hiF.out hut ?_ rfl rfl rfl rfl))
      refine (hCk.out _ ad4 cd4 _ E11.out).mono ?_
      rintro e w12 ⟨rfl, hb⟩
      go_wp2
      go_ret
      exact ⟨rfl, W11.out.trans (hb.mono W11.out.size)⟩
set_option maxRecDepth 100000 in
theorem contract (H : Type) (enc : TypeId × Value → H) (W : World) (base : Nat) (args : Array Value) (ds gs : List (DataW H)) (before : List MemPlace)
  (hval0 : ∀ (j : Nat) t v, Tryz.f5.params[j]? = some t → args[j]? = some v → Value.okWide Tryz.prog W .any base t v)
  (hW : DataW.Whole enc Tryz.prog Tryz.f5.params.toList Rows.blockHeadsSpec.vars false W args.toList ds gs before) (hL : laidMetH Tryz.prog Rows.blockHeadsRow.laid W) :
  Calls Tryz.prog 5 args W fun e W' => ∃ v, e = .returned v ∧ Rows.blockHeadsSpec.post enc Tryz.prog Tryz.f5 false true false false W args v W' := by
 have hval : ∀ (j : Nat) t v, Tryz.f5.params[j]? = some t → args[j]? = some v → Value.okWide Tryz.prog W .any base t v := hval0
 have hW' := hW
 obtain ⟨p, q, hA0, hV, rfl, hfz, hnd⟩ := hW
 have hA : DataW.TrodAll enc Tryz.prog W 0 (fun _ => true) true Tryz.f5.params.toList args.toList ds p := hA0
 rw [Tryz.params5] at hA hval
 obtain ⟨v0, vs0, d0, ds0, p0, q0, hargs, rfl, rfl, h0, r0⟩ := trodAll_cons hA
 obtain ⟨v1, vs1, d1, ds1, p1, q1, rfl, rfl, rfl, h1, r1⟩ := trodAll_cons r0
 obtain ⟨v2, vs2, d2, ds2, p2, q2, rfl, rfl, rfl, h2, r2⟩ := trodAll_cons r1
 obtain ⟨v3, vs3, d3, ds3, p3, q3, rfl, rfl, rfl, h3, r3⟩ := trodAll_cons r2
 obtain ⟨rfl, rfl, rfl⟩ := trodAll_nil r3
 obtain rfl : args = #[v0, v1, v2, v3] := by cases args; simp_all
 obtain ⟨rfl, rfl⟩ := trodVars_none hV
 have k0 := h0
 have lt0 : ∀ x ∈ p0, x.block < W.heap.size := by obtain ⟨m, hm⟩ := k0; exact DataW.trod_lt m _ _ _ hm
 obtain ⟨x0, vs0, rfl, w0⟩ := Yg3 opensTr Tryz.underlying24 (hval 0 24 v0 rfl rfl) h0
 have k1 := h1
 have lt1 : ∀ x ∈ p1, x.block < W.heap.size := by obtain ⟨m, hm⟩ := k1; exact DataW.trod_lt m _ _ _ hm
 obtain ⟨x1, vs1, rfl, w1⟩ := Yg3 opensHd Tryz.underlying28 (hval 1 28 v1 rfl rfl) h1
 have k2 := h2
 have lt2 : ∀ x ∈ p2, x.block < W.heap.size := by obtain ⟨m, hm⟩ := k2; exact DataW.trod_lt m _ _ _ hm
 obtain ⟨x2, vs2, rfl, w2⟩ := Yg3 opensBd Tryz.underlying36 (hval 2 36 v2 rfl rfl) h2
 have k3 := h3
 have lt3 : ∀ x ∈ p3, x.block < W.heap.size := by obtain ⟨m, hm⟩ := k3; exact DataW.trod_lt m _ _ _ hm
 obtain ⟨l3, w3, rfl⟩ := YjF Tryz.underlying26 Tryz.underlying5 cellsByte cellsDig (hval 3 26 v3 rfl rfl) h3
 clear hA0 hval0
 refine (walk x0 vs0 x1 vs1 x2 vs2 l3 W w0 w1 w2 w3 (Yks hL)).mono fun e W' ⟨he, bel⟩ => ?_
 subst he
 exact ⟨_, rfl, _, _, _, [], _, [], hW', trodAll_mk1 (shut_bool Tryz.underlying4 _), (trodAll_cons_mk (Below.trod laidOut (by kernel_rfl) (of_decide_eq_true (by kernel_rfl)) k0 bel lt0) (trodAll_cons_mk (Below.trod laidOut (by kernel_rfl) (of_decide_eq_true (by kernel_rfl)) k1 bel lt1) (trodAll_cons_mk (Below.trod laidOut (by kernel_rfl) (of_decide_eq_true (by kernel_rfl)) k2 bel lt2) (trodAll_cons_mk (Below.trod laidOut (by kernel_rfl) (of_decide_eq_true (by kernel_rfl)) k3 bel lt3) trodAll_mk0)))), rfl, bel.frame _, fun h => by cases h⟩
theorem laid_met (os : Os) : laidMet Tryz.prog Rows.blockHeadsRow.laid ((laidWorld os).forCall (fun _ _ => 0) ⟨#[], #[.agg zTrC, .agg zHdC, .agg #[.slice none 0 0, .slice none 0 0], .agg (List.replicate 32 (bv 0)).toArray], []⟩).memory :=
 laidMet_of_run' 8 (by kernel_rfl) (by kernel_rfl)
theorem reads (os : Os) {H : Type} (enc : TypeId × Value → H) : ∃ places, DataW.whole enc Tryz.prog ((laidWorld os).forCall (fun _ _ => 0) ⟨#[], #[.agg zTrC, .agg zHdC, .agg #[.slice none 0 0, .slice none 0 0], .agg (List.replicate 32 (bv 0)).toArray], []⟩).memory Tryz.f5.params.toList Rows.blockHeadsSpec.vars false (#[.agg zTrC, .agg zHdC, .agg #[.slice none 0 0, .slice none 0 0], .agg (List.replicate 32 (bv 0)).toArray] : Array Value).toList 8 = some ([.agg [.nil, .lit (.int .i64 0)], .agg [.lit (.int .i64 0), .agg (List.replicate 32 (.lit (.int .u8 0))), .agg (List.replicate 32 (.lit (.int .u8 0))), .agg (List.replicate 32 (.lit (.int .u8 0))), .lit (.int .i64 0)], .agg [.nil, .nil], .agg (List.replicate 32 (.lit (.int .u8 0)))], [], places) :=
 ⟨[], by kernel_rfl⟩
set_option maxRecDepth 100000 in
theorem lifted (os : Os) (started : os.Started) (H : Type) (enc : TypeId × Value → H) (F : Stop.Interp) :
  ReturnsInHanded {} Tryz.checked os 5 .any ((OpenSpec.ofChange Rows.blockHeadsSpec).preRow enc Tryz.prog Tryz.f5 Rows.blockHeadsRow.domain false Rows.blockHeadsRow.laid) (((OpenSpec.ofChange Rows.blockHeadsSpec).at F).post enc Tryz.prog Tryz.f5 false true false false) := by
 obtain ⟨places, hx⟩ := reads os enc
 refine returnsInHanded_of_row (C := Tryz.checked) (s := OpenSpec.ofChange Rows.blockHeadsSpec) own started (by kernel_rfl) Tryz.func5
  (witness_row_at (enc := enc) (C := Tryz.checked) false (laidWorld os) #[.agg zTrC, .agg zHdC, .agg #[.slice none 0 0, .slice none 0 0], .agg (List.replicate 32 (bv 0)).toArray] rfl (by kernel_rfl) (by kernel_rfl) (by kernel_rfl)
   (OpenSpec.preRow_of_cond 8 hx (by kernel_rfl) (fun k hk => by cases hk) (by kernel_rfl) (laid_met os))) ?_
 intro W base args ds gs before hval hW _ _ _ hL _ _
 exact contract H enc W base args ds gs before hval hW hL
theorem said : Rows.BlockHeadsSaid :=
 OpenClaim.holds_of_cond 5 Tryz.f5 rfl rfl rfl rfl rfl rfl rfl ⟨rfl, rfl, rfl, rfl, rfl⟩ rfl rfl rfl rfl rfl (by kernel_rfl) Tryz.func5 (by kernel_rfl)
  (of_decide_eq_true (by kernel_rfl)) (by unfold Func.isWrapper; first | (rw [if_pos (by decide +kernel)]; kernel_rfl) | (rw [if_neg (by decide +kernel)]; exact ⟨rfl, rfl⟩))
  (fun os started H enc _ F => by rw [OpenClaim.pre_eq_preRow]; exact lifted os started H enc F)
set_option maxRecDepth 100000 in
theorem plain (f : FuncId) (fn : Func) (hf : Tryz.pinned.checked.prog.funcNamed "beadroll/beadrolllaw16.BlockHeads" = some f) (hfn : Tryz.pinned.checked.prog.funcs[f]? = some fn) :
  false = Tryz.pinned.checked.prog.looks [] ∧ ∀ (j : Nat) t, fn.params[j]? = some t → Tryz.pinned.checked.prog.wantsStandIn t = false := by
 obtain rfl : f = 5 := Option.some.inj ((show Tryz.prog.funcNamed "beadroll/beadrolllaw16.BlockHeads" = some 5 by kernel_rfl).symm.trans hf) |>.symm
 obtain rfl : fn = Tryz.f5 := (Option.some.inj (Tryz.func5.symm.trans hfn)).symm
 refine ⟨by kernel_rfl, fun j t ht => ?_⟩
 rw [Tryz.params5] at ht
 have hm := Array.mem_of_getElem? ht
 simp only [List.mem_toArray, List.mem_cons, List.not_mem_nil, or_false] at hm
 rcases hm with rfl | rfl | rfl | rfl
 all_goals first | exact (show Tryz.prog.wantsStandIn 24 = false by kernel_rfl) | exact (show Tryz.prog.wantsStandIn 28 = false by kernel_rfl) | exact (show Tryz.prog.wantsStandIn 36 = false by kernel_rfl) | exact (show Tryz.prog.wantsStandIn 26 = false by kernel_rfl)
set_option maxRecDepth 100000 in
theorem proved : Rows.BlockHeadsCardSaid :=
 Claim7.holds_tied_plain_at .later [] _ _ _ _ said (fun _ h => by cases h) (by kernel_rfl) (fun _ h => by cases h) blockHeads_row_tie rfl ⟨rfl, rfl⟩ (by kernel_rfl) rfl plain (by kernel_rfl)
#print axioms proved
end Go.Proofs.YtihhnnajkckkeaaGreatDoor.blockHeads
