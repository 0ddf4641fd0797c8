/-
  The Go function PurseOthers returns true: the accounts of none who is named stay; a transaction is paid once: any tree, transaction, box and key; its arguments read afterwards as before.
  Conditions: none. The frame around the walk was written by program (proof-skeleton.mjs).
-/
import Derived.Test.YtmjocmogfckmmaaDoorRows
import Derived.Test.YtmjocmogfckmmaaDoorDoor
import Derived.WalkKit
import Derived.ProofKit
import Derived.OpenShut
import Derived.ShutString
import Derived.ChangeOld
import Derived.Below
import Derived.Test.YtmjocmogfckmmaaDoorAlive15
import Derived.Test.YtmjocmogfckmmaaDoorRf6
import Derived.Test.YtmjocmogfckmmaaDoorStX
import Derived.Test.YtmjocmogfckmmaaDoorBits
namespace Go.Proofs.YtmjocmogfckmmaaDoor.purseOthers
open Go.ChangeShapes Go.WideShapes Go.ChangeAt Go.RowKit
open Go.ChangeMaps (open_string shut_string)
set_option linter.unusedVariables false

theorem own : ownKnob Tryd.prog.godebug = none := by kernel_rfl
theorem laidOut : laidOutB Tryd.prog = true := by kernel_rfl

/-- WHAT THE WALK IS TOLD OF A SLICE OF INTEGERS THAT CAME IN: it is nil; or it leads to a row of 'cap' cells, the numbers 'zs' (the first 'len' are its elements, the rest its spare room), each fitting its kind. -/
def IsRow (k : IntKind) (w : World) (a : Option Addr) (len cap : Nat) (zs : List Int) : Prop :=
  (a = none ∧ len = 0 ∧ cap = 0 ∧ zs = []) ∨
  ∃ x, a = some x ∧ len ≤ cap ∧ cap ≤ maxLen ∧ zs.length = cap ∧ (∀ i, i < zs.length → w.cell? (x.add i) = some (.int k (zs.getD i 0))) ∧ ∀ n ∈ zs, (Lit.int k n).wf = true

/-! ### the walk -/
open Go.Proofs.YtmjocmogfckmmaaDoor
theorem boxes4P (w : World) (A : Option Addr) (n c : Nat) (root : Int) (l m q : List Value) (t u v y : TypeId) :
    BoxT ((((w.alloc (.cells #[.slice A n c, .int .i64 root] t)).alloc (.cells l.toArray u)).alloc (.cells m.toArray v)).alloc (.cells q.toArray y)) w.heap.size A n c root ∧
    ((((w.alloc (.cells #[.slice A n c, .int .i64 root] t)).alloc (.cells l.toArray u)).alloc (.cells m.toArray v)).alloc (.cells q.toArray y)).rangeAt (w.heap.size + 1) 0 l ∧
    ((((w.alloc (.cells #[.slice A n c, .int .i64 root] t)).alloc (.cells l.toArray u)).alloc (.cells m.toArray v)).alloc (.cells q.toArray y)).rangeAt (w.heap.size + 1 + 1) 0 m ∧
    ((((w.alloc (.cells #[.slice A n c, .int .i64 root] t)).alloc (.cells l.toArray u)).alloc (.cells m.toArray v)).alloc (.cells q.toArray y)).rangeAt (w.heap.size + 1 + 1 + 1) 0 q ∧
    Below w.heap.size w ((((w.alloc (.cells #[.slice A n c, .int .i64 root] t)).alloc (.cells l.toArray u)).alloc (.cells m.toArray v)).alloc (.cells q.toArray y)) := by
  have h1 := BoxT.new w A n c root t
  have b1 := ext_alloc w (.cells #[.slice A n c, .int .i64 root] t)
  have h2 := rangeOf (heap_alloc_new (w.alloc (.cells #[.slice A n c, .int .i64 root] t)) (.cells l.toArray u))
  have h3 := rangeOf (heap_alloc_new ((w.alloc (.cells #[.slice A n c, .int .i64 root] t)).alloc (.cells l.toArray u)) (.cells m.toArray v))
  have h4 := rangeOf (heap_alloc_new (((w.alloc (.cells #[.slice A n c, .int .i64 root] t)).alloc (.cells l.toArray u)).alloc (.cells m.toArray v)) (.cells q.toArray y))
  simp only [World.size_alloc] at h2 h3 h4
  exact ⟨((h1.bel (ext_alloc _ _)).bel (ext_alloc _ _)).bel (ext_alloc _ _), rangeBel2 (ext_alloc _ _) (rangeBel2 (ext_alloc _ _) h2), rangeBel2 (ext_alloc _ _) h3, h4, ext_trans (ext_trans (ext_trans b1 (ext_alloc _ _)) (ext_alloc _ _)) (ext_alloc _ _)⟩
set_option linter.unusedSimpArgs false
set_option maxRecDepth 100000 in
set_option maxHeartbeats 16000000 in
theorem walk (x0 : Tr) (vs0 : List Value) (x1 : Tx) (vs1 : List Value) (l2 : List UInt8) (l3 : List UInt8) (w : World) (w0 : Enc.rep (fun b => b < w.heap.size) w x0 vs0) (w1 : Enc.rep (fun b => b < w.heap.size) w x1 vs1) (w2 : l2.length = 32) (w3 : l3.length = 32) (hT : Tab w) :
    Calls Tryd.prog 5 #[.agg vs0.toArray, .agg vs1.toArray, .agg (l2.map bv).toArray, .agg (l3.map bv).toArray] w fun e w' => e = .returned (.bool true) ∧ Below w.heap.size w w' := by
  obtain ⟨A0, c0, rfl, hc0, hm0, hr, hI⟩ := rep_tr w0
  obtain ⟨ns, root⟩ := x0
  obtain ⟨rfl, hx⟩ := rep_tx w1
  obtain ⟨box, rfl⟩ : ∃ k : Dg, l2 = k.1 := ⟨⟨l2, w2⟩, rfl⟩
  obtain ⟨k, rfl⟩ : ∃ k : Dg, l3 = k.1 := ⟨⟨l3, w3⟩, rfl⟩
  generalize x1 = xa at *
  dsimp only at *
  have hcm : ns.length ≤ 9223372036854775807 := by unfold maxLen at hm0; omega
  obtain ⟨T0, Y0, D0, U0, W0⟩ := boxes4P w A0 ns.length c0 root (txC xa) (box.1.map bv) (k.1.map bv) 27 34 23 23
  have hut := Tryd.underlying27
  have hux := Tryd.underlying34
  have hu := Tryd.underlying23
  have hua := Tryd.underlying47
  have hiT := hid (show (Tryd.prog.info? 27).map (·.size) = some ([Value.slice A0 ns.length c0, .int .i64 root]).length from sizeTr)
  have hiD := hid (sizeDgT box)
  have hiU := hid (sizeDgT k)
  have hiE := hid (sizeDgT xa.t)
  have jxa := hid (sizeTx xa)
  have BX := BoxX.of Y0
  have J0 := hid BX.t
  have C0 := hid BX.n
  have R0 := hid (hr.bel W0)
  have H0 := hid (hT.bel W0 hT.low)
  have hlow := hid hT.low
  obtain ⟨gb, hgb⟩ : ∃ gb, greatT ns 600 = gb := ⟨_, rfl⟩
  have hGr := fun W hW => RGreatT_any (fun b => b < w.heap.size) A0 c0 600 ns root W hW hcm
  rw [hgb] at hGr
  replace hGr := hid hGr
  replace hgb := hid hgb
  replace T0 := hid T0
  replace Y0 := hid Y0
  replace D0 := hid D0
  replace U0 := hid U0
  replace W0 := hid W0
  have hAl := hid (fun W hT => alive15_any W hT)
  have hFr := hid (fun W hT => PTxFrom_any xa hx W hT)
  obtain ⟨k1, hk1⟩ : ∃ b, decide (k = fromX xa) = b := ⟨_, rfl⟩
  obtain ⟨k2, hk2⟩ : ∃ b, decide (k = xa.t) = b := ⟨_, rfl⟩
  obtain ⟨k3, hk3⟩ : ∃ b, decide (k = box) = b := ⟨_, rfl⟩
  have hE1 : ∀ W, (Op.equalIn 10000 23 (.agg (k.1.map bv).toArray) (.agg ((fromX xa).1.map bv).toArray)).run Tryd.prog W = .ok k1 W := fun W => eqd_is k (fromX xa) k1 hk1 W
  have hE2 : ∀ W, (Op.equalIn 10000 23 (.agg (k.1.map bv).toArray) (.agg (xa.t.1.map bv).toArray)).run Tryd.prog W = .ok k2 W := fun W => eqd_is k xa.t k2 hk2 W
  have hE3 : ∀ W, (Op.equalIn 10000 23 (.agg (k.1.map bv).toArray) (.agg (box.1.map bv).toArray)).run Tryd.prog W = .ok k3 W := fun W => eqd_is k box k3 hk3 W
  replace hk1 := hid hk1
  replace hk2 := hid hk2
  replace hk3 := hid hk3
  clear hT hr w0 w1 w2 w3 hI BX
  go_enter Tryd.func5, Tryd.ntmps5
  go_wp2_with fail
  generalize (((w.alloc (.cells #[.slice A0 ns.length c0, .int .i64 root] 27)).alloc (.cells (txC xa).toArray 34)).alloc (.cells (box.1.map bv).toArray 23)).alloc (.cells (k.1.map bv).toArray 23) = w0 at *
  refine (hAl.out _ H0.out).mono ?_
  rintro e w1 ⟨rfl, hb⟩
  have T1 := hid (T0.out.bel hb)
  have Y1 := hid (rangeBel2 hb Y0.out)
  have D1 := hid (rangeBel2 hb D0.out)
  have U1 := hid (rangeBel2 hb U0.out)
  have J1 := hid (rangeBel2 hb J0.out)
  have C1 := hid ((hb.cell (World.block_lt_of_cell? _ _ C0.out)).trans C0.out)
  have R1 := hid (R0.out.bel hb)
  have H1 := hid (H0.out.bel hb (Nat.lt_of_lt_of_le hlow.out W0.out.size))
  have W1 := hid (W0.out.trans (hb.mono W0.out.size))
  clear T0 Y0 D0 U0 J0 C0 R0 H0 W0
  clear hb hAl
  go_wp2_with (first
    | ((with_reducible refine wpList_load_rng rfl 27 (.tmp 4) rfl w.heap.size 0 rfl [Value.slice A0 ns.length c0, .int .i64 root] _ ?_ hut rfl hiT.out ?_); exact T1.out.all))
  refine (hGr.out _ R1.out).mono ?_
  rintro e w2 ⟨rfl, hb⟩
  have T2 := hid (T1.out.bel hb)
  have Y2 := hid (rangeBel2 hb Y1.out)
  have D2 := hid (rangeBel2 hb D1.out)
  have U2 := hid (rangeBel2 hb U1.out)
  have J2 := hid (rangeBel2 hb J1.out)
  have C2 := hid ((hb.cell (World.block_lt_of_cell? _ _ C1.out)).trans C1.out)
  have R2 := hid (R1.out.bel hb)
  have H2 := hid (H1.out.bel hb (Nat.lt_of_lt_of_le hlow.out W1.out.size))
  have W2 := hid (W1.out.trans (hb.mono W1.out.size))
  clear T1 Y1 D1 U1 J1 C1 R1 H1 W1
  clear hb hGr
  cases gb with
  | true =>
    go_wp2
    go_ret
    exact ⟨rfl, W2.out⟩
  | false =>
    obtain ⟨hlen, hvs⟩ := greatT_no hgb.out
    clear hgb hvs
    by_cases hz : payTE ⟨ns, root⟩ xa = 0
    case neg =>
      have hc : payTC ⟨ns, root⟩ xa box = 0 := by unfold payTC; rw [if_neg hz]
      have hPy := hid (fun W hW hT => pay_q (fun b => b < w.heap.size) A0 c0 ns root xa box W hx hW (by omega) hT 0 (payTE ⟨ns, root⟩ xa) (fun o => o = ⟨[], 0⟩) hc rfl (fun o ho => pay_no hz ho))
      have hzn : (payTE ⟨ns, root⟩ xa != 0) = true := bne_iff_ne.2 hz
      generalize payTE ⟨ns, root⟩ xa = pz at *
      clear hc hz
      go_wp2_with (first
        | ((with_reducible refine wpList_load_rng rfl 27 (.tmp 4) rfl w.heap.size 0 rfl [Value.slice A0 ns.length c0, .int .i64 root] _ ?_ hut rfl hiT.out ?_); exact T2.out.all)
        | ((with_reducible refine wpList_load_rng rfl 34 (.tmp 5) rfl (w.heap.size + 1) 0 rfl (txC xa) _ ?_ hux rfl jxa.out ?_); exact Y2.out)
        | ((with_reducible refine wpList_load_rng rfl 23 (.tmp 6) rfl (w.heap.size + 1 + 1) 0 rfl (box.1.map bv) _ ?_ hu rfl hiD.out ?_); exact D2.out))
      refine (hPy.out _ R2.out H2.out).mono ?_
      rintro e w3 ⟨⟨na3, ra3⟩, ad3, cd3, rfl, ho, hb, hok3⟩
      dsimp only at ho hok3 ⊢
      have T3 := hid (T2.out.bel hb)
      have Y3 := hid (rangeBel2 hb Y2.out)
      have D3 := hid (rangeBel2 hb D2.out)
      have U3 := hid (rangeBel2 hb U2.out)
      have J3 := hid (rangeBel2 hb J2.out)
      have C3 := hid ((hb.cell (World.block_lt_of_cell? _ _ C2.out)).trans C2.out)
      have R3 := hid (R2.out.bel hb)
      have H3 := hid (H2.out.bel hb (Nat.lt_of_lt_of_le hlow.out W2.out.size))
      have W3 := hid (W2.out.trans (hb.mono W2.out.size))
      clear T2 Y2 D2 U2 J2 C2 R2 H2 W2
      have E3 := hid (OwnR.row ho)
      replace hok3 := hid hok3
      clear hb ho hPy
      have hno := hok3.out
      injection hno with hn0 hr0
      subst hn0 hr0
      simp only [List.length_nil]
      have e3 := hid (heap_alloc_new w3 (.cells zTrC 27))
      have hiF := hid (show (Tryd.prog.info? 27).map (·.size) = some ([Value.slice ad3 0 cd3, .int .i64 0]).length from sizeTr)
      go_wp2_with (first
        | (with_reducible refine wpList_alloc_row rfl 27 rfl zTrC zInfoTr ?_)
        | ((with_reducible refine wpList_store_row rfl 27 (.tmp 10) (.tmp 35) rfl _ _ rfl rfl 27 zTrC ?_ ?_ ?_ ?_ ?_); exact e3.out; exact sizeTr; rfl; exact one_trP ad3 0 cd3 0; intro w4 hgS hbS hsS; have X4 := hid (xnewP rfl hbS); have lt4 := hid (block_lt hgS); have F4 := hid (BoxT.of (rangeOf (l := [Value.slice ad3 0 cd3, .int .i64 0]) hgS)); clear hgS hbS hsS; have T4 := hid (T3.out.bel X4.out); have Y4 := hid (rangeBel2 X4.out Y3.out); have D4 := hid (rangeBel2 X4.out D3.out); have U4 := hid (rangeBel2 X4.out U3.out); have J4 := hid (rangeBel2 X4.out J3.out); have C4 := hid ((X4.out.cell (World.block_lt_of_cell? _ _ C3.out)).trans C3.out); have R4 := hid (R3.out.bel X4.out); have H4 := hid (H3.out.bel X4.out (Nat.lt_of_lt_of_le hlow.out W3.out.size)); have W4 := hid (W3.out.trans (X4.out.mono W3.out.size)); have E4 := hid (E3.out.bel X4.out); clear T3 Y3 D3 U3 J3 C3 R3 H3 W3 E3; have y4 := F4.out.all 0 _ rfl))
      go_ret
      exact ⟨rfl, W4.out⟩
    case pos =>
      obtain ⟨hma, hsg, hnx⟩ := payTE_zero hz
      have hPy := fun W hW hT => pay_q (fun b => b < w.heap.size) A0 c0 ns root xa box W hx hW (by omega) hT (payTC ⟨ns, root⟩ xa box) 0 (fun o => mayA o = true ∧ o.ns.length ≤ 1800 ∧ (getA o (fromX xa)).n = xa.n + 1 ∧ payTE o xa = 2 ∧ (k1 = false → k2 = false → k3 = false → getA o k = getA ⟨ns, root⟩ k)) rfl hz (fun o ho => ⟨(pay_yes hz ho).1, by have := (pay_yes hz ho).2.2.1; dsimp only at this; omega, pay_next hz ho, pay_again hz ho, fun e1 e2 e3 => pay_others hz ho (of_decide_eq_false (hk1.out.trans e1)) (of_decide_eq_false (hk2.out.trans e2)) (of_decide_eq_false (hk3.out.trans e3))⟩)
      have hGt := fun W hW => PAcGet_any (fun b => b < w.heap.size) A0 c0 ns root k W hW (by omega)
      rw [hma, if_pos rfl] at hGt
      have hGo := hid (fun (o : Tr) (F : Nat → Prop) (A : Option Addr) (c : Nat) (kk : Dg) (W : World) (hW : Row F W A o.ns) (h1 : mayA o = true) (h2 : o.ns.length ≤ 1800) => (show Calls Tryd.prog 16 #[.agg #[.slice A o.ns.length c, .int .i64 o.root], .agg (kk.1.map bv).toArray] W fun e w' => e = .returned (.tuple #[.agg (acC (getA o kk)).toArray, .int .i64 0]) ∧ Below W.heap.size W w' from by have := PAcGet_any F A c o.ns o.root kk W hW (by omega); rw [h1, if_pos rfl] at this; exact this))
      have hPa := hid (fun (o : Tr) (F : Nat → Prop) (A : Option Addr) (c : Nat) (W : World) (hW : Row F W A o.ns) (h2 : o.ns.length ≤ 1800) (h3 : payTE o xa = 2) hT => pay_q F A c o.ns o.root xa box W hx hW (by omega) hT (payTC o xa box) 2 (fun _ => True) rfl h3 (fun _ _ => trivial))
      have hw : IntKind.u64.wrap ((xa.n : Int) + 1) = ((xa.n + 1 : Nat) : Int) := by
        have := next_ok hnx
        unfold nextB at hnx
        simp only [Bool.and_eq_true, decide_eq_true_eq] at hnx
        rw [IntKind.wrap_u64]
        omega
      have hoks : ∀ (o : Tr) (kk : Dg), (getA o kk).ok := fun o kk => by
        unfold getA
        split
        · exact inA_ok _ _
        · exact ac0_ok
      replace hoks := hid hoks
      obtain ⟨gp, hgp⟩ : ∃ y, getA ⟨ns, root⟩ k = y := ⟨_, rfl⟩
      have hgpo := hoks.out ⟨ns, root⟩ k
      rw [hgp] at hGt hPy hgpo
      have ngp := hid (one_ac gp)
      have jgp := hid (show (Tryd.prog.info? 47).map (·.size) = some (acC gp).length from sizeAc)
      replace hGt := hid hGt
      replace hPy := hid hPy
      generalize payTC ⟨ns, root⟩ xa box = pc at *
      obtain ⟨sn, hsn⟩ : ∃ s : Int, ((xa.n + 1 : Nat) : Int) = s := ⟨_, rfl⟩
      rw [hsn] at hw
      replace hsn := hid hsn
      clear hgp hma hsg hnx hz
      go_wp2_with (first
        | ((with_reducible refine wpList_load_rng rfl 27 (.tmp 4) rfl w.heap.size 0 rfl [Value.slice A0 ns.length c0, .int .i64 root] _ ?_ hut rfl hiT.out ?_); exact T2.out.all)
        | ((with_reducible refine wpList_load_rng rfl 34 (.tmp 5) rfl (w.heap.size + 1) 0 rfl (txC xa) _ ?_ hux rfl jxa.out ?_); exact Y2.out)
        | ((with_reducible refine wpList_load_rng rfl 23 (.tmp 6) rfl (w.heap.size + 1 + 1) 0 rfl (box.1.map bv) _ ?_ hu rfl hiD.out ?_); exact D2.out))
      refine (hPy.out _ R2.out H2.out).mono ?_
      rintro e w3 ⟨⟨na3, ra3⟩, ad3, cd3, rfl, ho, hb, hok3⟩
      dsimp only at ho hok3 ⊢
      have T3 := hid (T2.out.bel hb)
      have Y3 := hid (rangeBel2 hb Y2.out)
      have D3 := hid (rangeBel2 hb D2.out)
      have U3 := hid (rangeBel2 hb U2.out)
      have J3 := hid (rangeBel2 hb J2.out)
      have C3 := hid ((hb.cell (World.block_lt_of_cell? _ _ C2.out)).trans C2.out)
      have R3 := hid (R2.out.bel hb)
      have H3 := hid (H2.out.bel hb (Nat.lt_of_lt_of_le hlow.out W2.out.size))
      have W3 := hid (W2.out.trans (hb.mono W2.out.size))
      clear T2 Y2 D2 U2 J2 C2 R2 H2 W2
      have E3 := hid (OwnR.row ho)
      replace hok3 := hid hok3
      clear hb ho hPy
      obtain ⟨q1, q2, q3, q4, q5⟩ := hok3.out
      have hG1 := hid (fun F A c W hW => hGo.out ⟨na3, ra3⟩ F A c k W hW q1 q2)
      have hG2 := hid (fun F A c W hW => hGo.out ⟨na3, ra3⟩ F A c (fromX xa) W hW q1 q2)
      have hP2 := hid (fun F A c W hW hT => hPa.out ⟨na3, ra3⟩ F A c W hW q2 q4 hT)
      have hgqo := hoks.out ⟨na3, ra3⟩ k
      dsimp only at hG1 hG2 hP2
      obtain ⟨gq, hgq⟩ : ∃ y, getA ⟨na3, ra3⟩ k = y := ⟨_, rfl⟩
      obtain ⟨gs, hgs⟩ : ∃ y, getA ⟨na3, ra3⟩ (fromX xa) = y := ⟨_, rfl⟩
      rw [hgq] at hG1 q5 hgqo
      rw [hgs] at hG2 q3
      have ngq := hid (one_ac gq)
      have jgq := hid (show (Tryd.prog.info? 47).map (·.size) = some (acC gq).length from sizeAc)
      have ngs := hid (one_ac gs)
      have jgs := hid (show (Tryd.prog.info? 47).map (·.size) = some (acC gs).length from sizeAc)
      have q3' := hid (show ((gs.n : Nat) : Int) = sn by rw [q3, hsn.out])
      have q5' := hid q5
      generalize payTC ⟨na3, ra3⟩ xa box = pd at *
      clear hgq hgs q1 q2 q3 q4 q5 hGo hPa hoks hok3
      have e3 := hid (heap_alloc_new w3 (.cells zTrC 27))
      have hiF := hid (show (Tryd.prog.info? 27).map (·.size) = some ([Value.slice ad3 na3.length cd3, .int .i64 ra3]).length from sizeTr)
      go_wp2_with (first
        | (with_reducible refine wpList_alloc_row rfl 27 rfl zTrC zInfoTr ?_)
        | ((with_reducible refine wpList_store_row rfl 27 (.tmp 10) (.tmp 35) rfl _ _ rfl rfl 27 zTrC ?_ ?_ ?_ ?_ ?_); exact e3.out; exact sizeTr; rfl; exact one_trP ad3 na3.length cd3 ra3; intro w4 hgS hbS hsS; have X4 := hid (xnewP rfl hbS); have lt4 := hid (block_lt hgS); have F4 := hid (BoxT.of (rangeOf (l := [Value.slice ad3 na3.length cd3, .int .i64 ra3]) hgS)); clear hgS hbS hsS; have T4 := hid (T3.out.bel X4.out); have Y4 := hid (rangeBel2 X4.out Y3.out); have D4 := hid (rangeBel2 X4.out D3.out); have U4 := hid (rangeBel2 X4.out U3.out); have J4 := hid (rangeBel2 X4.out J3.out); have C4 := hid ((X4.out.cell (World.block_lt_of_cell? _ _ C3.out)).trans C3.out); have R4 := hid (R3.out.bel X4.out); have H4 := hid (H3.out.bel X4.out (Nat.lt_of_lt_of_le hlow.out W3.out.size)); have W4 := hid (W3.out.trans (X4.out.mono W3.out.size)); have E4 := hid (E3.out.bel X4.out); clear T3 Y3 D3 U3 J3 C3 R3 H3 W3 E3)
        | ((with_reducible refine wpList_load_rng rfl 27 (.tmp 4) rfl w.heap.size 0 rfl [Value.slice A0 ns.length c0, .int .i64 root] _ ?_ hut rfl hiT.out ?_); exact T4.out.all)
        | ((with_reducible refine wpList_load_rng rfl 23 (.tmp 7) rfl (w.heap.size + 1 + 1 + 1) 0 rfl (k.1.map bv) _ ?_ hu rfl hiU.out ?_); exact U4.out))
      refine (hGt.out _ R4.out).mono ?_
      rintro e w5 ⟨rfl, hb⟩
      have T5 := hid (T4.out.bel hb)
      have Y5 := hid (rangeBel2 hb Y4.out)
      have D5 := hid (rangeBel2 hb D4.out)
      have U5 := hid (rangeBel2 hb U4.out)
      have J5 := hid (rangeBel2 hb J4.out)
      have C5 := hid ((hb.cell (World.block_lt_of_cell? _ _ C4.out)).trans C4.out)
      have R5 := hid (R4.out.bel hb)
      have H5 := hid (H4.out.bel hb (Nat.lt_of_lt_of_le hlow.out W4.out.size))
      have W5 := hid (W4.out.trans (hb.mono W4.out.size))
      have E5 := hid (E4.out.bel hb)
      have F5 := hid (F4.out.bel hb)
      clear T4 Y4 D4 U4 J4 C4 R4 H4 W4 E4 F4
      clear hb hGt
      have e5 := hid (heap_alloc_new w5 (.cells (acC ac0).toArray 47))
      go_wp2_with (first
        | (with_reducible refine wpList_alloc_row rfl 47 rfl (acC ac0).toArray zInfoAc ?_)
        | ((with_reducible refine wpList_store_row rfl 47 (.tmp 13) (.tmp 55) rfl _ _ rfl rfl 47 (acC ac0).toArray ?_ ?_ ?_ ?_ ?_); exact e5.out; exact sizeAc; rfl; exact ngp.out; intro w6 hgS hbS hsS; have X6 := hid (xnewP rfl hbS); have Q6 := hid (rangeOf (l := acC gp) hgS); clear hgS hbS hsS; have T6 := hid (T5.out.bel X6.out); have Y6 := hid (rangeBel2 X6.out Y5.out); have D6 := hid (rangeBel2 X6.out D5.out); have U6 := hid (rangeBel2 X6.out U5.out); have J6 := hid (rangeBel2 X6.out J5.out); have C6 := hid ((X6.out.cell (World.block_lt_of_cell? _ _ C5.out)).trans C5.out); have R6 := hid (R5.out.bel X6.out); have H6 := hid (H5.out.bel X6.out (Nat.lt_of_lt_of_le hlow.out W5.out.size)); have W6 := hid (W5.out.trans (X6.out.mono W5.out.size)); have E6 := hid (E5.out.bel X6.out); have F6 := hid (F5.out.bel X6.out); clear T5 Y5 D5 U5 J5 C5 R5 H5 W5 E5 F5)
        | ((with_reducible refine wpList_load_rng rfl 27 (.tmp 10) rfl w3.heap.size 0 rfl [Value.slice ad3 na3.length cd3, .int .i64 ra3] _ ?_ hut rfl hiF.out ?_); exact F6.out.all)
        | ((with_reducible refine wpList_load_rng rfl 23 (.tmp 7) rfl (w.heap.size + 1 + 1 + 1) 0 rfl (k.1.map bv) _ ?_ hu rfl hiU.out ?_); exact U6.out))
      refine (hG1.out _ ad3 cd3 _ E6.out).mono ?_
      rintro e w7 ⟨rfl, hb⟩
      have T7 := hid (T6.out.bel hb)
      have Y7 := hid (rangeBel2 hb Y6.out)
      have D7 := hid (rangeBel2 hb D6.out)
      have U7 := hid (rangeBel2 hb U6.out)
      have J7 := hid (rangeBel2 hb J6.out)
      have C7 := hid ((hb.cell (World.block_lt_of_cell? _ _ C6.out)).trans C6.out)
      have R7 := hid (R6.out.bel hb)
      have H7 := hid (H6.out.bel hb (Nat.lt_of_lt_of_le hlow.out W6.out.size))
      have W7 := hid (W6.out.trans (hb.mono W6.out.size))
      have E7 := hid (E6.out.bel hb)
      have F7 := hid (F6.out.bel hb)
      have Q7 := hid (rangeBel2 hb Q6.out)
      clear T6 Y6 D6 U6 J6 C6 R6 H6 W6 E6 F6 Q6
      clear hb hG1
      have e7 := hid (heap_alloc_new w7 (.cells (acC ac0).toArray 47))
      go_wp2_with (first
        | (with_reducible refine wpList_alloc_row rfl 47 rfl (acC ac0).toArray zInfoAc ?_)
        | ((with_reducible refine wpList_store_row rfl 47 (.tmp 15) (.tmp 61) rfl _ _ rfl rfl 47 (acC ac0).toArray ?_ ?_ ?_ ?_ ?_); exact e7.out; exact sizeAc; rfl; exact ngq.out; intro w8 hgS hbS hsS; have X8 := hid (xnewP rfl hbS); have V8 := hid (rangeOf (l := acC gq) hgS); clear hgS hbS hsS; have T8 := hid (T7.out.bel X8.out); have Y8 := hid (rangeBel2 X8.out Y7.out); have D8 := hid (rangeBel2 X8.out D7.out); have U8 := hid (rangeBel2 X8.out U7.out); have J8 := hid (rangeBel2 X8.out J7.out); have C8 := hid ((X8.out.cell (World.block_lt_of_cell? _ _ C7.out)).trans C7.out); have R8 := hid (R7.out.bel X8.out); have H8 := hid (H7.out.bel X8.out (Nat.lt_of_lt_of_le hlow.out W7.out.size)); have W8 := hid (W7.out.trans (X8.out.mono W7.out.size)); have E8 := hid (E7.out.bel X8.out); have F8 := hid (F7.out.bel X8.out); have Q8 := hid (rangeBel2 X8.out Q7.out); clear T7 Y7 D7 U7 J7 C7 R7 H7 W7 E7 F7 Q7))
      refine wp_region_noPanic ?_
      refine wp_region_held_drew (S := fun w' => Below w8.heap.size w8 w') (by kernel_rfl) ?_ (fun hHeld => ?_)
      · exact bel_drew w8
      refine' tkH 0 rfl (yieldsIf_load_mid (by rfl) _ _ rfl _ _ rfl _ _ (fun _ h => rangeBel2 h F8.out.all) hut rfl hiF.out) ?_
      try simp only [Act.put, sQ]
      refine' tkH 1 rfl (yieldsIf_load_mid (by rfl) _ _ rfl _ _ rfl _ _ (fun _ h => rangeBel2 h Y8.out) hux rfl jxa.out) ?_
      try simp only [Act.put, sQ]
      refine wpAnyH_ready (rs := [2, 7]) (by kernel_rfl) (by simp) ?_
      refine AllReadyH.cons (o := _) rfl (fun K hK => ?_) ?_
      · skip
        go_simp
        refine (hFr.out _ (H8.out.bel hHeld (Nat.lt_of_lt_of_le hlow.out W8.out.size))).mono ?_
        rintro e v2 ⟨rfl, hB⟩
        have hB2 := hB
        go_wp2_with fail
        refine hK.out _ _ ?_ (fun hHeld => ?_)
        · exact hHeld.trans (hB.mono hHeld.size)
        clear hK K
        try simp only [Act.put, sQ]
        refine wpAnyH_ready (rs := [3, 7]) (by kernel_rfl) (by simp) ?_
        refine AllReadyH.cons (o := _) rfl (fun K hK => ?_) ?_
        · skip
          go_simp
          refine (hG2.out _ ad3 cd3 _ (E8.out.bel hHeld)).mono ?_
          rintro e v3 ⟨rfl, hB⟩
          have hB3 := hB
          go_wp2_with fail
          refine hK.out _ _ ?_ (fun hHeld => ?_)
          · exact hHeld.trans (hB.mono hHeld.size)
          clear hK K
          try simp only [Act.put, sQ]
          refine' tkL 4 ?_ rfl ?_ ?_
          rotate_left
          · intro W hSw
            go_simp
            first | done | (with_reducible rfl)
          try simp only [Act.put, sQ]
          refine' tkL 5 ?_ rfl ?_ ?_
          rotate_left
          · intro W hSw
            go_simp
            first | done | (with_reducible rfl)
          try simp only [Act.put, sQ]
          refine' tkL 6 ?_ rfl ?_ ?_
          rotate_left
          · intro W hSw
            go_simp
            first | done | (with_reducible rfl)
          try simp only [Act.put, sQ]
          refine wpAnyH_ready (rs := [7]) (by kernel_rfl) (by simp) ?_
          refine AllReadyH.cons (o := _) rfl (fun K hK => ?_) AllReadyH.nil
          refine step_alloc_rowT rfl 47 rfl (acC ac0).toArray zInfoAc ?_
          intro g6 v7 b6 e6 hB
          have z6 := Nat.le_trans hHeld.size b6
          refine hK.out _ _ ?_ (fun hHeld => ?_)
          · exact hHeld.trans (hB.mono hHeld.size)
          clear hK K
          try simp only [Act.put, sQ]
          refine wpAnyH_ready (rs := [8]) (by kernel_rfl) (by simp) ?_
          refine AllReadyH.cons (o := _) rfl (fun K hK => ?_) AllReadyH.nil
          refine step_store_rowT rfl 47 (.tmp 17) (.tmp 68) rfl g6 _ rfl rfl 47 (acC ac0).toArray (by first | exact e6 | exact (hB3.block _ (block_lt e6)).trans e6 | exact (hB3.block _ (block_lt ((hB2.block _ (block_lt e6)).trans e6))).trans ((hB2.block _ (block_lt e6)).trans e6)) sizeAc rfl ngs.out ?_
          intro w9 d6 hG
          refine hK.out _ _ ?_ (fun hHeld => ?_)
          · exact hHeld.grown hG hHeld.size (by intro k hk; injection hk with hk; subst hk; exact z6)
          clear hK K
          try simp only [Act.put, sQ]
          refine' tkL 9 ?_ rfl ?_ ?_
          rotate_left
          · intro W hSw
            go_simp
            first | done | (with_reducible rfl)
          try simp only [Act.put, sQ]
          refine wpAnyH_done (by kernel_rfl) ?_ _
          refine NoPanic.normal ?_
          have T9 := hid (T8.out.bel hHeld)
          have Y9 := hid (rangeBel2 hHeld Y8.out)
          have D9 := hid (rangeBel2 hHeld D8.out)
          have U9 := hid (rangeBel2 hHeld U8.out)
          have J9 := hid (rangeBel2 hHeld J8.out)
          have C9 := hid ((hHeld.cell (World.block_lt_of_cell? _ _ C8.out)).trans C8.out)
          have R9 := hid (R8.out.bel hHeld)
          have H9 := hid (H8.out.bel hHeld (Nat.lt_of_lt_of_le hlow.out W8.out.size))
          have W9 := hid (W8.out.trans (hHeld.mono W8.out.size))
          have E9 := hid (E8.out.bel hHeld)
          have F9 := hid (F8.out.bel hHeld)
          have Q9 := hid (rangeBel2 hHeld Q8.out)
          have V9 := hid (rangeBel2 hHeld V8.out)
          clear T8 Y8 D8 U8 J8 C8 R8 H8 W8 E8 F8 Q8 V8
          have M9 := hid (rangeOf (l := acC gs) d6)
          clear hHeld d6 hG b6 z6
          try clear hB
          try clear e6
          go_wp2_with (first
            | ((with_reducible refine wpList_load_rng rfl 27 (.tmp 10) rfl w3.heap.size 0 rfl [Value.slice ad3 na3.length cd3, .int .i64 ra3] _ ?_ hut rfl hiF.out ?_); exact F9.out.all)
            | ((with_reducible refine wpList_load_rng rfl 34 (.tmp 5) rfl (w.heap.size + 1) 0 rfl (txC xa) _ ?_ hux rfl jxa.out ?_); exact Y9.out)
            | ((with_reducible refine wpList_load_rng rfl 23 (.tmp 6) rfl (w.heap.size + 1 + 1) 0 rfl (box.1.map bv) _ ?_ hu rfl hiD.out ?_); exact D9.out))
          refine (hP2.out _ ad3 cd3 _ E9.out H9.out).mono ?_
          rintro e w10 ⟨⟨na10, ra10⟩, ad10, cd10, rfl, ho, hb, hok10⟩
          dsimp only at ho hok10 ⊢
          have T10 := hid (T9.out.bel hb)
          have Y10 := hid (rangeBel2 hb Y9.out)
          have D10 := hid (rangeBel2 hb D9.out)
          have U10 := hid (rangeBel2 hb U9.out)
          have J10 := hid (rangeBel2 hb J9.out)
          have C10 := hid ((hb.cell (World.block_lt_of_cell? _ _ C9.out)).trans C9.out)
          have R10 := hid (R9.out.bel hb)
          have H10 := hid (H9.out.bel hb (Nat.lt_of_lt_of_le hlow.out W9.out.size))
          have W10 := hid (W9.out.trans (hb.mono W9.out.size))
          have E10 := hid (E9.out.bel hb)
          have F10 := hid (F9.out.bel hb)
          have Q10 := hid (rangeBel2 hb Q9.out)
          have V10 := hid (rangeBel2 hb V9.out)
          have M10 := hid (rangeBel2 hb M9.out)
          clear T9 Y9 D9 U9 J9 C9 R9 H9 W9 E9 F9 Q9 V9 M9
          have G10 := hid (OwnR.row ho)
          replace hok10 := hid hok10
          clear hb ho hP2
          have e10 := hid (heap_alloc_new w10 (.cells zTrC 27))
          have hiS := hid (show (Tryd.prog.info? 27).map (·.size) = some ([Value.slice ad10 na10.length cd10, .int .i64 ra10]).length from sizeTr)
          have hbz : (sn != sn) = false := bne_self_eq_false sn
          have q6 := q3'.out
          go_wp2_with (first
            | (with_reducible refine wpList_alloc_row rfl 27 rfl zTrC zInfoTr ?_)
            | ((with_reducible refine wpList_store_row rfl 27 (.tmp 19) (.tmp 75) rfl _ _ rfl rfl 27 zTrC ?_ ?_ ?_ ?_ ?_); exact e10.out; exact sizeTr; rfl; exact one_trP ad10 na10.length cd10 ra10; intro w11 hgS hbS hsS; have X11 := hid (xnewP rfl hbS); have lt11 := hid (block_lt hgS); have S11 := hid (BoxT.of (rangeOf (l := [Value.slice ad10 na10.length cd10, .int .i64 ra10]) hgS)); clear hgS hbS hsS; have T11 := hid (T10.out.bel X11.out); have Y11 := hid (rangeBel2 X11.out Y10.out); have D11 := hid (rangeBel2 X11.out D10.out); have U11 := hid (rangeBel2 X11.out U10.out); have J11 := hid (rangeBel2 X11.out J10.out); have C11 := hid ((X11.out.cell (World.block_lt_of_cell? _ _ C10.out)).trans C10.out); have R11 := hid (R10.out.bel X11.out); have H11 := hid (H10.out.bel X11.out (Nat.lt_of_lt_of_le hlow.out W10.out.size)); have W11 := hid (W10.out.trans (X11.out.mono W10.out.size)); have E11 := hid (E10.out.bel X11.out); have F11 := hid (F10.out.bel X11.out); have Q11 := hid (rangeBel2 X11.out Q10.out); have V11 := hid (rangeBel2 X11.out V10.out); have M11 := hid (rangeBel2 X11.out M10.out); have G11 := hid (G10.out.bel X11.out); clear T10 Y10 D10 U10 J10 C10 R10 H10 W10 E10 F10 Q10 V10 M10 G10; have m11 := M11.out 0 _ rfl; have c11 := C11.out; rw [q6] at m11))
          cases k1
          case true =>
            refine wp_region_noPanic ?_
            refine wp_region_held_drew (S := fun w' => Below w11.heap.size w11 w') (by kernel_rfl) ?_ (fun hHeld => ?_)
            · exact bel_drew w11
            refine' tkL 0 ?_ rfl ?_ ?_
            rotate_left
            · intro W hSw
              go_simp
              first | done | (with_reducible rfl)
            try simp only [Act.put, sQ]
            refine' tkL 1 ?_ rfl ?_ ?_
            rotate_left
            · intro W hSw
              go_simp
              first | done | (with_reducible rfl)
            try simp only [Act.put, sQ]
            refine' tkH 2 rfl (yieldsIf_load_mid (by rfl) _ _ rfl _ _ rfl _ _ (fun _ h => rangeBel2 h U11.out) hu rfl hiU.out) ?_
            try simp only [Act.put, sQ]
            refine' tkH 3 rfl (yieldsIf_load_mid (by rfl) _ _ rfl _ _ rfl _ _ (fun _ h => rangeBel2 h Y11.out) hux rfl jxa.out) ?_
            try simp only [Act.put, sQ]
            refine wpAnyH_ready (rs := [4]) (by kernel_rfl) (by simp) ?_
            refine AllReadyH.cons (o := _) rfl (fun K hK => ?_) AllReadyH.nil
            go_simp
            refine (hFr.out _ (H11.out.bel hHeld (Nat.lt_of_lt_of_le hlow.out W11.out.size))).mono ?_
            rintro e v4 ⟨rfl, hB⟩
            go_wp2_with fail
            refine hK.out _ _ ?_ (fun hHeld => ?_)
            · exact hHeld.trans (hB.mono hHeld.size)
            clear hK K
            try simp only [Act.put, sQ]
            refine' tkL 5 ?_ rfl ?_ ?_
            rotate_left
            · intro W hSw
              go_simp
              first | done | (with_reducible rfl)
            try simp only [Act.put, sQ]
            refine' tkL 6 ?_ rfl ?_ ?_
            rotate_left
            · intro W hSw
              go_simp
              first | done | (with_reducible rfl)
            try simp only [Act.put, sQ]
            refine' tkR 7 rfl ?_
            try simp only [Act.put, sQ]
            refine' tkR 8 rfl ?_
            try simp only [Act.put, sQ]
            refine' tkR 9 rfl ?_
            try simp only [Act.put, sQ]
            refine' tkR 10 rfl ?_
            try simp only [Act.put, sQ]
            refine' tkL 11 ?_ rfl ?_ ?_
            rotate_left
            · intro W hSw
              go_simp
              first | done | (with_reducible rfl)
            try simp only [Act.put, sQ]
            refine' tkL 12 ?_ rfl ?_ ?_
            rotate_left
            · intro W hSw
              go_simp
              first | done | (with_reducible rfl)
            try simp only [Act.put, sQ]
            refine' tkR 13 rfl ?_
            try simp only [Act.put, sQ]
            refine' tkR 14 rfl ?_
            try simp only [Act.put, sQ]
            refine' tkR 15 rfl ?_
            try simp only [Act.put, sQ]
            refine' tkL 16 ?_ rfl ?_ ?_
            rotate_left
            · intro W hSw
              go_simp
              first | done | (with_reducible rfl)
            try simp only [Act.put, sQ]
            refine' tkL 17 ?_ rfl ?_ ?_
            rotate_left
            · intro W hSw
              go_simp
              first | done | (with_reducible rfl)
            try simp only [Act.put, sQ]
            refine' tkR 18 rfl ?_
            try simp only [Act.put, sQ]
            refine' tkR 19 rfl ?_
            try simp only [Act.put, sQ]
            refine' tkR 20 rfl ?_
            try simp only [Act.put, sQ]
            refine' tkL 21 ?_ rfl ?_ ?_
            rotate_left
            · intro W hSw
              go_simp
              first | done | (with_reducible rfl)
            try simp only [Act.put, sQ]
            refine' tkL 22 ?_ rfl ?_ ?_
            rotate_left
            · intro W hSw
              go_simp
              first | done | (with_reducible rfl)
            try simp only [Act.put, sQ]
            refine' tkL 23 ?_ rfl ?_ ?_
            rotate_left
            · intro W hSw
              go_simp
              first | done | (with_reducible rfl)
            try simp only [Act.put, sQ]
            refine wpAnyH_done (by kernel_rfl) ?_ _
            refine NoPanic.normal ?_
            go_wp2
            go_ret
            exact ⟨rfl, W11.out.trans (hHeld.mono W11.out.size)⟩
          case false =>
            cases k2
            case true =>
              refine wp_region_noPanic ?_
              refine wp_region_held_drew (S := fun w' => Below w11.heap.size w11 w') (by kernel_rfl) ?_ (fun hHeld => ?_)
              · exact bel_drew w11
              refine' tkL 0 ?_ rfl ?_ ?_
              rotate_left
              · intro W hSw
                go_simp
                first | done | (with_reducible rfl)
              try simp only [Act.put, sQ]
              refine' tkL 1 ?_ rfl ?_ ?_
              rotate_left
              · intro W hSw
                go_simp
                first | done | (with_reducible rfl)
              try simp only [Act.put, sQ]
              refine' tkH 2 rfl (yieldsIf_load_mid (by rfl) _ _ rfl _ _ rfl _ _ (fun _ h => rangeBel2 h U11.out) hu rfl hiU.out) ?_
              try simp only [Act.put, sQ]
              refine' tkH 3 rfl (yieldsIf_load_mid (by rfl) _ _ rfl _ _ rfl _ _ (fun _ h => rangeBel2 h Y11.out) hux rfl jxa.out) ?_
              try simp only [Act.put, sQ]
              refine wpAnyH_ready (rs := [4]) (by kernel_rfl) (by simp) ?_
              refine AllReadyH.cons (o := _) rfl (fun K hK => ?_) AllReadyH.nil
              go_simp
              refine (hFr.out _ (H11.out.bel hHeld (Nat.lt_of_lt_of_le hlow.out W11.out.size))).mono ?_
              rintro e v4 ⟨rfl, hB⟩
              go_wp2_with fail
              refine hK.out _ _ ?_ (fun hHeld => ?_)
              · exact hHeld.trans (hB.mono hHeld.size)
              clear hK K
              try simp only [Act.put, sQ]
              refine' tkL 5 ?_ rfl ?_ ?_
              rotate_left
              · intro W hSw
                go_simp
                first | done | (with_reducible rfl)
              try simp only [Act.put, sQ]
              refine' tkL 6 ?_ rfl ?_ ?_
              rotate_left
              · intro W hSw
                go_simp
                first | done | (with_reducible rfl)
              try simp only [Act.put, sQ]
              refine' tkH 7 rfl (yieldsIf_load_mid (by rfl) _ _ rfl _ _ rfl _ _ (fun _ h => rangeBel2 h U11.out) hu rfl hiU.out) ?_
              try simp only [Act.put, sQ]
              refine' tkL 8 ?_ rfl ?_ ?_
              rotate_left
              · intro W hSw
                go_simp
                first | done | (with_reducible rfl)
              try simp only [Act.put, sQ]
              refine' tkH 9 rfl (yieldsIf_load_mid (by rfl) _ _ rfl _ _ rfl _ _ (fun _ h => rangeBel2 h J11.out) hu rfl hiE.out) ?_
              try simp only [Act.put, sQ]
              refine' tkL 10 ?_ rfl ?_ ?_
              rotate_left
              · intro W hSw
                go_simp
                first | done | (with_reducible rfl)
              try simp only [Act.put, sQ]
              refine' tkL 11 ?_ rfl ?_ ?_
              rotate_left
              · intro W hSw
                go_simp
                first | done | (with_reducible rfl)
              try simp only [Act.put, sQ]
              refine' tkL 12 ?_ rfl ?_ ?_
              rotate_left
              · intro W hSw
                go_simp
                first | done | (with_reducible rfl)
              try simp only [Act.put, sQ]
              refine' tkR 13 rfl ?_
              try simp only [Act.put, sQ]
              refine' tkR 14 rfl ?_
              try simp only [Act.put, sQ]
              refine' tkR 15 rfl ?_
              try simp only [Act.put, sQ]
              refine' tkL 16 ?_ rfl ?_ ?_
              rotate_left
              · intro W hSw
                go_simp
                first | done | (with_reducible rfl)
              try simp only [Act.put, sQ]
              refine' tkL 17 ?_ rfl ?_ ?_
              rotate_left
              · intro W hSw
                go_simp
                first | done | (with_reducible rfl)
              try simp only [Act.put, sQ]
              refine' tkR 18 rfl ?_
              try simp only [Act.put, sQ]
              refine' tkR 19 rfl ?_
              try simp only [Act.put, sQ]
              refine' tkR 20 rfl ?_
              try simp only [Act.put, sQ]
              refine' tkL 21 ?_ rfl ?_ ?_
              rotate_left
              · intro W hSw
                go_simp
                first | done | (with_reducible rfl)
              try simp only [Act.put, sQ]
              refine' tkL 22 ?_ rfl ?_ ?_
              rotate_left
              · intro W hSw
                go_simp
                first | done | (with_reducible rfl)
              try simp only [Act.put, sQ]
              refine' tkL 23 ?_ rfl ?_ ?_
              rotate_left
              · intro W hSw
                go_simp
                first | done | (with_reducible rfl)
              try simp only [Act.put, sQ]
              refine wpAnyH_done (by kernel_rfl) ?_ _
              refine NoPanic.normal ?_
              go_wp2
              go_ret
              exact ⟨rfl, W11.out.trans (hHeld.mono W11.out.size)⟩
            case false =>
              cases k3
              case true =>
                refine wp_region_noPanic ?_
                refine wp_region_held_drew (S := fun w' => Below w11.heap.size w11 w') (by kernel_rfl) ?_ (fun hHeld => ?_)
                · exact bel_drew w11
                refine' tkL 0 ?_ rfl ?_ ?_
                rotate_left
                · intro W hSw
                  go_simp
                  first | done | (with_reducible rfl)
                try simp only [Act.put, sQ]
                refine' tkL 1 ?_ rfl ?_ ?_
                rotate_left
                · intro W hSw
                  go_simp
                  first | done | (with_reducible rfl)
                try simp only [Act.put, sQ]
                refine' tkH 2 rfl (yieldsIf_load_mid (by rfl) _ _ rfl _ _ rfl _ _ (fun _ h => rangeBel2 h U11.out) hu rfl hiU.out) ?_
                try simp only [Act.put, sQ]
                refine' tkH 3 rfl (yieldsIf_load_mid (by rfl) _ _ rfl _ _ rfl _ _ (fun _ h => rangeBel2 h Y11.out) hux rfl jxa.out) ?_
                try simp only [Act.put, sQ]
                refine wpAnyH_ready (rs := [4]) (by kernel_rfl) (by simp) ?_
                refine AllReadyH.cons (o := _) rfl (fun K hK => ?_) AllReadyH.nil
                go_simp
                refine (hFr.out _ (H11.out.bel hHeld (Nat.lt_of_lt_of_le hlow.out W11.out.size))).mono ?_
                rintro e v4 ⟨rfl, hB⟩
                go_wp2_with fail
                refine hK.out _ _ ?_ (fun hHeld => ?_)
                · exact hHeld.trans (hB.mono hHeld.size)
                clear hK K
                try simp only [Act.put, sQ]
                refine' tkL 5 ?_ rfl ?_ ?_
                rotate_left
                · intro W hSw
                  go_simp
                  first | done | (with_reducible rfl)
                try simp only [Act.put, sQ]
                refine' tkL 6 ?_ rfl ?_ ?_
                rotate_left
                · intro W hSw
                  go_simp
                  first | done | (with_reducible rfl)
                try simp only [Act.put, sQ]
                refine' tkH 7 rfl (yieldsIf_load_mid (by rfl) _ _ rfl _ _ rfl _ _ (fun _ h => rangeBel2 h U11.out) hu rfl hiU.out) ?_
                try simp only [Act.put, sQ]
                refine' tkL 8 ?_ rfl ?_ ?_
                rotate_left
                · intro W hSw
                  go_simp
                  first | done | (with_reducible rfl)
                try simp only [Act.put, sQ]
                refine' tkH 9 rfl (yieldsIf_load_mid (by rfl) _ _ rfl _ _ rfl _ _ (fun _ h => rangeBel2 h J11.out) hu rfl hiE.out) ?_
                try simp only [Act.put, sQ]
                refine' tkL 10 ?_ rfl ?_ ?_
                rotate_left
                · intro W hSw
                  go_simp
                  first | done | (with_reducible rfl)
                try simp only [Act.put, sQ]
                refine' tkL 11 ?_ rfl ?_ ?_
                rotate_left
                · intro W hSw
                  go_simp
                  first | done | (with_reducible rfl)
                try simp only [Act.put, sQ]
                refine' tkL 12 ?_ rfl ?_ ?_
                rotate_left
                · intro W hSw
                  go_simp
                  first | done | (with_reducible rfl)
                try simp only [Act.put, sQ]
                refine' tkH 13 rfl (yieldsIf_load_mid (by rfl) _ _ rfl _ _ rfl _ _ (fun _ h => rangeBel2 h U11.out) hu rfl hiU.out) ?_
                try simp only [Act.put, sQ]
                refine' tkH 14 rfl (yieldsIf_load_mid (by rfl) _ _ rfl _ _ rfl _ _ (fun _ h => rangeBel2 h D11.out) hu rfl hiD.out) ?_
                try simp only [Act.put, sQ]
                refine' tkL 15 ?_ rfl ?_ ?_
                rotate_left
                · intro W hSw
                  go_simp
                  first | done | (with_reducible rfl)
                try simp only [Act.put, sQ]
                refine' tkL 16 ?_ rfl ?_ ?_
                rotate_left
                · intro W hSw
                  go_simp
                  first | done | (with_reducible rfl)
                try simp only [Act.put, sQ]
                refine' tkL 17 ?_ rfl ?_ ?_
                rotate_left
                · intro W hSw
                  go_simp
                  first | done | (with_reducible rfl)
                try simp only [Act.put, sQ]
                refine' tkR 18 rfl ?_
                try simp only [Act.put, sQ]
                refine' tkR 19 rfl ?_
                try simp only [Act.put, sQ]
                refine' tkR 20 rfl ?_
                try simp only [Act.put, sQ]
                refine' tkL 21 ?_ rfl ?_ ?_
                rotate_left
                · intro W hSw
                  go_simp
                  first | done | (with_reducible rfl)
                try simp only [Act.put, sQ]
                refine' tkL 22 ?_ rfl ?_ ?_
                rotate_left
                · intro W hSw
                  go_simp
                  first | done | (with_reducible rfl)
                try simp only [Act.put, sQ]
                refine' tkL 23 ?_ rfl ?_ ?_
                rotate_left
                · intro W hSw
                  go_simp
                  first | done | (with_reducible rfl)
                try simp only [Act.put, sQ]
                refine wpAnyH_done (by kernel_rfl) ?_ _
                refine NoPanic.normal ?_
                go_wp2
                go_ret
                exact ⟨rfl, W11.out.trans (hHeld.mono W11.out.size)⟩
              case false =>
                have hpq := q5'.out (by first | trivial | rfl) (by first | trivial | rfl) (by first | trivial | rfl)
                subst hpq
                have hE4 : ∀ W, (Op.equalIn 10000 47 (.agg (acC gq).toArray) (.agg (acC gq).toArray)).run Tryd.prog W = .ok true W := fun W => eqac_is gq gq hgqo hgqo true (decide_eq_true rfl) W
                refine wp_region_noPanic ?_
                refine wp_region_held_drew (S := fun w' => Below w11.heap.size w11 w') (by kernel_rfl) ?_ (fun hHeld => ?_)
                · exact bel_drew w11
                refine' tkL 0 ?_ rfl ?_ ?_
                rotate_left
                · intro W hSw
                  go_simp
                  first | done | (with_reducible rfl)
                try simp only [Act.put, sQ]
                refine' tkL 1 ?_ rfl ?_ ?_
                rotate_left
                · intro W hSw
                  go_simp
                  first | done | (with_reducible rfl)
                try simp only [Act.put, sQ]
                refine' tkH 2 rfl (yieldsIf_load_mid (by rfl) _ _ rfl _ _ rfl _ _ (fun _ h => rangeBel2 h U11.out) hu rfl hiU.out) ?_
                try simp only [Act.put, sQ]
                refine' tkH 3 rfl (yieldsIf_load_mid (by rfl) _ _ rfl _ _ rfl _ _ (fun _ h => rangeBel2 h Y11.out) hux rfl jxa.out) ?_
                try simp only [Act.put, sQ]
                refine wpAnyH_ready (rs := [4]) (by kernel_rfl) (by simp) ?_
                refine AllReadyH.cons (o := _) rfl (fun K hK => ?_) AllReadyH.nil
                go_simp
                refine (hFr.out _ (H11.out.bel hHeld (Nat.lt_of_lt_of_le hlow.out W11.out.size))).mono ?_
                rintro e v4 ⟨rfl, hB⟩
                go_wp2_with fail
                refine hK.out _ _ ?_ (fun hHeld => ?_)
                · exact hHeld.trans (hB.mono hHeld.size)
                clear hK K
                try simp only [Act.put, sQ]
                refine' tkL 5 ?_ rfl ?_ ?_
                rotate_left
                · intro W hSw
                  go_simp
                  first | done | (with_reducible rfl)
                try simp only [Act.put, sQ]
                refine' tkL 6 ?_ rfl ?_ ?_
                rotate_left
                · intro W hSw
                  go_simp
                  first | done | (with_reducible rfl)
                try simp only [Act.put, sQ]
                refine' tkH 7 rfl (yieldsIf_load_mid (by rfl) _ _ rfl _ _ rfl _ _ (fun _ h => rangeBel2 h U11.out) hu rfl hiU.out) ?_
                try simp only [Act.put, sQ]
                refine' tkL 8 ?_ rfl ?_ ?_
                rotate_left
                · intro W hSw
                  go_simp
                  first | done | (with_reducible rfl)
                try simp only [Act.put, sQ]
                refine' tkH 9 rfl (yieldsIf_load_mid (by rfl) _ _ rfl _ _ rfl _ _ (fun _ h => rangeBel2 h J11.out) hu rfl hiE.out) ?_
                try simp only [Act.put, sQ]
                refine' tkL 10 ?_ rfl ?_ ?_
                rotate_left
                · intro W hSw
                  go_simp
                  first | done | (with_reducible rfl)
                try simp only [Act.put, sQ]
                refine' tkL 11 ?_ rfl ?_ ?_
                rotate_left
                · intro W hSw
                  go_simp
                  first | done | (with_reducible rfl)
                try simp only [Act.put, sQ]
                refine' tkL 12 ?_ rfl ?_ ?_
                rotate_left
                · intro W hSw
                  go_simp
                  first | done | (with_reducible rfl)
                try simp only [Act.put, sQ]
                refine' tkH 13 rfl (yieldsIf_load_mid (by rfl) _ _ rfl _ _ rfl _ _ (fun _ h => rangeBel2 h U11.out) hu rfl hiU.out) ?_
                try simp only [Act.put, sQ]
                refine' tkH 14 rfl (yieldsIf_load_mid (by rfl) _ _ rfl _ _ rfl _ _ (fun _ h => rangeBel2 h D11.out) hu rfl hiD.out) ?_
                try simp only [Act.put, sQ]
                refine' tkL 15 ?_ rfl ?_ ?_
                rotate_left
                · intro W hSw
                  go_simp
                  first | done | (with_reducible rfl)
                try simp only [Act.put, sQ]
                refine' tkL 16 ?_ rfl ?_ ?_
                rotate_left
                · intro W hSw
                  go_simp
                  first | done | (with_reducible rfl)
                try simp only [Act.put, sQ]
                refine' tkL 17 ?_ rfl ?_ ?_
                rotate_left
                · intro W hSw
                  go_simp
                  first | done | (with_reducible rfl)
                try simp only [Act.put, sQ]
                refine' tkH 18 rfl (yieldsIf_load_mid (by rfl) _ _ rfl _ _ rfl _ _ (fun _ h => rangeBel2 h Q11.out) hua rfl jgp.out) ?_
                try simp only [Act.put, sQ]
                refine' tkH 19 rfl (yieldsIf_load_mid (by rfl) _ _ rfl _ _ rfl _ _ (fun _ h => rangeBel2 h V11.out) hua rfl jgq.out) ?_
                try simp only [Act.put, sQ]
                refine' tkL 20 ?_ rfl ?_ ?_
                rotate_left
                · intro W hSw
                  go_simp
                  first | done | (with_reducible rfl)
                try simp only [Act.put, sQ]
                refine' tkL 21 ?_ rfl ?_ ?_
                rotate_left
                · intro W hSw
                  go_simp
                  first | done | (with_reducible rfl)
                try simp only [Act.put, sQ]
                refine' tkL 22 ?_ rfl ?_ ?_
                rotate_left
                · intro W hSw
                  go_simp
                  first | done | (with_reducible rfl)
                try simp only [Act.put, sQ]
                refine' tkL 23 ?_ rfl ?_ ?_
                rotate_left
                · intro W hSw
                  go_simp
                  first | done | (with_reducible rfl)
                try simp only [Act.put, sQ]
                refine wpAnyH_done (by kernel_rfl) ?_ _
                refine NoPanic.normal ?_
                go_wp2
                go_ret
                exact ⟨rfl, W11.out.trans (hHeld.mono W11.out.size)⟩
        refine AllReadyH.cons (o := _) rfl (fun K hK => ?_) ?_
        · skip
          refine step_alloc_rowT rfl 47 rfl (acC ac0).toArray zInfoAc ?_
          intro g6 v7 b6 e6 hB
          have z6 := Nat.le_trans hHeld.size b6
          refine hK.out _ _ ?_ (fun hHeld => ?_)
          · exact hHeld.trans (hB.mono hHeld.size)
          clear hK K
          try simp only [Act.put, sQ]
          refine wpAnyH_ready (rs := [3]) (by kernel_rfl) (by simp) ?_
          refine AllReadyH.cons (o := _) rfl (fun K hK => ?_) AllReadyH.nil
          go_simp
          refine (hG2.out _ ad3 cd3 _ (E8.out.bel hHeld)).mono ?_
          rintro e v3 ⟨rfl, hB⟩
          have hB3 := hB
          go_wp2_with fail
          refine hK.out _ _ ?_ (fun hHeld => ?_)
          · exact hHeld.trans (hB.mono hHeld.size)
          clear hK K
          try simp only [Act.put, sQ]
          refine' tkL 4 ?_ rfl ?_ ?_
          rotate_left
          · intro W hSw
            go_simp
            first | done | (with_reducible rfl)
          try simp only [Act.put, sQ]
          refine' tkL 5 ?_ rfl ?_ ?_
          rotate_left
          · intro W hSw
            go_simp
            first | done | (with_reducible rfl)
          try simp only [Act.put, sQ]
          refine' tkL 6 ?_ rfl ?_ ?_
          rotate_left
          · intro W hSw
            go_simp
            first | done | (with_reducible rfl)
          try simp only [Act.put, sQ]
          refine wpAnyH_ready (rs := [8]) (by kernel_rfl) (by simp) ?_
          refine AllReadyH.cons (o := _) rfl (fun K hK => ?_) AllReadyH.nil
          refine step_store_rowT rfl 47 (.tmp 17) (.tmp 68) rfl g6 _ rfl rfl 47 (acC ac0).toArray (by first | exact e6 | exact (hB3.block _ (block_lt e6)).trans e6 | exact (hB3.block _ (block_lt ((hB2.block _ (block_lt e6)).trans e6))).trans ((hB2.block _ (block_lt e6)).trans e6)) sizeAc rfl ngs.out ?_
          intro w9 d6 hG
          refine hK.out _ _ ?_ (fun hHeld => ?_)
          · exact hHeld.grown hG hHeld.size (by intro k hk; injection hk with hk; subst hk; exact z6)
          clear hK K
          try simp only [Act.put, sQ]
          refine' tkL 9 ?_ rfl ?_ ?_
          rotate_left
          · intro W hSw
            go_simp
            first | done | (with_reducible rfl)
          try simp only [Act.put, sQ]
          refine wpAnyH_done (by kernel_rfl) ?_ _
          refine NoPanic.normal ?_
          have T9 := hid (T8.out.bel hHeld)
          have Y9 := hid (rangeBel2 hHeld Y8.out)
          have D9 := hid (rangeBel2 hHeld D8.out)
          have U9 := hid (rangeBel2 hHeld U8.out)
          have J9 := hid (rangeBel2 hHeld J8.out)
          have C9 := hid ((hHeld.cell (World.block_lt_of_cell? _ _ C8.out)).trans C8.out)
          have R9 := hid (R8.out.bel hHeld)
          have H9 := hid (H8.out.bel hHeld (Nat.lt_of_lt_of_le hlow.out W8.out.size))
          have W9 := hid (W8.out.trans (hHeld.mono W8.out.size))
          have E9 := hid (E8.out.bel hHeld)
          have F9 := hid (F8.out.bel hHeld)
          have Q9 := hid (rangeBel2 hHeld Q8.out)
          have V9 := hid (rangeBel2 hHeld V8.out)
          clear T8 Y8 D8 U8 J8 C8 R8 H8 W8 E8 F8 Q8 V8
          have M9 := hid (rangeOf (l := acC gs) d6)
          clear hHeld d6 hG b6 z6
          try clear hB
          try clear e6
          go_wp2_with (first
            | ((with_reducible refine wpList_load_rng rfl 27 (.tmp 10) rfl w3.heap.size 0 rfl [Value.slice ad3 na3.length cd3, .int .i64 ra3] _ ?_ hut rfl hiF.out ?_); exact F9.out.all)
            | ((with_reducible refine wpList_load_rng rfl 34 (.tmp 5) rfl (w.heap.size + 1) 0 rfl (txC xa) _ ?_ hux rfl jxa.out ?_); exact Y9.out)
            | ((with_reducible refine wpList_load_rng rfl 23 (.tmp 6) rfl (w.heap.size + 1 + 1) 0 rfl (box.1.map bv) _ ?_ hu rfl hiD.out ?_); exact D9.out))
          refine (hP2.out _ ad3 cd3 _ E9.out H9.out).mono ?_
          rintro e w10 ⟨⟨na10, ra10⟩, ad10, cd10, rfl, ho, hb, hok10⟩
          dsimp only at ho hok10 ⊢
          have T10 := hid (T9.out.bel hb)
          have Y10 := hid (rangeBel2 hb Y9.out)
          have D10 := hid (rangeBel2 hb D9.out)
          have U10 := hid (rangeBel2 hb U9.out)
          have J10 := hid (rangeBel2 hb J9.out)
          have C10 := hid ((hb.cell (World.block_lt_of_cell? _ _ C9.out)).trans C9.out)
          have R10 := hid (R9.out.bel hb)
          have H10 := hid (H9.out.bel hb (Nat.lt_of_lt_of_le hlow.out W9.out.size))
          have W10 := hid (W9.out.trans (hb.mono W9.out.size))
          have E10 := hid (E9.out.bel hb)
          have F10 := hid (F9.out.bel hb)
          have Q10 := hid (rangeBel2 hb Q9.out)
          have V10 := hid (rangeBel2 hb V9.out)
          have M10 := hid (rangeBel2 hb M9.out)
          clear T9 Y9 D9 U9 J9 C9 R9 H9 W9 E9 F9 Q9 V9 M9
          have G10 := hid (OwnR.row ho)
          replace hok10 := hid hok10
          clear hb ho hP2
          have e10 := hid (heap_alloc_new w10 (.cells zTrC 27))
          have hiS := hid (show (Tryd.prog.info? 27).map (·.size) = some ([Value.slice ad10 na10.length cd10, .int .i64 ra10]).length from sizeTr)
          have hbz : (sn != sn) = false := bne_self_eq_false sn
          have q6 := q3'.out
          go_wp2_with (first
            | (with_reducible refine wpList_alloc_row rfl 27 rfl zTrC zInfoTr ?_)
            | ((with_reducible refine wpList_store_row rfl 27 (.tmp 19) (.tmp 75) rfl _ _ rfl rfl 27 zTrC ?_ ?_ ?_ ?_ ?_); exact e10.out; exact sizeTr; rfl; exact one_trP ad10 na10.length cd10 ra10; intro w11 hgS hbS hsS; have X11 := hid (xnewP rfl hbS); have lt11 := hid (block_lt hgS); have S11 := hid (BoxT.of (rangeOf (l := [Value.slice ad10 na10.length cd10, .int .i64 ra10]) hgS)); clear hgS hbS hsS; have T11 := hid (T10.out.bel X11.out); have Y11 := hid (rangeBel2 X11.out Y10.out); have D11 := hid (rangeBel2 X11.out D10.out); have U11 := hid (rangeBel2 X11.out U10.out); have J11 := hid (rangeBel2 X11.out J10.out); have C11 := hid ((X11.out.cell (World.block_lt_of_cell? _ _ C10.out)).trans C10.out); have R11 := hid (R10.out.bel X11.out); have H11 := hid (H10.out.bel X11.out (Nat.lt_of_lt_of_le hlow.out W10.out.size)); have W11 := hid (W10.out.trans (X11.out.mono W10.out.size)); have E11 := hid (E10.out.bel X11.out); have F11 := hid (F10.out.bel X11.out); have Q11 := hid (rangeBel2 X11.out Q10.out); have V11 := hid (rangeBel2 X11.out V10.out); have M11 := hid (rangeBel2 X11.out M10.out); have G11 := hid (G10.out.bel X11.out); clear T10 Y10 D10 U10 J10 C10 R10 H10 W10 E10 F10 Q10 V10 M10 G10; have m11 := M11.out 0 _ rfl; have c11 := C11.out; rw [q6] at m11))
          cases k1
          case true =>
            refine wp_region_noPanic ?_
            refine wp_region_held_drew (S := fun w' => Below w11.heap.size w11 w') (by kernel_rfl) ?_ (fun hHeld => ?_)
            · exact bel_drew w11
            refine' tkL 0 ?_ rfl ?_ ?_
            rotate_left
            · intro W hSw
              go_simp
              first | done | (with_reducible rfl)
            try simp only [Act.put, sQ]
            refine' tkL 1 ?_ rfl ?_ ?_
            rotate_left
            · intro W hSw
              go_simp
              first | done | (with_reducible rfl)
            try simp only [Act.put, sQ]
            refine' tkH 2 rfl (yieldsIf_load_mid (by rfl) _ _ rfl _ _ rfl _ _ (fun _ h => rangeBel2 h U11.out) hu rfl hiU.out) ?_
            try simp only [Act.put, sQ]
            refine' tkH 3 rfl (yieldsIf_load_mid (by rfl) _ _ rfl _ _ rfl _ _ (fun _ h => rangeBel2 h Y11.out) hux rfl jxa.out) ?_
            try simp only [Act.put, sQ]
            refine wpAnyH_ready (rs := [4]) (by kernel_rfl) (by simp) ?_
            refine AllReadyH.cons (o := _) rfl (fun K hK => ?_) AllReadyH.nil
            go_simp
            refine (hFr.out _ (H11.out.bel hHeld (Nat.lt_of_lt_of_le hlow.out W11.out.size))).mono ?_
            rintro e v4 ⟨rfl, hB⟩
            go_wp2_with fail
            refine hK.out _ _ ?_ (fun hHeld => ?_)
            · exact hHeld.trans (hB.mono hHeld.size)
            clear hK K
            try simp only [Act.put, sQ]
            refine' tkL 5 ?_ rfl ?_ ?_
            rotate_left
            · intro W hSw
              go_simp
              first | done | (with_reducible rfl)
            try simp only [Act.put, sQ]
            refine' tkL 6 ?_ rfl ?_ ?_
            rotate_left
            · intro W hSw
              go_simp
              first | done | (with_reducible rfl)
            try simp only [Act.put, sQ]
            refine' tkR 7 rfl ?_
            try simp only [Act.put, sQ]
            refine' tkR 8 rfl ?_
            try simp only [Act.put, sQ]
            refine' tkR 9 rfl ?_
            try simp only [Act.put, sQ]
            refine' tkR 10 rfl ?_
            try simp only [Act.put, sQ]
            refine' tkL 11 ?_ rfl ?_ ?_
            rotate_left
            · intro W hSw
              go_simp
              first | done | (with_reducible rfl)
            try simp only [Act.put, sQ]
            refine' tkL 12 ?_ rfl ?_ ?_
            rotate_left
            · intro W hSw
              go_simp
              first | done | (with_reducible rfl)
            try simp only [Act.put, sQ]
            refine' tkR 13 rfl ?_
            try simp only [Act.put, sQ]
            refine' tkR 14 rfl ?_
            try simp only [Act.put, sQ]
            refine' tkR 15 rfl ?_
            try simp only [Act.put, sQ]
            refine' tkL 16 ?_ rfl ?_ ?_
            rotate_left
            · intro W hSw
              go_simp
              first | done | (with_reducible rfl)
            try simp only [Act.put, sQ]
            refine' tkL 17 ?_ rfl ?_ ?_
            rotate_left
            · intro W hSw
              go_simp
              first | done | (with_reducible rfl)
            try simp only [Act.put, sQ]
            refine' tkR 18 rfl ?_
            try simp only [Act.put, sQ]
            refine' tkR 19 rfl ?_
            try simp only [Act.put, sQ]
            refine' tkR 20 rfl ?_
            try simp only [Act.put, sQ]
            refine' tkL 21 ?_ rfl ?_ ?_
            rotate_left
            · intro W hSw
              go_simp
              first | done | (with_reducible rfl)
            try simp only [Act.put, sQ]
            refine' tkL 22 ?_ rfl ?_ ?_
            rotate_left
            · intro W hSw
              go_simp
              first | done | (with_reducible rfl)
            try simp only [Act.put, sQ]
            refine' tkL 23 ?_ rfl ?_ ?_
            rotate_left
            · intro W hSw
              go_simp
              first | done | (with_reducible rfl)
            try simp only [Act.put, sQ]
            refine wpAnyH_done (by kernel_rfl) ?_ _
            refine NoPanic.normal ?_
            go_wp2
            go_ret
            exact ⟨rfl, W11.out.trans (hHeld.mono W11.out.size)⟩
          case false =>
            cases k2
            case true =>
              refine wp_region_noPanic ?_
              refine wp_region_held_drew (S := fun w' => Below w11.heap.size w11 w') (by kernel_rfl) ?_ (fun hHeld => ?_)
              · exact bel_drew w11
              refine' tkL 0 ?_ rfl ?_ ?_
              rotate_left
              · intro W hSw
                go_simp
                first | done | (with_reducible rfl)
              try simp only [Act.put, sQ]
              refine' tkL 1 ?_ rfl ?_ ?_
              rotate_left
              · intro W hSw
                go_simp
                first | done | (with_reducible rfl)
              try simp only [Act.put, sQ]
              refine' tkH 2 rfl (yieldsIf_load_mid (by rfl) _ _ rfl _ _ rfl _ _ (fun _ h => rangeBel2 h U11.out) hu rfl hiU.out) ?_
              try simp only [Act.put, sQ]
              refine' tkH 3 rfl (yieldsIf_load_mid (by rfl) _ _ rfl _ _ rfl _ _ (fun _ h => rangeBel2 h Y11.out) hux rfl jxa.out) ?_
              try simp only [Act.put, sQ]
              refine wpAnyH_ready (rs := [4]) (by kernel_rfl) (by simp) ?_
              refine AllReadyH.cons (o := _) rfl (fun K hK => ?_) AllReadyH.nil
              go_simp
              refine (hFr.out _ (H11.out.bel hHeld (Nat.lt_of_lt_of_le hlow.out W11.out.size))).mono ?_
              rintro e v4 ⟨rfl, hB⟩
              go_wp2_with fail
              refine hK.out _ _ ?_ (fun hHeld => ?_)
              · exact hHeld.trans (hB.mono hHeld.size)
              clear hK K
              try simp only [Act.put, sQ]
              refine' tkL 5 ?_ rfl ?_ ?_
              rotate_left
              · intro W hSw
                go_simp
                first | done | (with_reducible rfl)
              try simp only [Act.put, sQ]
              refine' tkL 6 ?_ rfl ?_ ?_
              rotate_left
              · intro W hSw
                go_simp
                first | done | (with_reducible rfl)
              try simp only [Act.put, sQ]
              refine' tkH 7 rfl (yieldsIf_load_mid (by rfl) _ _ rfl _ _ rfl _ _ (fun _ h => rangeBel2 h U11.out) hu rfl hiU.out) ?_
              try simp only [Act.put, sQ]
              refine' tkL 8 ?_ rfl ?_ ?_
              rotate_left
              · intro W hSw
                go_simp
                first | done | (with_reducible rfl)
              try simp only [Act.put, sQ]
              refine' tkH 9 rfl (yieldsIf_load_mid (by rfl) _ _ rfl _ _ rfl _ _ (fun _ h => rangeBel2 h J11.out) hu rfl hiE.out) ?_
              try simp only [Act.put, sQ]
              refine' tkL 10 ?_ rfl ?_ ?_
              rotate_left
              · intro W hSw
                go_simp
                first | done | (with_reducible rfl)
              try simp only [Act.put, sQ]
              refine' tkL 11 ?_ rfl ?_ ?_
              rotate_left
              · intro W hSw
                go_simp
                first | done | (with_reducible rfl)
              try simp only [Act.put, sQ]
              refine' tkL 12 ?_ rfl ?_ ?_
              rotate_left
              · intro W hSw
                go_simp
                first | done | (with_reducible rfl)
              try simp only [Act.put, sQ]
              refine' tkR 13 rfl ?_
              try simp only [Act.put, sQ]
              refine' tkR 14 rfl ?_
              try simp only [Act.put, sQ]
              refine' tkR 15 rfl ?_
              try simp only [Act.put, sQ]
              refine' tkL 16 ?_ rfl ?_ ?_
              rotate_left
              · intro W hSw
                go_simp
                first | done | (with_reducible rfl)
              try simp only [Act.put, sQ]
              refine' tkL 17 ?_ rfl ?_ ?_
              rotate_left
              · intro W hSw
                go_simp
                first | done | (with_reducible rfl)
              try simp only [Act.put, sQ]
              refine' tkR 18 rfl ?_
              try simp only [Act.put, sQ]
              refine' tkR 19 rfl ?_
              try simp only [Act.put, sQ]
              refine' tkR 20 rfl ?_
              try simp only [Act.put, sQ]
              refine' tkL 21 ?_ rfl ?_ ?_
              rotate_left
              · intro W hSw
                go_simp
                first | done | (with_reducible rfl)
              try simp only [Act.put, sQ]
              refine' tkL 22 ?_ rfl ?_ ?_
              rotate_left
              · intro W hSw
                go_simp
                first | done | (with_reducible rfl)
              try simp only [Act.put, sQ]
              refine' tkL 23 ?_ rfl ?_ ?_
              rotate_left
              · intro W hSw
                go_simp
                first | done | (with_reducible rfl)
              try simp only [Act.put, sQ]
              refine wpAnyH_done (by kernel_rfl) ?_ _
              refine NoPanic.normal ?_
              go_wp2
              go_ret
              exact ⟨rfl, W11.out.trans (hHeld.mono W11.out.size)⟩
            case false =>
              cases k3
              case true =>
                refine wp_region_noPanic ?_
                refine wp_region_held_drew (S := fun w' => Below w11.heap.size w11 w') (by kernel_rfl) ?_ (fun hHeld => ?_)
                · exact bel_drew w11
                refine' tkL 0 ?_ rfl ?_ ?_
                rotate_left
                · intro W hSw
                  go_simp
                  first | done | (with_reducible rfl)
                try simp only [Act.put, sQ]
                refine' tkL 1 ?_ rfl ?_ ?_
                rotate_left
                · intro W hSw
                  go_simp
                  first | done | (with_reducible rfl)
                try simp only [Act.put, sQ]
                refine' tkH 2 rfl (yieldsIf_load_mid (by rfl) _ _ rfl _ _ rfl _ _ (fun _ h => rangeBel2 h U11.out) hu rfl hiU.out) ?_
                try simp only [Act.put, sQ]
                refine' tkH 3 rfl (yieldsIf_load_mid (by rfl) _ _ rfl _ _ rfl _ _ (fun _ h => rangeBel2 h Y11.out) hux rfl jxa.out) ?_
                try simp only [Act.put, sQ]
                refine wpAnyH_ready (rs := [4]) (by kernel_rfl) (by simp) ?_
                refine AllReadyH.cons (o := _) rfl (fun K hK => ?_) AllReadyH.nil
                go_simp
                refine (hFr.out _ (H11.out.bel hHeld (Nat.lt_of_lt_of_le hlow.out W11.out.size))).mono ?_
                rintro e v4 ⟨rfl, hB⟩
                go_wp2_with fail
                refine hK.out _ _ ?_ (fun hHeld => ?_)
                · exact hHeld.trans (hB.mono hHeld.size)
                clear hK K
                try simp only [Act.put, sQ]
                refine' tkL 5 ?_ rfl ?_ ?_
                rotate_left
                · intro W hSw
                  go_simp
                  first | done | (with_reducible rfl)
                try simp only [Act.put, sQ]
                refine' tkL 6 ?_ rfl ?_ ?_
                rotate_left
                · intro W hSw
                  go_simp
                  first | done | (with_reducible rfl)
                try simp only [Act.put, sQ]
                refine' tkH 7 rfl (yieldsIf_load_mid (by rfl) _ _ rfl _ _ rfl _ _ (fun _ h => rangeBel2 h U11.out) hu rfl hiU.out) ?_
                try simp only [Act.put, sQ]
                refine' tkL 8 ?_ rfl ?_ ?_
                rotate_left
                · intro W hSw
                  go_simp
                  first | done | (with_reducible rfl)
                try simp only [Act.put, sQ]
                refine' tkH 9 rfl (yieldsIf_load_mid (by rfl) _ _ rfl _ _ rfl _ _ (fun _ h => rangeBel2 h J11.out) hu rfl hiE.out) ?_
                try simp only [Act.put, sQ]
                refine' tkL 10 ?_ rfl ?_ ?_
                rotate_left
                · intro W hSw
                  go_simp
                  first | done | (with_reducible rfl)
                try simp only [Act.put, sQ]
                refine' tkL 11 ?_ rfl ?_ ?_
                rotate_left
                · intro W hSw
                  go_simp
                  first | done | (with_reducible rfl)
                try simp only [Act.put, sQ]
                refine' tkL 12 ?_ rfl ?_ ?_
                rotate_left
                · intro W hSw
                  go_simp
                  first | done | (with_reducible rfl)
                try simp only [Act.put, sQ]
                refine' tkH 13 rfl (yieldsIf_load_mid (by rfl) _ _ rfl _ _ rfl _ _ (fun _ h => rangeBel2 h U11.out) hu rfl hiU.out) ?_
                try simp only [Act.put, sQ]
                refine' tkH 14 rfl (yieldsIf_load_mid (by rfl) _ _ rfl _ _ rfl _ _ (fun _ h => rangeBel2 h D11.out) hu rfl hiD.out) ?_
                try simp only [Act.put, sQ]
                refine' tkL 15 ?_ rfl ?_ ?_
                rotate_left
                · intro W hSw
                  go_simp
                  first | done | (with_reducible rfl)
                try simp only [Act.put, sQ]
                refine' tkL 16 ?_ rfl ?_ ?_
                rotate_left
                · intro W hSw
                  go_simp
                  first | done | (with_reducible rfl)
                try simp only [Act.put, sQ]
                refine' tkL 17 ?_ rfl ?_ ?_
                rotate_left
                · intro W hSw
                  go_simp
                  first | done | (with_reducible rfl)
                try simp only [Act.put, sQ]
                refine' tkR 18 rfl ?_
                try simp only [Act.put, sQ]
                refine' tkR 19 rfl ?_
                try simp only [Act.put, sQ]
                refine' tkR 20 rfl ?_
                try simp only [Act.put, sQ]
                refine' tkL 21 ?_ rfl ?_ ?_
                rotate_left
                · intro W hSw
                  go_simp
                  first | done | (with_reducible rfl)
                try simp only [Act.put, sQ]
                refine' tkL 22 ?_ rfl ?_ ?_
                rotate_left
                · intro W hSw
                  go_simp
                  first | done | (with_reducible rfl)
                try simp only [Act.put, sQ]
                refine' tkL 23 ?_ rfl ?_ ?_
                rotate_left
                · intro W hSw
                  go_simp
                  first | done | (with_reducible rfl)
                try simp only [Act.put, sQ]
                refine wpAnyH_done (by kernel_rfl) ?_ _
                refine NoPanic.normal ?_
                go_wp2
                go_ret
                exact ⟨rfl, W11.out.trans (hHeld.mono W11.out.size)⟩
              case false =>
                have hpq := q5'.out (by first | trivial | rfl) (by first | trivial | rfl) (by first | trivial | rfl)
                subst hpq
                have hE4 : ∀ W, (Op.equalIn 10000 47 (.agg (acC gq).toArray) (.agg (acC gq).toArray)).run Tryd.prog W = .ok true W := fun W => eqac_is gq gq hgqo hgqo true (decide_eq_true rfl) W
                refine wp_region_noPanic ?_
                refine wp_region_held_drew (S := fun w' => Below w11.heap.size w11 w') (by kernel_rfl) ?_ (fun hHeld => ?_)
                · exact bel_drew w11
                refine' tkL 0 ?_ rfl ?_ ?_
                rotate_left
                · intro W hSw
                  go_simp
                  first | done | (with_reducible rfl)
                try simp only [Act.put, sQ]
                refine' tkL 1 ?_ rfl ?_ ?_
                rotate_left
                · intro W hSw
                  go_simp
                  first | done | (with_reducible rfl)
                try simp only [Act.put, sQ]
                refine' tkH 2 rfl (yieldsIf_load_mid (by rfl) _ _ rfl _ _ rfl _ _ (fun _ h => rangeBel2 h U11.out) hu rfl hiU.out) ?_
                try simp only [Act.put, sQ]
                refine' tkH 3 rfl (yieldsIf_load_mid (by rfl) _ _ rfl _ _ rfl _ _ (fun _ h => rangeBel2 h Y11.out) hux rfl jxa.out) ?_
                try simp only [Act.put, sQ]
                refine wpAnyH_ready (rs := [4]) (by kernel_rfl) (by simp) ?_
                refine AllReadyH.cons (o := _) rfl (fun K hK => ?_) AllReadyH.nil
                go_simp
                refine (hFr.out _ (H11.out.bel hHeld (Nat.lt_of_lt_of_le hlow.out W11.out.size))).mono ?_
                rintro e v4 ⟨rfl, hB⟩
                go_wp2_with fail
                refine hK.out _ _ ?_ (fun hHeld => ?_)
                · exact hHeld.trans (hB.mono hHeld.size)
                clear hK K
                try simp only [Act.put, sQ]
                refine' tkL 5 ?_ rfl ?_ ?_
                rotate_left
                · intro W hSw
                  go_simp
                  first | done | (with_reducible rfl)
                try simp only [Act.put, sQ]
                refine' tkL 6 ?_ rfl ?_ ?_
                rotate_left
                · intro W hSw
                  go_simp
                  first | done | (with_reducible rfl)
                try simp only [Act.put, sQ]
                refine' tkH 7 rfl (yieldsIf_load_mid (by rfl) _ _ rfl _ _ rfl _ _ (fun _ h => rangeBel2 h U11.out) hu rfl hiU.out) ?_
                try simp only [Act.put, sQ]
                refine' tkL 8 ?_ rfl ?_ ?_
                rotate_left
                · intro W hSw
                  go_simp
                  first | done | (with_reducible rfl)
                try simp only [Act.put, sQ]
                refine' tkH 9 rfl (yieldsIf_load_mid (by rfl) _ _ rfl _ _ rfl _ _ (fun _ h => rangeBel2 h J11.out) hu rfl hiE.out) ?_
                try simp only [Act.put, sQ]
                refine' tkL 10 ?_ rfl ?_ ?_
                rotate_left
                · intro W hSw
                  go_simp
                  first | done | (with_reducible rfl)
                try simp only [Act.put, sQ]
                refine' tkL 11 ?_ rfl ?_ ?_
                rotate_left
                · intro W hSw
                  go_simp
                  first | done | (with_reducible rfl)
                try simp only [Act.put, sQ]
                refine' tkL 12 ?_ rfl ?_ ?_
                rotate_left
                · intro W hSw
                  go_simp
                  first | done | (with_reducible rfl)
                try simp only [Act.put, sQ]
                refine' tkH 13 rfl (yieldsIf_load_mid (by rfl) _ _ rfl _ _ rfl _ _ (fun _ h => rangeBel2 h U11.out) hu rfl hiU.out) ?_
                try simp only [Act.put, sQ]
                refine' tkH 14 rfl (yieldsIf_load_mid (by rfl) _ _ rfl _ _ rfl _ _ (fun _ h => rangeBel2 h D11.out) hu rfl hiD.out) ?_
                try simp only [Act.put, sQ]
                refine' tkL 15 ?_ rfl ?_ ?_
                rotate_left
                · intro W hSw
                  go_simp
                  first | done | (with_reducible rfl)
                try simp only [Act.put, sQ]
                refine' tkL 16 ?_ rfl ?_ ?_
                rotate_left
                · intro W hSw
                  go_simp
                  first | done | (with_reducible rfl)
                try simp only [Act.put, sQ]
                refine' tkL 17 ?_ rfl ?_ ?_
                rotate_left
                · intro W hSw
                  go_simp
                  first | done | (with_reducible rfl)
                try simp only [Act.put, sQ]
                refine' tkH 18 rfl (yieldsIf_load_mid (by rfl) _ _ rfl _ _ rfl _ _ (fun _ h => rangeBel2 h Q11.out) hua rfl jgp.out) ?_
                try simp only [Act.put, sQ]
                refine' tkH 19 rfl (yieldsIf_load_mid (by rfl) _ _ rfl _ _ rfl _ _ (fun _ h => rangeBel2 h V11.out) hua rfl jgq.out) ?_
                try simp only [Act.put, sQ]
                refine' tkL 20 ?_ rfl ?_ ?_
                rotate_left
                · intro W hSw
                  go_simp
                  first | done | (with_reducible rfl)
                try simp only [Act.put, sQ]
                refine' tkL 21 ?_ rfl ?_ ?_
                rotate_left
                · intro W hSw
                  go_simp
                  first | done | (with_reducible rfl)
                try simp only [Act.put, sQ]
                refine' tkL 22 ?_ rfl ?_ ?_
                rotate_left
                · intro W hSw
                  go_simp
                  first | done | (with_reducible rfl)
                try simp only [Act.put, sQ]
                refine' tkL 23 ?_ rfl ?_ ?_
                rotate_left
                · intro W hSw
                  go_simp
                  first | done | (with_reducible rfl)
                try simp only [Act.put, sQ]
                refine wpAnyH_done (by kernel_rfl) ?_ _
                refine NoPanic.normal ?_
                go_wp2
                go_ret
                exact ⟨rfl, W11.out.trans (hHeld.mono W11.out.size)⟩
        exact AllReadyH.nil
      refine AllReadyH.cons (o := _) rfl (fun K hK => ?_) ?_
      · skip
        refine step_alloc_rowT rfl 47 rfl (acC ac0).toArray zInfoAc ?_
        intro g6 v7 b6 e6 hB
        have z6 := Nat.le_trans hHeld.size b6
        refine hK.out _ _ ?_ (fun hHeld => ?_)
        · exact hHeld.trans (hB.mono hHeld.size)
        clear hK K
        try simp only [Act.put, sQ]
        refine wpAnyH_ready (rs := [2]) (by kernel_rfl) (by simp) ?_
        refine AllReadyH.cons (o := _) rfl (fun K hK => ?_) AllReadyH.nil
        go_simp
        refine (hFr.out _ (H8.out.bel hHeld (Nat.lt_of_lt_of_le hlow.out W8.out.size))).mono ?_
        rintro e v2 ⟨rfl, hB⟩
        have hB2 := hB
        go_wp2_with fail
        refine hK.out _ _ ?_ (fun hHeld => ?_)
        · exact hHeld.trans (hB.mono hHeld.size)
        clear hK K
        try simp only [Act.put, sQ]
        refine wpAnyH_ready (rs := [3]) (by kernel_rfl) (by simp) ?_
        refine AllReadyH.cons (o := _) rfl (fun K hK => ?_) AllReadyH.nil
        go_simp
        refine (hG2.out _ ad3 cd3 _ (E8.out.bel hHeld)).mono ?_
        rintro e v3 ⟨rfl, hB⟩
        have hB3 := hB
        go_wp2_with fail
        refine hK.out _ _ ?_ (fun hHeld => ?_)
        · exact hHeld.trans (hB.mono hHeld.size)
        clear hK K
        try simp only [Act.put, sQ]
        refine' tkL 4 ?_ rfl ?_ ?_
        rotate_left
        · intro W hSw
          go_simp
          first | done | (with_reducible rfl)
        try simp only [Act.put, sQ]
        refine' tkL 5 ?_ rfl ?_ ?_
        rotate_left
        · intro W hSw
          go_simp
          first | done | (with_reducible rfl)
        try simp only [Act.put, sQ]
        refine' tkL 6 ?_ rfl ?_ ?_
        rotate_left
        · intro W hSw
          go_simp
          first | done | (with_reducible rfl)
        try simp only [Act.put, sQ]
        refine wpAnyH_ready (rs := [8]) (by kernel_rfl) (by simp) ?_
        refine AllReadyH.cons (o := _) rfl (fun K hK => ?_) AllReadyH.nil
        refine step_store_rowT rfl 47 (.tmp 17) (.tmp 68) rfl g6 _ rfl rfl 47 (acC ac0).toArray (by first | exact e6 | exact (hB3.block _ (block_lt e6)).trans e6 | exact (hB3.block _ (block_lt ((hB2.block _ (block_lt e6)).trans e6))).trans ((hB2.block _ (block_lt e6)).trans e6)) sizeAc rfl ngs.out ?_
        intro w9 d6 hG
        refine hK.out _ _ ?_ (fun hHeld => ?_)
        · exact hHeld.grown hG hHeld.size (by intro k hk; injection hk with hk; subst hk; exact z6)
        clear hK K
        try simp only [Act.put, sQ]
        refine' tkL 9 ?_ rfl ?_ ?_
        rotate_left
        · intro W hSw
          go_simp
          first | done | (with_reducible rfl)
        try simp only [Act.put, sQ]
        refine wpAnyH_done (by kernel_rfl) ?_ _
        refine NoPanic.normal ?_
        have T9 := hid (T8.out.bel hHeld)
        have Y9 := hid (rangeBel2 hHeld Y8.out)
        have D9 := hid (rangeBel2 hHeld D8.out)
        have U9 := hid (rangeBel2 hHeld U8.out)
        have J9 := hid (rangeBel2 hHeld J8.out)
        have C9 := hid ((hHeld.cell (World.block_lt_of_cell? _ _ C8.out)).trans C8.out)
        have R9 := hid (R8.out.bel hHeld)
        have H9 := hid (H8.out.bel hHeld (Nat.lt_of_lt_of_le hlow.out W8.out.size))
        have W9 := hid (W8.out.trans (hHeld.mono W8.out.size))
        have E9 := hid (E8.out.bel hHeld)
        have F9 := hid (F8.out.bel hHeld)
        have Q9 := hid (rangeBel2 hHeld Q8.out)
        have V9 := hid (rangeBel2 hHeld V8.out)
        clear T8 Y8 D8 U8 J8 C8 R8 H8 W8 E8 F8 Q8 V8
        have M9 := hid (rangeOf (l := acC gs) d6)
        clear hHeld d6 hG b6 z6
        try clear hB
        try clear e6
        go_wp2_with (first
          | ((with_reducible refine wpList_load_rng rfl 27 (.tmp 10) rfl w3.heap.size 0 rfl [Value.slice ad3 na3.length cd3, .int .i64 ra3] _ ?_ hut rfl hiF.out ?_); exact F9.out.all)
          | ((with_reducible refine wpList_load_rng rfl 34 (.tmp 5) rfl (w.heap.size + 1) 0 rfl (txC xa) _ ?_ hux rfl jxa.out ?_); exact Y9.out)
          | ((with_reducible refine wpList_load_rng rfl 23 (.tmp 6) rfl (w.heap.size + 1 + 1) 0 rfl (box.1.map bv) _ ?_ hu rfl hiD.out ?_); exact D9.out))
        refine (hP2.out _ ad3 cd3 _ E9.out H9.out).mono ?_
        rintro e w10 ⟨⟨na10, ra10⟩, ad10, cd10, rfl, ho, hb, hok10⟩
        dsimp only at ho hok10 ⊢
        have T10 := hid (T9.out.bel hb)
        have Y10 := hid (rangeBel2 hb Y9.out)
        have D10 := hid (rangeBel2 hb D9.out)
        have U10 := hid (rangeBel2 hb U9.out)
        have J10 := hid (rangeBel2 hb J9.out)
        have C10 := hid ((hb.cell (World.block_lt_of_cell? _ _ C9.out)).trans C9.out)
        have R10 := hid (R9.out.bel hb)
        have H10 := hid (H9.out.bel hb (Nat.lt_of_lt_of_le hlow.out W9.out.size))
        have W10 := hid (W9.out.trans (hb.mono W9.out.size))
        have E10 := hid (E9.out.bel hb)
        have F10 := hid (F9.out.bel hb)
        have Q10 := hid (rangeBel2 hb Q9.out)
        have V10 := hid (rangeBel2 hb V9.out)
        have M10 := hid (rangeBel2 hb M9.out)
        clear T9 Y9 D9 U9 J9 C9 R9 H9 W9 E9 F9 Q9 V9 M9
        have G10 := hid (OwnR.row ho)
        replace hok10 := hid hok10
        clear hb ho hP2
        have e10 := hid (heap_alloc_new w10 (.cells zTrC 27))
        have hiS := hid (show (Tryd.prog.info? 27).map (·.size) = some ([Value.slice ad10 na10.length cd10, .int .i64 ra10]).length from sizeTr)
        have hbz : (sn != sn) = false := bne_self_eq_false sn
        have q6 := q3'.out
        go_wp2_with (first
          | (with_reducible refine wpList_alloc_row rfl 27 rfl zTrC zInfoTr ?_)
          | ((with_reducible refine wpList_store_row rfl 27 (.tmp 19) (.tmp 75) rfl _ _ rfl rfl 27 zTrC ?_ ?_ ?_ ?_ ?_); exact e10.out; exact sizeTr; rfl; exact one_trP ad10 na10.length cd10 ra10; intro w11 hgS hbS hsS; have X11 := hid (xnewP rfl hbS); have lt11 := hid (block_lt hgS); have S11 := hid (BoxT.of (rangeOf (l := [Value.slice ad10 na10.length cd10, .int .i64 ra10]) hgS)); clear hgS hbS hsS; have T11 := hid (T10.out.bel X11.out); have Y11 := hid (rangeBel2 X11.out Y10.out); have D11 := hid (rangeBel2 X11.out D10.out); have U11 := hid (rangeBel2 X11.out U10.out); have J11 := hid (rangeBel2 X11.out J10.out); have C11 := hid ((X11.out.cell (World.block_lt_of_cell? _ _ C10.out)).trans C10.out); have R11 := hid (R10.out.bel X11.out); have H11 := hid (H10.out.bel X11.out (Nat.lt_of_lt_of_le hlow.out W10.out.size)); have W11 := hid (W10.out.trans (X11.out.mono W10.out.size)); have E11 := hid (E10.out.bel X11.out); have F11 := hid (F10.out.bel X11.out); have Q11 := hid (rangeBel2 X11.out Q10.out); have V11 := hid (rangeBel2 X11.out V10.out); have M11 := hid (rangeBel2 X11.out M10.out); have G11 := hid (G10.out.bel X11.out); clear T10 Y10 D10 U10 J10 C10 R10 H10 W10 E10 F10 Q10 V10 M10 G10; have m11 := M11.out 0 _ rfl; have c11 := C11.out; rw [q6] at m11))
        cases k1
        case true =>
          refine wp_region_noPanic ?_
          refine wp_region_held_drew (S := fun w' => Below w11.heap.size w11 w') (by kernel_rfl) ?_ (fun hHeld => ?_)
          · exact bel_drew w11
          refine' tkL 0 ?_ rfl ?_ ?_
          rotate_left
          · intro W hSw
            go_simp
            first | done | (with_reducible rfl)
          try simp only [Act.put, sQ]
          refine' tkL 1 ?_ rfl ?_ ?_
          rotate_left
          · intro W hSw
            go_simp
            first | done | (with_reducible rfl)
          try simp only [Act.put, sQ]
          refine' tkH 2 rfl (yieldsIf_load_mid (by rfl) _ _ rfl _ _ rfl _ _ (fun _ h => rangeBel2 h U11.out) hu rfl hiU.out) ?_
          try simp only [Act.put, sQ]
          refine' tkH 3 rfl (yieldsIf_load_mid (by rfl) _ _ rfl _ _ rfl _ _ (fun _ h => rangeBel2 h Y11.out) hux rfl jxa.out) ?_
          try simp only [Act.put, sQ]
          refine wpAnyH_ready (rs := [4]) (by kernel_rfl) (by simp) ?_
          refine AllReadyH.cons (o := _) rfl (fun K hK => ?_) AllReadyH.nil
          go_simp
          refine (hFr.out _ (H11.out.bel hHeld (Nat.lt_of_lt_of_le hlow.out W11.out.size))).mono ?_
          rintro e v4 ⟨rfl, hB⟩
          go_wp2_with fail
          refine hK.out _ _ ?_ (fun hHeld => ?_)
          · exact hHeld.trans (hB.mono hHeld.size)
          clear hK K
          try simp only [Act.put, sQ]
          refine' tkL 5 ?_ rfl ?_ ?_
          rotate_left
          · intro W hSw
            go_simp
            first | done | (with_reducible rfl)
          try simp only [Act.put, sQ]
          refine' tkL 6 ?_ rfl ?_ ?_
          rotate_left
          · intro W hSw
            go_simp
            first | done | (with_reducible rfl)
          try simp only [Act.put, sQ]
          refine' tkR 7 rfl ?_
          try simp only [Act.put, sQ]
          refine' tkR 8 rfl ?_
          try simp only [Act.put, sQ]
          refine' tkR 9 rfl ?_
          try simp only [Act.put, sQ]
          refine' tkR 10 rfl ?_
          try simp only [Act.put, sQ]
          refine' tkL 11 ?_ rfl ?_ ?_
          rotate_left
          · intro W hSw
            go_simp
            first | done | (with_reducible rfl)
          try simp only [Act.put, sQ]
          refine' tkL 12 ?_ rfl ?_ ?_
          rotate_left
          · intro W hSw
            go_simp
            first | done | (with_reducible rfl)
          try simp only [Act.put, sQ]
          refine' tkR 13 rfl ?_
          try simp only [Act.put, sQ]
          refine' tkR 14 rfl ?_
          try simp only [Act.put, sQ]
          refine' tkR 15 rfl ?_
          try simp only [Act.put, sQ]
          refine' tkL 16 ?_ rfl ?_ ?_
          rotate_left
          · intro W hSw
            go_simp
            first | done | (with_reducible rfl)
          try simp only [Act.put, sQ]
          refine' tkL 17 ?_ rfl ?_ ?_
          rotate_left
          · intro W hSw
            go_simp
            first | done | (with_reducible rfl)
          try simp only [Act.put, sQ]
          refine' tkR 18 rfl ?_
          try simp only [Act.put, sQ]
          refine' tkR 19 rfl ?_
          try simp only [Act.put, sQ]
          refine' tkR 20 rfl ?_
          try simp only [Act.put, sQ]
          refine' tkL 21 ?_ rfl ?_ ?_
          rotate_left
          · intro W hSw
            go_simp
            first | done | (with_reducible rfl)
          try simp only [Act.put, sQ]
          refine' tkL 22 ?_ rfl ?_ ?_
          rotate_left
          · intro W hSw
            go_simp
            first | done | (with_reducible rfl)
          try simp only [Act.put, sQ]
          refine' tkL 23 ?_ rfl ?_ ?_
          rotate_left
          · intro W hSw
            go_simp
            first | done | (with_reducible rfl)
          try simp only [Act.put, sQ]
          refine wpAnyH_done (by kernel_rfl) ?_ _
          refine NoPanic.normal ?_
          go_wp2
          go_ret
          exact ⟨rfl, W11.out.trans (hHeld.mono W11.out.size)⟩
        case false =>
          cases k2
          case true =>
            refine wp_region_noPanic ?_
            refine wp_region_held_drew (S := fun w' => Below w11.heap.size w11 w') (by kernel_rfl) ?_ (fun hHeld => ?_)
            · exact bel_drew w11
            refine' tkL 0 ?_ rfl ?_ ?_
            rotate_left
            · intro W hSw
              go_simp
              first | done | (with_reducible rfl)
            try simp only [Act.put, sQ]
            refine' tkL 1 ?_ rfl ?_ ?_
            rotate_left
            · intro W hSw
              go_simp
              first | done | (with_reducible rfl)
            try simp only [Act.put, sQ]
            refine' tkH 2 rfl (yieldsIf_load_mid (by rfl) _ _ rfl _ _ rfl _ _ (fun _ h => rangeBel2 h U11.out) hu rfl hiU.out) ?_
            try simp only [Act.put, sQ]
            refine' tkH 3 rfl (yieldsIf_load_mid (by rfl) _ _ rfl _ _ rfl _ _ (fun _ h => rangeBel2 h Y11.out) hux rfl jxa.out) ?_
            try simp only [Act.put, sQ]
            refine wpAnyH_ready (rs := [4]) (by kernel_rfl) (by simp) ?_
            refine AllReadyH.cons (o := _) rfl (fun K hK => ?_) AllReadyH.nil
            go_simp
            refine (hFr.out _ (H11.out.bel hHeld (Nat.lt_of_lt_of_le hlow.out W11.out.size))).mono ?_
            rintro e v4 ⟨rfl, hB⟩
            go_wp2_with fail
            refine hK.out _ _ ?_ (fun hHeld => ?_)
            · exact hHeld.trans (hB.mono hHeld.size)
            clear hK K
            try simp only [Act.put, sQ]
            refine' tkL 5 ?_ rfl ?_ ?_
            rotate_left
            · intro W hSw
              go_simp
              first | done | (with_reducible rfl)
            try simp only [Act.put, sQ]
            refine' tkL 6 ?_ rfl ?_ ?_
            rotate_left
            · intro W hSw
              go_simp
              first | done | (with_reducible rfl)
            try simp only [Act.put, sQ]
            refine' tkH 7 rfl (yieldsIf_load_mid (by rfl) _ _ rfl _ _ rfl _ _ (fun _ h => rangeBel2 h U11.out) hu rfl hiU.out) ?_
            try simp only [Act.put, sQ]
            refine' tkL 8 ?_ rfl ?_ ?_
            rotate_left
            · intro W hSw
              go_simp
              first | done | (with_reducible rfl)
            try simp only [Act.put, sQ]
            refine' tkH 9 rfl (yieldsIf_load_mid (by rfl) _ _ rfl _ _ rfl _ _ (fun _ h => rangeBel2 h J11.out) hu rfl hiE.out) ?_
            try simp only [Act.put, sQ]
            refine' tkL 10 ?_ rfl ?_ ?_
            rotate_left
            · intro W hSw
              go_simp
              first | done | (with_reducible rfl)
            try simp only [Act.put, sQ]
            refine' tkL 11 ?_ rfl ?_ ?_
            rotate_left
            · intro W hSw
              go_simp
              first | done | (with_reducible rfl)
            try simp only [Act.put, sQ]
            refine' tkL 12 ?_ rfl ?_ ?_
            rotate_left
            · intro W hSw
              go_simp
              first | done | (with_reducible rfl)
            try simp only [Act.put, sQ]
            refine' tkR 13 rfl ?_
            try simp only [Act.put, sQ]
            refine' tkR 14 rfl ?_
            try simp only [Act.put, sQ]
            refine' tkR 15 rfl ?_
            try simp only [Act.put, sQ]
            refine' tkL 16 ?_ rfl ?_ ?_
            rotate_left
            · intro W hSw
              go_simp
              first | done | (with_reducible rfl)
            try simp only [Act.put, sQ]
            refine' tkL 17 ?_ rfl ?_ ?_
            rotate_left
            · intro W hSw
              go_simp
              first | done | (with_reducible rfl)
            try simp only [Act.put, sQ]
            refine' tkR 18 rfl ?_
            try simp only [Act.put, sQ]
            refine' tkR 19 rfl ?_
            try simp only [Act.put, sQ]
            refine' tkR 20 rfl ?_
            try simp only [Act.put, sQ]
            refine' tkL 21 ?_ rfl ?_ ?_
            rotate_left
            · intro W hSw
              go_simp
              first | done | (with_reducible rfl)
            try simp only [Act.put, sQ]
            refine' tkL 22 ?_ rfl ?_ ?_
            rotate_left
            · intro W hSw
              go_simp
              first | done | (with_reducible rfl)
            try simp only [Act.put, sQ]
            refine' tkL 23 ?_ rfl ?_ ?_
            rotate_left
            · intro W hSw
              go_simp
              first | done | (with_reducible rfl)
            try simp only [Act.put, sQ]
            refine wpAnyH_done (by kernel_rfl) ?_ _
            refine NoPanic.normal ?_
            go_wp2
            go_ret
            exact ⟨rfl, W11.out.trans (hHeld.mono W11.out.size)⟩
          case false =>
            cases k3
            case true =>
              refine wp_region_noPanic ?_
              refine wp_region_held_drew (S := fun w' => Below w11.heap.size w11 w') (by kernel_rfl) ?_ (fun hHeld => ?_)
              · exact bel_drew w11
              refine' tkL 0 ?_ rfl ?_ ?_
              rotate_left
              · intro W hSw
                go_simp
                first | done | (with_reducible rfl)
              try simp only [Act.put, sQ]
              refine' tkL 1 ?_ rfl ?_ ?_
              rotate_left
              · intro W hSw
                go_simp
                first | done | (with_reducible rfl)
              try simp only [Act.put, sQ]
              refine' tkH 2 rfl (yieldsIf_load_mid (by rfl) _ _ rfl _ _ rfl _ _ (fun _ h => rangeBel2 h U11.out) hu rfl hiU.out) ?_
              try simp only [Act.put, sQ]
              refine' tkH 3 rfl (yieldsIf_load_mid (by rfl) _ _ rfl _ _ rfl _ _ (fun _ h => rangeBel2 h Y11.out) hux rfl jxa.out) ?_
              try simp only [Act.put, sQ]
              refine wpAnyH_ready (rs := [4]) (by kernel_rfl) (by simp) ?_
              refine AllReadyH.cons (o := _) rfl (fun K hK => ?_) AllReadyH.nil
              go_simp
              refine (hFr.out _ (H11.out.bel hHeld (Nat.lt_of_lt_of_le hlow.out W11.out.size))).mono ?_
              rintro e v4 ⟨rfl, hB⟩
              go_wp2_with fail
              refine hK.out _ _ ?_ (fun hHeld => ?_)
              · exact hHeld.trans (hB.mono hHeld.size)
              clear hK K
              try simp only [Act.put, sQ]
              refine' tkL 5 ?_ rfl ?_ ?_
              rotate_left
              · intro W hSw
                go_simp
                first | done | (with_reducible rfl)
              try simp only [Act.put, sQ]
              refine' tkL 6 ?_ rfl ?_ ?_
              rotate_left
              · intro W hSw
                go_simp
                first | done | (with_reducible rfl)
              try simp only [Act.put, sQ]
              refine' tkH 7 rfl (yieldsIf_load_mid (by rfl) _ _ rfl _ _ rfl _ _ (fun _ h => rangeBel2 h U11.out) hu rfl hiU.out) ?_
              try simp only [Act.put, sQ]
              refine' tkL 8 ?_ rfl ?_ ?_
              rotate_left
              · intro W hSw
                go_simp
                first | done | (with_reducible rfl)
              try simp only [Act.put, sQ]
              refine' tkH 9 rfl (yieldsIf_load_mid (by rfl) _ _ rfl _ _ rfl _ _ (fun _ h => rangeBel2 h J11.out) hu rfl hiE.out) ?_
              try simp only [Act.put, sQ]
              refine' tkL 10 ?_ rfl ?_ ?_
              rotate_left
              · intro W hSw
                go_simp
                first | done | (with_reducible rfl)
              try simp only [Act.put, sQ]
              refine' tkL 11 ?_ rfl ?_ ?_
              rotate_left
              · intro W hSw
                go_simp
                first | done | (with_reducible rfl)
              try simp only [Act.put, sQ]
              refine' tkL 12 ?_ rfl ?_ ?_
              rotate_left
              · intro W hSw
                go_simp
                first | done | (with_reducible rfl)
              try simp only [Act.put, sQ]
              refine' tkH 13 rfl (yieldsIf_load_mid (by rfl) _ _ rfl _ _ rfl _ _ (fun _ h => rangeBel2 h U11.out) hu rfl hiU.out) ?_
              try simp only [Act.put, sQ]
              refine' tkH 14 rfl (yieldsIf_load_mid (by rfl) _ _ rfl _ _ rfl _ _ (fun _ h => rangeBel2 h D11.out) hu rfl hiD.out) ?_
              try simp only [Act.put, sQ]
              refine' tkL 15 ?_ rfl ?_ ?_
              rotate_left
              · intro W hSw
                go_simp
                first | done | (with_reducible rfl)
              try simp only [Act.put, sQ]
              refine' tkL 16 ?_ rfl ?_ ?_
              rotate_left
              · intro W hSw
                go_simp
                first | done | (with_reducible rfl)
              try simp only [Act.put, sQ]
              refine' tkL 17 ?_ rfl ?_ ?_
              rotate_left
              · intro W hSw
                go_simp
                first | done | (with_reducible rfl)
              try simp only [Act.put, sQ]
              refine' tkR 18 rfl ?_
              try simp only [Act.put, sQ]
              refine' tkR 19 rfl ?_
              try simp only [Act.put, sQ]
              refine' tkR 20 rfl ?_
              try simp only [Act.put, sQ]
              refine' tkL 21 ?_ rfl ?_ ?_
              rotate_left
              · intro W hSw
                go_simp
                first | done | (with_reducible rfl)
              try simp only [Act.put, sQ]
              refine' tkL 22 ?_ rfl ?_ ?_
              rotate_left
              · intro W hSw
                go_simp
                first | done | (with_reducible rfl)
              try simp only [Act.put, sQ]
              refine' tkL 23 ?_ rfl ?_ ?_
              rotate_left
              · intro W hSw
                go_simp
                first | done | (with_reducible rfl)
              try simp only [Act.put, sQ]
              refine wpAnyH_done (by kernel_rfl) ?_ _
              refine NoPanic.normal ?_
              go_wp2
              go_ret
              exact ⟨rfl, W11.out.trans (hHeld.mono W11.out.size)⟩
            case false =>
              have hpq := q5'.out (by first | trivial | rfl) (by first | trivial | rfl) (by first | trivial | rfl)
              subst hpq
              have hE4 : ∀ W, (Op.equalIn 10000 47 (.agg (acC gq).toArray) (.agg (acC gq).toArray)).run Tryd.prog W = .ok true W := fun W => eqac_is gq gq hgqo hgqo true (decide_eq_true rfl) W
              refine wp_region_noPanic ?_
              refine wp_region_held_drew (S := fun w' => Below w11.heap.size w11 w') (by kernel_rfl) ?_ (fun hHeld => ?_)
              · exact bel_drew w11
              refine' tkL 0 ?_ rfl ?_ ?_
              rotate_left
              · intro W hSw
                go_simp
                first | done | (with_reducible rfl)
              try simp only [Act.put, sQ]
              refine' tkL 1 ?_ rfl ?_ ?_
              rotate_left
              · intro W hSw
                go_simp
                first | done | (with_reducible rfl)
              try simp only [Act.put, sQ]
              refine' tkH 2 rfl (yieldsIf_load_mid (by rfl) _ _ rfl _ _ rfl _ _ (fun _ h => rangeBel2 h U11.out) hu rfl hiU.out) ?_
              try simp only [Act.put, sQ]
              refine' tkH 3 rfl (yieldsIf_load_mid (by rfl) _ _ rfl _ _ rfl _ _ (fun _ h => rangeBel2 h Y11.out) hux rfl jxa.out) ?_
              try simp only [Act.put, sQ]
              refine wpAnyH_ready (rs := [4]) (by kernel_rfl) (by simp) ?_
              refine AllReadyH.cons (o := _) rfl (fun K hK => ?_) AllReadyH.nil
              go_simp
              refine (hFr.out _ (H11.out.bel hHeld (Nat.lt_of_lt_of_le hlow.out W11.out.size))).mono ?_
              rintro e v4 ⟨rfl, hB⟩
              go_wp2_with fail
              refine hK.out _ _ ?_ (fun hHeld => ?_)
              · exact hHeld.trans (hB.mono hHeld.size)
              clear hK K
              try simp only [Act.put, sQ]
              refine' tkL 5 ?_ rfl ?_ ?_
              rotate_left
              · intro W hSw
                go_simp
                first | done | (with_reducible rfl)
              try simp only [Act.put, sQ]
              refine' tkL 6 ?_ rfl ?_ ?_
              rotate_left
              · intro W hSw
                go_simp
                first | done | (with_reducible rfl)
              try simp only [Act.put, sQ]
              refine' tkH 7 rfl (yieldsIf_load_mid (by rfl) _ _ rfl _ _ rfl _ _ (fun _ h => rangeBel2 h U11.out) hu rfl hiU.out) ?_
              try simp only [Act.put, sQ]
              refine' tkL 8 ?_ rfl ?_ ?_
              rotate_left
              · intro W hSw
                go_simp
                first | done | (with_reducible rfl)
              try simp only [Act.put, sQ]
              refine' tkH 9 rfl (yieldsIf_load_mid (by rfl) _ _ rfl _ _ rfl _ _ (fun _ h => rangeBel2 h J11.out) hu rfl hiE.out) ?_
              try simp only [Act.put, sQ]
              refine' tkL 10 ?_ rfl ?_ ?_
              rotate_left
              · intro W hSw
                go_simp
                first | done | (with_reducible rfl)
              try simp only [Act.put, sQ]
              refine' tkL 11 ?_ rfl ?_ ?_
              rotate_left
              · intro W hSw
                go_simp
                first | done | (with_reducible rfl)
              try simp only [Act.put, sQ]
              refine' tkL 12 ?_ rfl ?_ ?_
              rotate_left
              · intro W hSw
                go_simp
                first | done | (with_reducible rfl)
              try simp only [Act.put, sQ]
              refine' tkH 13 rfl (yieldsIf_load_mid (by rfl) _ _ rfl _ _ rfl _ _ (fun _ h => rangeBel2 h U11.out) hu rfl hiU.out) ?_
              try simp only [Act.put, sQ]
              refine' tkH 14 rfl (yieldsIf_load_mid (by rfl) _ _ rfl _ _ rfl _ _ (fun _ h => rangeBel2 h D11.out) hu rfl hiD.out) ?_
              try simp only [Act.put, sQ]
              refine' tkL 15 ?_ rfl ?_ ?_
              rotate_left
              · intro W hSw
                go_simp
                first | done | (with_reducible rfl)
              try simp only [Act.put, sQ]
              refine' tkL 16 ?_ rfl ?_ ?_
              rotate_left
              · intro W hSw
                go_simp
                first | done | (with_reducible rfl)
              try simp only [Act.put, sQ]
              refine' tkL 17 ?_ rfl ?_ ?_
              rotate_left
              · intro W hSw
                go_simp
                first | done | (with_reducible rfl)
              try simp only [Act.put, sQ]
              refine' tkH 18 rfl (yieldsIf_load_mid (by rfl) _ _ rfl _ _ rfl _ _ (fun _ h => rangeBel2 h Q11.out) hua rfl jgp.out) ?_
              try simp only [Act.put, sQ]
              refine' tkH 19 rfl (yieldsIf_load_mid (by rfl) _ _ rfl _ _ rfl _ _ (fun _ h => rangeBel2 h V11.out) hua rfl jgq.out) ?_
              try simp only [Act.put, sQ]
              refine' tkL 20 ?_ rfl ?_ ?_
              rotate_left
              · intro W hSw
                go_simp
                first | done | (with_reducible rfl)
              try simp only [Act.put, sQ]
              refine' tkL 21 ?_ rfl ?_ ?_
              rotate_left
              · intro W hSw
                go_simp
                first | done | (with_reducible rfl)
              try simp only [Act.put, sQ]
              refine' tkL 22 ?_ rfl ?_ ?_
              rotate_left
              · intro W hSw
                go_simp
                first | done | (with_reducible rfl)
              try simp only [Act.put, sQ]
              refine' tkL 23 ?_ rfl ?_ ?_
              rotate_left
              · intro W hSw
                go_simp
                first | done | (with_reducible rfl)
              try simp only [Act.put, sQ]
              refine wpAnyH_done (by kernel_rfl) ?_ _
              refine NoPanic.normal ?_
              go_wp2
              go_ret
              exact ⟨rfl, W11.out.trans (hHeld.mono W11.out.size)⟩
      exact AllReadyH.nil

/-! ### WHAT THE WALK GIVES, FOR EVERY ARGUMENT AND EVERY WORLD THAT HOLDS THE TABLE -/
set_option maxRecDepth 100000 in
theorem contract (H : Type) (enc : TypeId × Value → H) (W : World) (base : Nat) (args : Array Value) (ds gs : List (DataW H)) (before : List MemPlace)
    (hval0 : ∀ (j : Nat) t v, Tryd.f5.params[j]? = some t → args[j]? = some v → Value.okWide Tryd.prog W .any base t v)
    (hW : DataW.Whole enc Tryd.prog Tryd.f5.params.toList Rows.purseOthersSpec.vars false W args.toList ds gs before) (hL : laidMetH Tryd.prog Rows.purseOthersRow.laid W) :
    Calls Tryd.prog 5 args W fun e W' => ∃ v, e = .returned v ∧ Rows.purseOthersSpec.post enc Tryd.prog Tryd.f5 false true false false W args v W' := by
  have hval : ∀ (j : Nat) t v, Tryd.f5.params[j]? = some t → args[j]? = some v → Value.okWide Tryd.prog W .any base t v := hval0
  have hW' := hW
  obtain ⟨p, q, hA0, hV, rfl, hfz, hnd⟩ := hW
  have hA : DataW.TrodAll enc Tryd.prog W 0 (fun _ => true) true Tryd.f5.params.toList args.toList ds p := hA0
  rw [Tryd.params5] at hA hval
  obtain ⟨v0, vs0, d0, ds0, p0, q0, hargs, rfl, rfl, h0, r0⟩ := trodAll_cons hA
  obtain ⟨v1, vs1, d1, ds1, p1, q1, rfl, rfl, rfl, h1, r1⟩ := trodAll_cons r0
  obtain ⟨v2, vs2, d2, ds2, p2, q2, rfl, rfl, rfl, h2, r2⟩ := trodAll_cons r1
  obtain ⟨v3, vs3, d3, ds3, p3, q3, rfl, rfl, rfl, h3, r3⟩ := trodAll_cons r2
  obtain ⟨rfl, rfl, rfl⟩ := trodAll_nil r3
  obtain rfl : args = #[v0, v1, v2, v3] := by cases args; simp_all
  obtain ⟨rfl, rfl⟩ := trodVars_none hV
  have k0 := h0
  have lt0 : ∀ x ∈ p0, x.block < W.heap.size := by obtain ⟨m, hm⟩ := k0; exact DataW.trod_lt m _ _ _ hm
  obtain ⟨x0, vs0, rfl, w0⟩ := open_struct opensTr Tryd.underlying27 (hval 0 27 v0 rfl rfl) h0
  have k1 := h1
  have lt1 : ∀ x ∈ p1, x.block < W.heap.size := by obtain ⟨m, hm⟩ := k1; exact DataW.trod_lt m _ _ _ hm
  obtain ⟨x1, vs1, rfl, w1⟩ := open_struct opensTx Tryd.underlying34 (hval 1 34 v1 rfl rfl) h1
  have k2 := h2
  have lt2 : ∀ x ∈ p2, x.block < W.heap.size := by obtain ⟨m, hm⟩ := k2; exact DataW.trod_lt m _ _ _ hm
  obtain ⟨l2, w2, rfl⟩ := open_dig Tryd.underlying23 Tryd.underlying5 cellsByte cellsDig (hval 2 23 v2 rfl rfl) h2
  have k3 := h3
  have lt3 : ∀ x ∈ p3, x.block < W.heap.size := by obtain ⟨m, hm⟩ := k3; exact DataW.trod_lt m _ _ _ hm
  obtain ⟨l3, w3, rfl⟩ := open_dig Tryd.underlying23 Tryd.underlying5 cellsByte cellsDig (hval 3 23 v3 rfl rfl) h3
  clear hA0 hval0
  refine (walk x0 vs0 x1 vs1 l2 l3 W w0 w1 w2 w3 (tab_of hL)).mono fun e W' ⟨he, bel⟩ => ?_
  subst he
  exact ⟨_, rfl, _, _, _, [], _, [], hW', trodAll_mk1 (shut_bool Tryd.underlying4 _), (trodAll_cons_mk (Below.trod laidOut (by kernel_rfl) (of_decide_eq_true (by kernel_rfl)) k0 bel lt0) (trodAll_cons_mk (Below.trod laidOut (by kernel_rfl) (of_decide_eq_true (by kernel_rfl)) k1 bel lt1) (trodAll_cons_mk (Below.trod laidOut (by kernel_rfl) (of_decide_eq_true (by kernel_rfl)) k2 bel lt2) (trodAll_cons_mk (Below.trod laidOut (by kernel_rfl) (of_decide_eq_true (by kernel_rfl)) k3 bel lt3) trodAll_mk0)))), rfl, bel.frame _, fun h => by cases h⟩

theorem laid_met (os : Os) : laidMet Tryd.prog Rows.purseOthersRow.laid ((laidWorld os).forCall (fun _ _ => 0) ⟨#[], #[.agg zTrC, .agg zTxC, .agg (List.replicate 32 (bv 0)).toArray, .agg (List.replicate 32 (bv 0)).toArray], []⟩).memory :=
  laidMet_of_run' 8 (by kernel_rfl) (by kernel_rfl)
theorem reads (os : Os) {H : Type} (enc : TypeId × Value → H) : ∃ places, DataW.whole enc Tryd.prog ((laidWorld os).forCall (fun _ _ => 0) ⟨#[], #[.agg zTrC, .agg zTxC, .agg (List.replicate 32 (bv 0)).toArray, .agg (List.replicate 32 (bv 0)).toArray], []⟩).memory Tryd.f5.params.toList Rows.purseOthersSpec.vars false (#[.agg zTrC, .agg zTxC, .agg (List.replicate 32 (bv 0)).toArray, .agg (List.replicate 32 (bv 0)).toArray] : Array Value).toList 8 = some ([.agg [.nil, .lit (.int .i64 0)], .agg [.agg (List.replicate 32 (.lit (.int .u8 0))), .agg (List.replicate 32 (.lit (.int .u8 0))), .lit (.int .u64 0), .lit (.int .u64 0), .lit (.int .u64 0), .agg (List.replicate 32 (.lit (.int .u8 0)))], .agg (List.replicate 32 (.lit (.int .u8 0))), .agg (List.replicate 32 (.lit (.int .u8 0)))], [], places) :=
  ⟨[], by kernel_rfl⟩
set_option maxRecDepth 100000 in
theorem lifted (os : Os) (started : os.Started) (H : Type) (enc : TypeId × Value → H) (F : Stop.Interp) :
    ReturnsInHanded {} Tryd.checked os 5 .any ((OpenSpec.ofChange Rows.purseOthersSpec).preRow enc Tryd.prog Tryd.f5 Rows.purseOthersRow.domain false Rows.purseOthersRow.laid) (((OpenSpec.ofChange Rows.purseOthersSpec).at F).post enc Tryd.prog Tryd.f5 false true false false) := by
  obtain ⟨places, hx⟩ := reads os enc
  refine returnsInHanded_of_row (C := Tryd.checked) (s := OpenSpec.ofChange Rows.purseOthersSpec) own started (by kernel_rfl) Tryd.func5
    (witness_row_at (enc := enc) (C := Tryd.checked) false (laidWorld os) #[.agg zTrC, .agg zTxC, .agg (List.replicate 32 (bv 0)).toArray, .agg (List.replicate 32 (bv 0)).toArray] rfl (by kernel_rfl) (by kernel_rfl) (by kernel_rfl)
      (OpenSpec.preRow_of_cond 8 hx (by kernel_rfl) (fun k hk => by cases hk) (by kernel_rfl) (laid_met os))) ?_
  intro W base args ds gs before hval hW _ _ _ hL _ _
  exact contract H enc W base args ds gs before hval hW hL
theorem said : Rows.PurseOthersSaid :=
  OpenClaim.holds_of_cond 5 Tryd.f5 rfl rfl rfl rfl rfl rfl rfl ⟨rfl, rfl, rfl, rfl, rfl⟩ rfl rfl rfl rfl rfl (by kernel_rfl) Tryd.func5 (by kernel_rfl)
    (of_decide_eq_true (by kernel_rfl)) (by unfold Func.isWrapper; first | (rw [if_pos (by decide +kernel)]; kernel_rfl) | (rw [if_neg (by decide +kernel)]; exact ⟨rfl, rfl⟩))
    (fun os started H enc _ F => by rw [OpenClaim.pre_eq_preRow]; exact lifted os started H enc F)
set_option maxRecDepth 100000 in
/-- No parameter wants a stand-in; the program's own looks are off: what the card asks. -/
theorem plain (f : FuncId) (fn : Func) (hf : Tryd.pinned.checked.prog.funcNamed "beadroll/beadrolllaw15.PurseOthers" = some f) (hfn : Tryd.pinned.checked.prog.funcs[f]? = some fn) :
    false = Tryd.pinned.checked.prog.looks [] ∧ ∀ (j : Nat) t, fn.params[j]? = some t → Tryd.pinned.checked.prog.wantsStandIn t = false := by
  obtain rfl : f = 5 := Option.some.inj ((show Tryd.prog.funcNamed "beadroll/beadrolllaw15.PurseOthers" = some 5 by kernel_rfl).symm.trans hf) |>.symm
  obtain rfl : fn = Tryd.f5 := (Option.some.inj (Tryd.func5.symm.trans hfn)).symm
  refine ⟨by kernel_rfl, fun j t ht => ?_⟩
  rw [Tryd.params5] at ht
  have hm := Array.mem_of_getElem? ht
  simp only [List.mem_toArray, List.mem_cons, List.not_mem_nil, or_false] at hm
  rcases hm with rfl | rfl | rfl | rfl
  all_goals first | exact (show Tryd.prog.wantsStandIn 27 = false by kernel_rfl) | exact (show Tryd.prog.wantsStandIn 34 = false by kernel_rfl) | exact (show Tryd.prog.wantsStandIn 23 = false by kernel_rfl)
set_option maxRecDepth 100000 in
/-- ████ THE CARD ████ -/
theorem proved : Rows.PurseOthersCardSaid :=
  Claim7.holds_tied_plain_at .later [] _ _ _ _ said (fun _ h => by cases h) (by kernel_rfl) (fun _ h => by cases h) purseOthers_row_tie rfl ⟨rfl, rfl⟩ (by kernel_rfl) rfl plain (by kernel_rfl)
#print axioms proved
end Go.Proofs.YtmjocmogfckmmaaDoor.purseOthers
