/-
  The Go function PursePays returns true: what a state is behind a transaction, and the code, or the error, is the document's; any tree, transaction and box; it stays; its arguments read afterwards as before.
  Conditions: none. The frame around the walk was written by program (proof-skeleton.mjs).
-/
import Derived.Test.YtmjocmogfckmmaaGreatDoorRows
import Derived.Test.YtmjocmogfckmmaaGreatDoorDoor
import Derived.WalkKit
import Derived.ProofKit
import Derived.OpenShut
import Derived.ShutString
import Derived.ChangeOld
import Derived.Below
import Derived.Test.YtmjocmogfckmmaaGreatDoorPuE
import Derived.Test.YtmjocmogfckmmaaGreatDoorLaw15g
import Derived.Test.YtmjocmogfckmmaaGreatDoorRf15
import Derived.Test.YtmjocmogfckmmaaGreatDoorRf6
import Derived.Test.YtmjocmogfckmmaaGreatDoorRef06f
import Derived.Test.YtmjocmogfckmmaaGreatDoorStX
namespace Go.Proofs.YtmjocmogfckmmaaGreatDoor.pursePays
open Go.ChangeShapes Go.WideShapes Go.ChangeAt Go.RowKit
open Go.ChangeMaps (open_string shut_string)
set_option linter.unusedVariables false

theorem own : ownKnob Tryz.prog.godebug = none := by kernel_rfl
theorem laidOut : laidOutB Tryz.prog = true := by kernel_rfl

/-- WHAT THE WALK IS TOLD OF A SLICE OF INTEGERS THAT CAME IN: it is nil; or it leads to a row of 'cap' cells, the numbers 'zs' (the first 'len' are its elements, the rest its spare room), each fitting its kind. -/
def IsRow (k : IntKind) (w : World) (a : Option Addr) (len cap : Nat) (zs : List Int) : Prop :=
  (a = none ∧ len = 0 ∧ cap = 0 ∧ zs = []) ∨
  ∃ x, a = some x ∧ len ≤ cap ∧ cap ≤ maxLen ∧ zs.length = cap ∧ (∀ i, i < zs.length → w.cell? (x.add i) = some (.int k (zs.getD i 0))) ∧ ∀ n ∈ zs, (Lit.int k n).wf = true

/-! ### the walk -/
open Go.Proofs.YtmjocmogfckmmaaGreatDoor
set_option linter.unusedSimpArgs false
set_option maxRecDepth 100000 in
set_option maxHeartbeats 16000000 in
theorem walk (x0 : Tr) (vs0 : List Value) (x1 : Tx) (vs1 : List Value) (l2 : List UInt8) (w : World) (w0 : Enc.rep (fun b => b < w.heap.size) w x0 vs0) (w1 : Enc.rep (fun b => b < w.heap.size) w x1 vs1) (w2 : l2.length = 32) (hT : Tab w) :
    Calls Tryz.prog 3 #[.agg vs0.toArray, .agg vs1.toArray, .agg (l2.map bv).toArray] w fun e w' => e = .returned (.bool true) ∧ Below w.heap.size w w' := by
  obtain ⟨A0, c0, rfl, hc0, hm0, hr, hI⟩ := rep_tr w0
  obtain ⟨ns, root⟩ := x0
  obtain ⟨rfl, hx⟩ := rep_tx w1
  obtain ⟨box, rfl⟩ : ∃ k : Dg, l2 = k.1 := ⟨⟨l2, w2⟩, rfl⟩
  generalize x1 = xa at *
  dsimp only at *
  have hcm : ns.length ≤ 9223372036854775807 := by unfold maxLen at hm0; omega
  obtain ⟨T0', Y0, D0, W0⟩ := boxesTXD w [.slice A0 ns.length c0, .int .i64 root] (txC xa) (box.1.map bv) 24 29 26
  have T0 := hid (BoxT.of T0')
  have hut := Tryz.underlying24
  have hux := Tryz.underlying29
  have hu := Tryz.underlying26
  have hiT := hid (show (Tryz.prog.info? 24).map (·.size) = some ([Value.slice A0 ns.length c0, .int .i64 root]).length from sizeTr)
  have hiD := hid (sizeDgT box)
  have jxa := hid (sizeTx xa)
  have R0 := hid (hr.bel W0)
  have H0 := hid (hT.bel W0 hT.low)
  have hlow := hid hT.low
  obtain ⟨gb, hgb⟩ : ∃ gb, greatT ns 600 = gb := ⟨_, rfl⟩
  have hGr := fun W hW => RGreatT_any (fun b => b < w.heap.size) A0 c0 600 ns root W hW hcm
  rw [hgb] at hGr
  replace hGr := hid hGr
  replace hgb := hid hgb
  replace Y0 := hid Y0
  replace D0 := hid D0
  replace W0 := hid W0
  clear hT hr w0 w1 w2 hI T0'
  go_enter Tryz.func3, Tryz.ntmps3
  go_wp2_with (first
    | ((with_reducible refine wpList_load_rng ?_ 24 (.tmp 3) rfl w.heap.size 0 rfl [Value.slice A0 ns.length c0, .int .i64 root] _ ?_ hut rfl hiT.out ?_); rfl; exact T0.out.all))
  generalize ((w.alloc (.cells #[.slice A0 ns.length c0, .int .i64 root] 24)).alloc (.cells (txC xa).toArray 29)).alloc (.cells (box.1.map bv).toArray 26) = w0 at *
  refine (hGr.out _ R0.out).mono ?_
  rintro e w1 ⟨rfl, hb⟩
  have T1 := hid (T0.out.bel hb)
  have Y1 := hid (rangeBel2 hb Y0.out)
  have D1 := hid (rangeBel2 hb D0.out)
  have R1 := hid (R0.out.bel hb)
  have H1 := hid (H0.out.bel hb (Nat.lt_of_lt_of_le hlow.out W0.out.size))
  have W1 := hid (W0.out.trans (hb.mono W0.out.size))
  clear T0 Y0 D0 R0 H0 W0
  clear hb hGr
  cases gb with
  | true =>
    go_wp2
    go_ret
    exact ⟨rfl, W1.out⟩
  | false =>
    obtain ⟨hlen, hvs⟩ := greatT_no hgb.out
    have hvs2 : ∀ x ∈ ns, x.v.length ≤ 1000000 := fun x hx => Nat.le_trans (hvs x hx) (by decide)
    clear hgb
    have hTw := hid (fun W hW => RTwinT_any (fun b => b < w.heap.size) A0 c0 ns root W hW (by omega) hvs2)
    have hPG := hid (fun F A c W hW hT => pay_q F A c ns root xa box W hx hW (by omega) hT (payTC ⟨ns, root⟩ xa box) (payTE ⟨ns, root⟩ xa) (fun o => (payTE ⟨ns, root⟩ xa = 0 → mayA o = true ∧ allT o = payTL ⟨ns, root⟩ xa box ∧ o.ns.length ≤ 1800 ∧ ∃ r, o.ns = ns ++ r) ∧ (¬ payTE ⟨ns, root⟩ xa = 0 → o = ⟨[], 0⟩)) rfl rfl (fun o ho => ⟨fun h0 => ⟨(pay_yes h0 ho).1, by rw [(pay_yes h0 ho).2.1]; unfold payTL; rw [if_pos h0], by have := (pay_yes h0 ho).2.2.1; dsimp only at this; omega, (pay_yes h0 ho).2.2.2⟩, fun h0 => pay_no h0 ho⟩))
    have hRG := hid (fun W hW => RPay_any (fun b => b < w.heap.size) A0 c0 ns root xa box W hx hW (by omega))
    have hSm := hid (fun F G A D c d W hW hV => RSameT_eq F G A D c d ns root W hW hV (by omega))
    generalize payTC ⟨ns, root⟩ xa box = gc at *
    generalize payTL ⟨ns, root⟩ xa box = L at *
    generalize payTE ⟨ns, root⟩ xa = z at *
    clear hvs hvs2
    go_wp2_with (first
      | ((with_reducible refine wpList_load_rng rfl 24 (.tmp 3) rfl w.heap.size 0 rfl [Value.slice A0 ns.length c0, .int .i64 root] _ ?_ hut rfl hiT.out ?_); exact T1.out.all))
    refine (hTw.out _ R1.out).mono ?_
    rintro e w2 ⟨A2, c2, rfl, ho, hb⟩
    have T2 := hid (T1.out.bel hb)
    have Y2 := hid (rangeBel2 hb Y1.out)
    have D2 := hid (rangeBel2 hb D1.out)
    have R2 := hid (R1.out.bel hb)
    have H2 := hid (H1.out.bel hb (Nat.lt_of_lt_of_le hlow.out W1.out.size))
    have W2 := hid (W1.out.trans (hb.mono W1.out.size))
    clear T1 Y1 D1 R1 H1 W1
    have O2 := hid (OwnR.row ho)
    have hiO := hid (show (Tryz.prog.info? 24).map (·.size) = some ([Value.slice A2 ns.length c2, .int .i64 root]).length from sizeTr)
    clear hb ho hTw
    have e2 := hid (heap_alloc_new w2 (.cells zTrC 24))
    have hiN := hid (show (Tryz.prog.info? 24).map (·.size) = some ([Value.slice A2 ns.length c2, .int .i64 root]).length from sizeTr)
    go_wp2_with (first
      | (with_reducible refine wpList_alloc_row rfl 24 rfl zTrC zInfoTr ?_)
      | ((with_reducible refine wpList_store_row rfl 24 (.tmp 7) (.tmp 18) rfl _ _ rfl rfl 24 zTrC ?_ ?_ ?_ ?_ ?_); exact e2.out; exact sizeTr; rfl; exact one_trP A2 ns.length c2 root; intro w3 hgS hbS hsS; have X3 := hid (xnewP rfl hbS); have lt3 := hid (block_lt hgS); have N3 := hid (BoxT.of (rangeOf (l := [Value.slice A2 ns.length c2, .int .i64 root]) hgS)); clear hgS hbS hsS; have T3 := hid (T2.out.bel X3.out); have Y3 := hid (rangeBel2 X3.out Y2.out); have D3 := hid (rangeBel2 X3.out D2.out); have R3 := hid (R2.out.bel X3.out); have H3 := hid (H2.out.bel X3.out (Nat.lt_of_lt_of_le hlow.out W2.out.size)); have W3 := hid (W2.out.trans (X3.out.mono W2.out.size)); have O3 := hid (O2.out.bel X3.out); clear T2 Y2 D2 R2 H2 W2 O2)
      | ((with_reducible refine wpList_load_rng rfl 24 (.tmp 7) rfl w2.heap.size 0 rfl [Value.slice A2 ns.length c2, .int .i64 root] _ ?_ hut rfl hiO.out ?_); exact N3.out.all)
      | ((with_reducible refine wpList_load_rng rfl 29 (.tmp 4) rfl (w.heap.size + 1) 0 rfl (txC xa) _ ?_ hux rfl jxa.out ?_); exact Y3.out)
      | ((with_reducible refine wpList_load_rng rfl 26 (.tmp 5) rfl (w.heap.size + 1 + 1) 0 rfl (box.1.map bv) _ ?_ hu rfl hiD.out ?_); exact D3.out))
    refine (hPG.out _ A2 c2 _ O3.out H3.out).mono ?_
    rintro e w4 ⟨⟨na, ra⟩, A4, c4, rfl, ho, hb, hok⟩
    dsimp only at ho hok ⊢
    have T4 := hid (T3.out.bel hb)
    have Y4 := hid (rangeBel2 hb Y3.out)
    have D4 := hid (rangeBel2 hb D3.out)
    have R4 := hid (R3.out.bel hb)
    have H4 := hid (H3.out.bel hb (Nat.lt_of_lt_of_le hlow.out W3.out.size))
    have W4 := hid (W3.out.trans (hb.mono W3.out.size))
    have O4 := hid (O3.out.bel hb)
    have N4 := hid (N3.out.bel hb)
    clear T3 Y3 D3 R3 H3 W3 O3 N3
    have b4 := hid (OwnR.row ho)
    have hcE : na.length ≤ c4 := ho.cap.1
    replace hok := hid hok
    have hiC := hid (show (Tryz.prog.info? 24).map (·.size) = some ([Value.slice A4 na.length c4, .int .i64 ra]).length from sizeTr)
    replace hcE := hid hcE
    clear hb ho hPG
    have e4 := hid (heap_alloc_new w4 (.cells zTrC 24))
    have hiE := hid (show (Tryz.prog.info? 24).map (·.size) = some ([Value.slice A4 na.length c4, .int .i64 ra]).length from sizeTr)
    go_wp2_with (first
      | (with_reducible refine wpList_alloc_row rfl 24 rfl zTrC zInfoTr ?_)
      | ((with_reducible refine wpList_store_row rfl 24 (.tmp 8) (.tmp 24) rfl _ _ rfl rfl 24 zTrC ?_ ?_ ?_ ?_ ?_); exact e4.out; exact sizeTr; rfl; exact one_trP A4 na.length c4 ra; intro w5 hgS hbS hsS; have X5 := hid (xnewP rfl hbS); have lt5 := hid (block_lt hgS); have E5 := hid (BoxT.of (rangeOf (l := [Value.slice A4 na.length c4, .int .i64 ra]) hgS)); clear hgS hbS hsS; have T5 := hid (T4.out.bel X5.out); have Y5 := hid (rangeBel2 X5.out Y4.out); have D5 := hid (rangeBel2 X5.out D4.out); have R5 := hid (R4.out.bel X5.out); have H5 := hid (H4.out.bel X5.out (Nat.lt_of_lt_of_le hlow.out W4.out.size)); have W5 := hid (W4.out.trans (X5.out.mono W4.out.size)); have O5 := hid (O4.out.bel X5.out); have N5 := hid (N4.out.bel X5.out); have b5 := hid (b4.out.bel X5.out); clear T4 Y4 D4 R4 H4 W4 O4 N4 b4)
      | ((with_reducible refine wpList_load_rng rfl 24 (.tmp 3) rfl w.heap.size 0 rfl [Value.slice A0 ns.length c0, .int .i64 root] _ ?_ hut rfl hiT.out ?_); exact T5.out.all)
      | ((with_reducible refine wpList_load_rng rfl 29 (.tmp 4) rfl (w.heap.size + 1) 0 rfl (txC xa) _ ?_ hux rfl jxa.out ?_); exact Y5.out)
      | ((with_reducible refine wpList_load_rng rfl 26 (.tmp 5) rfl (w.heap.size + 1 + 1) 0 rfl (box.1.map bv) _ ?_ hu rfl hiD.out ?_); exact D5.out))
    refine (hRG.out _ R5.out).mono ?_
    rintro e w6 ⟨A6, c6, rfl, ho, hb⟩
    have T6 := hid (T5.out.bel hb)
    have Y6 := hid (rangeBel2 hb Y5.out)
    have D6 := hid (rangeBel2 hb D5.out)
    have R6 := hid (R5.out.bel hb)
    have H6 := hid (H5.out.bel hb (Nat.lt_of_lt_of_le hlow.out W5.out.size))
    have W6 := hid (W5.out.trans (hb.mono W5.out.size))
    have O6 := hid (O5.out.bel hb)
    have N6 := hid (N5.out.bel hb)
    have b6 := hid (b5.out.bel hb)
    have E6 := hid (E5.out.bel hb)
    clear T5 Y5 D5 R5 H5 W5 O5 N5 b5 E5
    have l6 := hid (OwnR.row ho)
    clear hb ho hRG
    by_cases hz : z = 0
    case neg =>
      have hno := hok.out.2 hz
      have hzn : (z != 0) = true := bne_iff_ne.2 hz
      have hzz : (z == z) = true := beq_self_eq_true z
      injection hno with hn0 hr0
      subst hn0 hr0
      have y6 := hid (E6.out.all 0 _ rfl)
      replace y6 := y6.out
      simp only [List.length_nil] at y6
      clear hz
      go_wp2_with (first
        | ((with_reducible refine wpList_load_rng ?_ 24 (.tmp 7) rfl w2.heap.size 0 rfl [Value.slice A2 ns.length c2, .int .i64 root] _ ?_ hut rfl hiO.out ?_); rfl; exact N6.out.all)
        | ((with_reducible refine wpList_load_rng ?_ 24 (.tmp 3) rfl w.heap.size 0 rfl [Value.slice A0 ns.length c0, .int .i64 root] _ ?_ hut rfl hiT.out ?_); rfl; exact T6.out.all))
      refine (hSm.out _ _ A2 A0 c2 c0 _ O6.out R6.out).mono ?_
      rintro e w7 ⟨rfl, hb⟩
      have T7 := hid (T6.out.bel hb)
      have Y7 := hid (rangeBel2 hb Y6.out)
      have D7 := hid (rangeBel2 hb D6.out)
      have R7 := hid (R6.out.bel hb)
      have H7 := hid (H6.out.bel hb (Nat.lt_of_lt_of_le hlow.out W6.out.size))
      have W7 := hid (W6.out.trans (hb.mono W6.out.size))
      have O7 := hid (O6.out.bel hb)
      have N7 := hid (N6.out.bel hb)
      have b7 := hid (b6.out.bel hb)
      have E7 := hid (E6.out.bel hb)
      have l7 := hid (l6.out.bel hb)
      clear T6 Y6 D6 R6 H6 W6 O6 N6 b6 E6 l6
      clear hb 
      go_wp2
      go_ret
      exact ⟨rfl, W7.out⟩
    case pos =>
      subst hz
      obtain ⟨hma, hal, hnl, ms, hms⟩ := hok.out.1 rfl
      have hmt := (mayA_both hma).1
      have hGw := hid (fun F G H A D Q c d q W (hW : Row F W A na) (hV : Row G W D ns) (hU : Row H W Q L) (hc : na.length ≤ c) => grown15_true F G H A D Q c d q na ns ms ra root L W hms hmt hal hW hV hU hc (by omega))
      clear hma hal hms hmt hok
      go_wp2_with (first
        | ((with_reducible refine wpList_load_rng ?_ 24 (.tmp 8) rfl w4.heap.size 0 rfl [Value.slice A4 na.length c4, .int .i64 ra] _ ?_ hut rfl hiC.out ?_); rfl; exact E6.out.all)
        | ((with_reducible refine wpList_load_rng ?_ 24 (.tmp 3) rfl w.heap.size 0 rfl [Value.slice A0 ns.length c0, .int .i64 root] _ ?_ hut rfl hiT.out ?_); rfl; exact T6.out.all))
      refine (hGw.out _ _ _ A4 A0 A6 c4 c0 c6 _ b6.out R6.out l6.out hcE.out).mono ?_
      rintro e w7 ⟨rfl, hb⟩
      have T7 := hid (T6.out.bel hb)
      have Y7 := hid (rangeBel2 hb Y6.out)
      have D7 := hid (rangeBel2 hb D6.out)
      have R7 := hid (R6.out.bel hb)
      have H7 := hid (H6.out.bel hb (Nat.lt_of_lt_of_le hlow.out W6.out.size))
      have W7 := hid (W6.out.trans (hb.mono W6.out.size))
      have O7 := hid (O6.out.bel hb)
      have N7 := hid (N6.out.bel hb)
      have b7 := hid (b6.out.bel hb)
      have E7 := hid (E6.out.bel hb)
      have l7 := hid (l6.out.bel hb)
      clear T6 Y6 D6 R6 H6 W6 O6 N6 b6 E6 l6
      clear hb hGw
      go_wp2_with (first
        | ((with_reducible refine wpList_load_rng ?_ 24 (.tmp 7) rfl w2.heap.size 0 rfl [Value.slice A2 ns.length c2, .int .i64 root] _ ?_ hut rfl hiO.out ?_); rfl; exact N7.out.all)
        | ((with_reducible refine wpList_load_rng ?_ 24 (.tmp 3) rfl w.heap.size 0 rfl [Value.slice A0 ns.length c0, .int .i64 root] _ ?_ hut rfl hiT.out ?_); rfl; exact T7.out.all))
      refine (hSm.out _ _ A2 A0 c2 c0 _ O7.out R7.out).mono ?_
      rintro e w8 ⟨rfl, hb⟩
      have T8 := hid (T7.out.bel hb)
      have Y8 := hid (rangeBel2 hb Y7.out)
      have D8 := hid (rangeBel2 hb D7.out)
      have R8 := hid (R7.out.bel hb)
      have H8 := hid (H7.out.bel hb (Nat.lt_of_lt_of_le hlow.out W7.out.size))
      have W8 := hid (W7.out.trans (hb.mono W7.out.size))
      have O8 := hid (O7.out.bel hb)
      have N8 := hid (N7.out.bel hb)
      have b8 := hid (b7.out.bel hb)
      have E8 := hid (E7.out.bel hb)
      have l8 := hid (l7.out.bel hb)
      clear T7 Y7 D7 R7 H7 W7 O7 N7 b7 E7 l7
      clear hb 
      go_wp2
      go_ret
      exact ⟨rfl, W8.out⟩

/-! ### WHAT THE WALK GIVES, FOR EVERY ARGUMENT AND EVERY WORLD THAT HOLDS THE TABLE -/
set_option maxRecDepth 100000 in
theorem contract (H : Type) (enc : TypeId × Value → H) (W : World) (base : Nat) (args : Array Value) (ds gs : List (DataW H)) (before : List MemPlace)
    (hval0 : ∀ (j : Nat) t v, Tryz.f3.params[j]? = some t → args[j]? = some v → Value.okWide Tryz.prog W .any base t v)
    (hW : DataW.Whole enc Tryz.prog Tryz.f3.params.toList Rows.pursePaysSpec.vars false W args.toList ds gs before) (hL : laidMetH Tryz.prog Rows.pursePaysRow.laid W) :
    Calls Tryz.prog 3 args W fun e W' => ∃ v, e = .returned v ∧ Rows.pursePaysSpec.post enc Tryz.prog Tryz.f3 false true false false W args v W' := by
  have hval : ∀ (j : Nat) t v, Tryz.f3.params[j]? = some t → args[j]? = some v → Value.okWide Tryz.prog W .any base t v := hval0
  have hW' := hW
  obtain ⟨p, q, hA0, hV, rfl, hfz, hnd⟩ := hW
  have hA : DataW.TrodAll enc Tryz.prog W 0 (fun _ => true) true Tryz.f3.params.toList args.toList ds p := hA0
  rw [Tryz.params3] at hA hval
  obtain ⟨v0, vs0, d0, ds0, p0, q0, hargs, rfl, rfl, h0, r0⟩ := trodAll_cons hA
  obtain ⟨v1, vs1, d1, ds1, p1, q1, rfl, rfl, rfl, h1, r1⟩ := trodAll_cons r0
  obtain ⟨v2, vs2, d2, ds2, p2, q2, rfl, rfl, rfl, h2, r2⟩ := trodAll_cons r1
  obtain ⟨rfl, rfl, rfl⟩ := trodAll_nil r2
  obtain rfl : args = #[v0, v1, v2] := by cases args; simp_all
  obtain ⟨rfl, rfl⟩ := trodVars_none hV
  have k0 := h0
  have lt0 : ∀ x ∈ p0, x.block < W.heap.size := by obtain ⟨m, hm⟩ := k0; exact DataW.trod_lt m _ _ _ hm
  obtain ⟨x0, vs0, rfl, w0⟩ := open_struct opensTr Tryz.underlying24 (hval 0 24 v0 rfl rfl) h0
  have k1 := h1
  have lt1 : ∀ x ∈ p1, x.block < W.heap.size := by obtain ⟨m, hm⟩ := k1; exact DataW.trod_lt m _ _ _ hm
  obtain ⟨x1, vs1, rfl, w1⟩ := open_struct opensTx Tryz.underlying29 (hval 1 29 v1 rfl rfl) h1
  have k2 := h2
  have lt2 : ∀ x ∈ p2, x.block < W.heap.size := by obtain ⟨m, hm⟩ := k2; exact DataW.trod_lt m _ _ _ hm
  obtain ⟨l2, w2, rfl⟩ := open_dig Tryz.underlying26 Tryz.underlying5 cellsByte cellsDig (hval 2 26 v2 rfl rfl) h2
  clear hA0 hval0
  refine (walk x0 vs0 x1 vs1 l2 W w0 w1 w2 (tab_of hL)).mono fun e W' ⟨he, bel⟩ => ?_
  subst he
  exact ⟨_, rfl, _, _, _, [], _, [], hW', trodAll_mk1 (shut_bool Tryz.underlying4 _), (trodAll_cons_mk (Below.trod laidOut (by kernel_rfl) (of_decide_eq_true (by kernel_rfl)) k0 bel lt0) (trodAll_cons_mk (Below.trod laidOut (by kernel_rfl) (of_decide_eq_true (by kernel_rfl)) k1 bel lt1) (trodAll_cons_mk (Below.trod laidOut (by kernel_rfl) (of_decide_eq_true (by kernel_rfl)) k2 bel lt2) trodAll_mk0))), rfl, bel.frame _, fun h => by cases h⟩

theorem laid_met (os : Os) : laidMet Tryz.prog Rows.pursePaysRow.laid ((laidWorld os).forCall (fun _ _ => 0) ⟨#[], #[.agg zTrC, .agg zTxC, .agg (List.replicate 32 (bv 0)).toArray], []⟩).memory :=
  laidMet_of_run' 8 (by kernel_rfl) (by kernel_rfl)
theorem reads (os : Os) {H : Type} (enc : TypeId × Value → H) : ∃ places, DataW.whole enc Tryz.prog ((laidWorld os).forCall (fun _ _ => 0) ⟨#[], #[.agg zTrC, .agg zTxC, .agg (List.replicate 32 (bv 0)).toArray], []⟩).memory Tryz.f3.params.toList Rows.pursePaysSpec.vars false (#[.agg zTrC, .agg zTxC, .agg (List.replicate 32 (bv 0)).toArray] : Array Value).toList 8 = some ([.agg [.nil, .lit (.int .i64 0)], .agg [.agg (List.replicate 32 (.lit (.int .u8 0))), .agg (List.replicate 32 (.lit (.int .u8 0))), .lit (.int .u64 0), .lit (.int .u64 0), .lit (.int .u64 0), .agg (List.replicate 32 (.lit (.int .u8 0)))], .agg (List.replicate 32 (.lit (.int .u8 0)))], [], places) :=
  ⟨[], by kernel_rfl⟩
set_option maxRecDepth 100000 in
theorem lifted (os : Os) (started : os.Started) (H : Type) (enc : TypeId × Value → H) (F : Stop.Interp) :
    ReturnsInHanded {} Tryz.checked os 3 .any ((OpenSpec.ofChange Rows.pursePaysSpec).preRow enc Tryz.prog Tryz.f3 Rows.pursePaysRow.domain false Rows.pursePaysRow.laid) (((OpenSpec.ofChange Rows.pursePaysSpec).at F).post enc Tryz.prog Tryz.f3 false true false false) := by
  obtain ⟨places, hx⟩ := reads os enc
  refine returnsInHanded_of_row (C := Tryz.checked) (s := OpenSpec.ofChange Rows.pursePaysSpec) own started (by kernel_rfl) Tryz.func3
    (witness_row_at (enc := enc) (C := Tryz.checked) false (laidWorld os) #[.agg zTrC, .agg zTxC, .agg (List.replicate 32 (bv 0)).toArray] rfl (by kernel_rfl) (by kernel_rfl) (by kernel_rfl)
      (OpenSpec.preRow_of_cond 8 hx (by kernel_rfl) (fun k hk => by cases hk) (by kernel_rfl) (laid_met os))) ?_
  intro W base args ds gs before hval hW _ _ _ hL _ _
  exact contract H enc W base args ds gs before hval hW hL
theorem said : Rows.PursePaysSaid :=
  OpenClaim.holds_of_cond 3 Tryz.f3 rfl rfl rfl rfl rfl rfl rfl ⟨rfl, rfl, rfl, rfl, rfl⟩ rfl rfl rfl rfl rfl (by kernel_rfl) Tryz.func3 (by kernel_rfl)
    (of_decide_eq_true (by kernel_rfl)) (by unfold Func.isWrapper; first | (rw [if_pos (by decide +kernel)]; kernel_rfl) | (rw [if_neg (by decide +kernel)]; exact ⟨rfl, rfl⟩))
    (fun os started H enc _ F => by rw [OpenClaim.pre_eq_preRow]; exact lifted os started H enc F)
set_option maxRecDepth 100000 in
/-- No parameter wants a stand-in; the program's own looks are off: what the card asks. -/
theorem plain (f : FuncId) (fn : Func) (hf : Tryz.pinned.checked.prog.funcNamed "beadroll/beadrolllaw15.PursePays" = some f) (hfn : Tryz.pinned.checked.prog.funcs[f]? = some fn) :
    false = Tryz.pinned.checked.prog.looks [] ∧ ∀ (j : Nat) t, fn.params[j]? = some t → Tryz.pinned.checked.prog.wantsStandIn t = false := by
  obtain rfl : f = 3 := Option.some.inj ((show Tryz.prog.funcNamed "beadroll/beadrolllaw15.PursePays" = some 3 by kernel_rfl).symm.trans hf) |>.symm
  obtain rfl : fn = Tryz.f3 := (Option.some.inj (Tryz.func3.symm.trans hfn)).symm
  refine ⟨by kernel_rfl, fun j t ht => ?_⟩
  rw [Tryz.params3] at ht
  have hm := Array.mem_of_getElem? ht
  simp only [List.mem_toArray, List.mem_cons, List.not_mem_nil, or_false] at hm
  rcases hm with rfl | rfl | rfl
  all_goals first | exact (show Tryz.prog.wantsStandIn 24 = false by kernel_rfl) | exact (show Tryz.prog.wantsStandIn 29 = false by kernel_rfl) | exact (show Tryz.prog.wantsStandIn 26 = false by kernel_rfl)
set_option maxRecDepth 100000 in
/-- ████ THE CARD ████ -/
theorem proved : Rows.PursePaysCardSaid :=
  Claim7.holds_tied_plain_at .later [] _ _ _ _ said (fun _ h => by cases h) (by kernel_rfl) (fun _ h => by cases h) pursePays_row_tie rfl ⟨rfl, rfl⟩ (by kernel_rfl) rfl plain (by kernel_rfl)
#print axioms proved
end Go.Proofs.YtmjocmogfckmmaaGreatDoor.pursePays
