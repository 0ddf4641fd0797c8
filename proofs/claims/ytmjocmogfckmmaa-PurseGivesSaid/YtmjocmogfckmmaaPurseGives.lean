/-
  The Go function PurseGives returns true: what a state is behind a deposit, and the code, or the error, is the document's; any tree and deposit; it stays; its arguments read afterwards as before.
  Conditions: none. The frame around the walk was written by program (proof-skeleton.mjs).
-/
import Derived.Test.YtmjocmogfckmmaaRows
import Derived.WalkKit
import Derived.ProofKit
import Derived.OpenShut
import Derived.ShutString
import Derived.ChangeOld
import Derived.Below
import Derived.Test.YtmjocmogfckmmaaPuL
import Derived.Test.YtmjocmogfckmmaaLaw15g
import Derived.Test.YtmjocmogfckmmaaRf15
import Derived.Test.YtmjocmogfckmmaaRf6
import Derived.Test.YtmjocmogfckmmaaRef06f
import Derived.Test.YtmjocmogfckmmaaStX
namespace Go.Proofs.Ytmjocmogfckmmaa.purseGives
open Go.ChangeShapes Go.WideShapes Go.ChangeAt Go.RowKit
open Go.ChangeMaps (open_string shut_string)
set_option linter.unusedVariables false

theorem own : ownKnob Try.prog.godebug = none := by kernel_rfl
theorem laidOut : laidOutB Try.prog = true := by kernel_rfl

/-- WHAT THE WALK IS TOLD OF A SLICE OF INTEGERS THAT CAME IN: it is nil; or it leads to a row of 'cap' cells, the numbers 'zs' (the first 'len' are its elements, the rest its spare room), each fitting its kind. -/
def IsRow (k : IntKind) (w : World) (a : Option Addr) (len cap : Nat) (zs : List Int) : Prop :=
  (a = none ∧ len = 0 ∧ cap = 0 ∧ zs = []) ∨
  ∃ x, a = some x ∧ len ≤ cap ∧ cap ≤ maxLen ∧ zs.length = cap ∧ (∀ i, i < zs.length → w.cell? (x.add i) = some (.int k (zs.getD i 0))) ∧ ∀ n ∈ zs, (Lit.int k n).wf = true

/-! ### the walk -/
open Go.Proofs.Ytmjocmogfckmmaa
def PGiveQ (m : Bool) (ns : List Nd) (L : List Pr) (gc z : Int) (w : World) (e : Ending) (w' : World) : Prop := ∃ (o : Tr) (A' : Option Addr) (c' : Nat), e = .returned (.tuple #[.agg #[.slice A' o.ns.length c', .int .i64 o.root], .int .i64 gc, .int .i64 z]) ∧ OwnR 43 w' w.heap.size A' c' o.ns ∧ Below w.heap.size w w' ∧ (m = true → mayA o = true ∧ allT o = L ∧ o.ns.length ≤ 1800 ∧ ∃ r, o.ns = ns ++ r) ∧ (m = false → o = ⟨[], 0⟩)
set_option linter.unusedSimpArgs false
set_option maxRecDepth 100000 in
set_option maxHeartbeats 16000000 in
theorem walk (x0 : Tr) (vs0 : List Value) (x1 : Dp) (vs1 : List Value) (w : World) (w0 : Enc.rep (fun b => b < w.heap.size) w x0 vs0) (w1 : Enc.rep (fun b => b < w.heap.size) w x1 vs1) :
    Calls Try.prog 3 #[.agg vs0.toArray, .agg vs1.toArray] w fun e w' => e = .returned (.bool true) ∧ Below w.heap.size w w' := by
  obtain ⟨A0, c0, rfl, hc0, hm0, hr, hI⟩ := rep_tr w0
  obtain ⟨ns, root⟩ := x0
  obtain ⟨rfl, hx⟩ := rep_dp w1
  generalize x1 = xa at *
  dsimp only at *
  have hcm : ns.length ≤ 9223372036854775807 := by unfold maxLen at hm0; omega
  obtain ⟨T0, P0, W0⟩ := boxesTQ w A0 ns.length c0 root (dpC xa) 24 29
  have hut := Try.underlying24
  have hud := Try.underlying29
  have hiT := hid (show (Try.prog.info? 24).map (·.size) = some ([Value.slice A0 ns.length c0, .int .i64 root]).length from sizeTr)
  have R0 := hid (hr.bel W0)
  obtain ⟨gb, hgb⟩ : ∃ gb, greatT ns 600 = gb := ⟨_, rfl⟩
  have hGr := fun W hW => RGreatT_any (fun b => b < w.heap.size) A0 c0 600 ns root W hW hcm
  rw [hgb] at hGr
  replace hGr := hid hGr
  replace hgb := hid hgb
  replace T0 := hid T0
  replace P0 := hid P0
  replace W0 := hid W0
  clear hr w0 w1 hI
  have jxa := hid (sizeDp xa)
  go_enter Try.func3, Try.ntmps3
  go_wp2_with (first
    | ((with_reducible refine wpList_load_rng ?_ 24 (.tmp 2) rfl w.heap.size 0 rfl [Value.slice A0 ns.length c0, .int .i64 root] _ ?_ hut rfl hiT.out ?_); rfl; exact T0.out.all))
  generalize (w.alloc (.cells #[.slice A0 ns.length c0, .int .i64 root] 24)).alloc (.cells (dpC xa).toArray 29) = w0 at *
  refine (hGr.out _ R0.out).mono ?_
  rintro e w1 ⟨rfl, hb⟩
  have T1 := hid (T0.out.bel hb)
  have P1 := hid (rangeBel2 hb P0.out)
  have R1 := hid (R0.out.bel hb)
  have W1 := hid (W0.out.trans (hb.mono W0.out.size))
  clear T0 P0 R0 W0
  clear hb hGr
  cases gb with
  | true =>
    go_wp2
    go_ret
    exact ⟨rfl, W1.out⟩
  | false =>
    obtain ⟨hlen, hvs⟩ := greatT_no hgb.out
    have hvs2 : ∀ x ∈ ns, x.v.length ≤ 1000000 := fun x hx => Nat.le_trans (hvs x hx) (by decide)
    clear hgb
    have hTw := hid (fun W hW => RTwinT_any (fun b => b < w.heap.size) A0 c0 ns root W hW (by omega) hvs2)
    have hPG := fun F A c W hW => PPuGive_any F A c ns root xa W hx hW (by omega)
    have hRG := fun W hW => RGive_any (fun b => b < w.heap.size) A0 c0 ns root xa W hx hW (by omega)
    have hSm := hid (fun F G A D c d W hW hV => RSameT_eq F G A D c d ns root W hW hV (by omega))
    have hgE : giveTE ⟨ns, root⟩ = if mayA ⟨ns, root⟩ = true then 0 else 8 := giveTE_small (by dsimp only; omega)
    have hL : giveTE ⟨ns, root⟩ = 0 → giveTL ⟨ns, root⟩ xa = giveL (allT ⟨ns, root⟩) xa.t xa.a := fun h => by unfold giveTL; rw [if_pos h]
    obtain ⟨m, hm⟩ : ∃ m, mayA ⟨ns, root⟩ = m := ⟨_, rfl⟩
    have hOk := fun o (h : GiveOk ⟨ns, root⟩ xa o) => (show (m = true → mayA o = true ∧ allT o = giveTL ⟨ns, root⟩ xa ∧ o.ns.length ≤ 1800 ∧ ∃ r, o.ns = ns ++ r) ∧ (m = false → o = ⟨[], 0⟩) from by
      rw [hm] at hgE
      refine ⟨fun h1 => ?_, fun h1 => ?_⟩
      · have h0 : giveTE ⟨ns, root⟩ = 0 := by rw [hgE, if_pos h1]
        obtain ⟨o1, o2, o3, o4⟩ := give_yes h0 h
        exact ⟨o1, by rw [o2, hL h0], by dsimp only at o3; omega, o4⟩
      · exact give_no (by rw [hgE, if_neg (by rw [h1]; decide)]; decide) h)
    have hPG2 : ∀ F A c W (hW : Row F W A ns), Calls Try.prog 6 #[.agg #[.slice A ns.length c, .int .i64 root], .agg (dpC xa).toArray] W (PGiveQ m ns (giveTL ⟨ns, root⟩ xa) (giveTC ⟨ns, root⟩ xa) (giveTE ⟨ns, root⟩) W) := fun F A c W hW => (hPG F A c W hW).mono fun e w' h => by
      obtain ⟨o, A', c', h1, h2, h3, h4⟩ := h
      exact ⟨o, A', c', h1, h2, h3, hOk o h4⟩
    obtain ⟨z, hz⟩ : ∃ z : Int, (if m = true then (0 : Int) else 8) = z := ⟨_, rfl⟩
    rw [hgE, hm, hz] at hPG2 hRG
    generalize giveTC ⟨ns, root⟩ xa = gc at *
    generalize giveTL ⟨ns, root⟩ xa = L at *
    replace hPG2 := hid hPG2
    replace hRG := hid hRG
    replace hz := hid hz
    clear hOk hPG hL hgE hm hvs hvs2
    go_wp2_with (first
      | ((with_reducible refine wpList_load_rng rfl 24 (.tmp 2) rfl w.heap.size 0 rfl [Value.slice A0 ns.length c0, .int .i64 root] _ ?_ hut rfl hiT.out ?_); exact T1.out.all))
    refine (hTw.out _ R1.out).mono ?_
    rintro e w2 ⟨A2, c2, rfl, ho, hb⟩
    have T2 := hid (T1.out.bel hb)
    have P2 := hid (rangeBel2 hb P1.out)
    have R2 := hid (R1.out.bel hb)
    have W2 := hid (W1.out.trans (hb.mono W1.out.size))
    clear T1 P1 R1 W1
    have O2 := hid (OwnR.row ho)
    have hiO := hid (show (Try.prog.info? 24).map (·.size) = some ([Value.slice A2 ns.length c2, .int .i64 root]).length from sizeTr)
    clear hb ho hTw
    have e2 := hid (heap_alloc_new w2 (.cells zTrC 24))
    have hiD := hid (show (Try.prog.info? 24).map (·.size) = some ([Value.slice A2 ns.length c2, .int .i64 root]).length from sizeTr)
    go_wp2_with (first
      | (with_reducible refine wpList_alloc_row rfl 24 rfl zTrC zInfoTr ?_)
      | ((with_reducible refine wpList_store_row rfl 24 (.tmp 5) (.tmp 16) rfl _ _ rfl rfl 24 zTrC ?_ ?_ ?_ ?_ ?_); exact e2.out; exact sizeTr; rfl; exact one_trP A2 ns.length c2 root; intro w3 hgS hbS hsS; have X3 := hid (xnewP rfl hbS); have lt3 := hid (block_lt hgS); have D3 := hid (BoxT.of (rangeOf (l := [Value.slice A2 ns.length c2, .int .i64 root]) hgS)); clear hgS hbS hsS; have T3 := hid (T2.out.bel X3.out); have P3 := hid (rangeBel2 X3.out P2.out); have R3 := hid (R2.out.bel X3.out); have W3 := hid (W2.out.trans (X3.out.mono W2.out.size)); have O3 := hid (O2.out.bel X3.out); clear T2 P2 R2 W2 O2)
      | ((with_reducible refine wpList_load_rng rfl 24 (.tmp 5) rfl w2.heap.size 0 rfl [Value.slice A2 ns.length c2, .int .i64 root] _ ?_ hut rfl hiO.out ?_); exact D3.out.all)
      | ((with_reducible refine wpList_load_rng rfl 29 (.tmp 3) rfl (w.heap.size + 1) 0 rfl (dpC xa) _ ?_ hud rfl jxa.out ?_); exact P3.out))
    refine (hPG2.out _ A2 c2 _ O3.out).mono ?_
    rintro e w4 ⟨⟨na, ra⟩, A4, c4, rfl, ho, hb, hok⟩
    dsimp only at ho hok ⊢
    have T4 := hid (T3.out.bel hb)
    have P4 := hid (rangeBel2 hb P3.out)
    have R4 := hid (R3.out.bel hb)
    have W4 := hid (W3.out.trans (hb.mono W3.out.size))
    have O4 := hid (O3.out.bel hb)
    have D4 := hid (D3.out.bel hb)
    clear T3 P3 R3 W3 O3 D3
    have b4 := hid (OwnR.row ho)
    have hcE : na.length ≤ c4 := ho.cap.1
    replace hok := hid hok
    have hiC := hid (show (Try.prog.info? 24).map (·.size) = some ([Value.slice A4 na.length c4, .int .i64 ra]).length from sizeTr)
    clear hb ho hPG2
    have e4 := hid (heap_alloc_new w4 (.cells zTrC 24))
    have hiE := hid (show (Try.prog.info? 24).map (·.size) = some ([Value.slice A4 na.length c4, .int .i64 ra]).length from sizeTr)
    go_wp2_with (first
      | (with_reducible refine wpList_alloc_row rfl 24 rfl zTrC zInfoTr ?_)
      | ((with_reducible refine wpList_store_row rfl 24 (.tmp 6) (.tmp 21) rfl _ _ rfl rfl 24 zTrC ?_ ?_ ?_ ?_ ?_); exact e4.out; exact sizeTr; rfl; exact one_trP A4 na.length c4 ra; intro w5 hgS hbS hsS; have X5 := hid (xnewP rfl hbS); have lt5 := hid (block_lt hgS); have E5 := hid (BoxT.of (rangeOf (l := [Value.slice A4 na.length c4, .int .i64 ra]) hgS)); clear hgS hbS hsS; have T5 := hid (T4.out.bel X5.out); have P5 := hid (rangeBel2 X5.out P4.out); have R5 := hid (R4.out.bel X5.out); have W5 := hid (W4.out.trans (X5.out.mono W4.out.size)); have O5 := hid (O4.out.bel X5.out); have D5 := hid (D4.out.bel X5.out); have b5 := hid (b4.out.bel X5.out); clear T4 P4 R4 W4 O4 D4 b4)
      | ((with_reducible refine wpList_load_rng rfl 24 (.tmp 2) rfl w.heap.size 0 rfl [Value.slice A0 ns.length c0, .int .i64 root] _ ?_ hut rfl hiT.out ?_); exact T5.out.all)
      | ((with_reducible refine wpList_load_rng rfl 29 (.tmp 3) rfl (w.heap.size + 1) 0 rfl (dpC xa) _ ?_ hud rfl jxa.out ?_); exact P5.out))
    refine (hRG.out _ R5.out).mono ?_
    rintro e w6 ⟨A6, c6, rfl, ho, hb⟩
    have T6 := hid (T5.out.bel hb)
    have P6 := hid (rangeBel2 hb P5.out)
    have R6 := hid (R5.out.bel hb)
    have W6 := hid (W5.out.trans (hb.mono W5.out.size))
    have O6 := hid (O5.out.bel hb)
    have D6 := hid (D5.out.bel hb)
    have b6 := hid (b5.out.bel hb)
    have E6 := hid (E5.out.bel hb)
    clear T5 P5 R5 W5 O5 D5 b5 E5
    have l6 := hid (OwnR.row ho)
    clear hb ho hRG
    cases m with
    | false =>
      obtain rfl : z = 8 := by rw [← hz.out]; rfl
      have hno := hok.out.2 (by first | trivial | rfl)
      injection hno with hn0 hr0
      subst hn0 hr0
      have y6 := hid (E6.out.all 0 _ rfl)
      replace y6 := y6.out
      simp only [List.length_nil] at y6
      go_wp2_with (first
        | ((with_reducible refine wpList_load_rng ?_ 24 (.tmp 5) rfl w2.heap.size 0 rfl [Value.slice A2 ns.length c2, .int .i64 root] _ ?_ hut rfl hiO.out ?_); rfl; exact D6.out.all)
        | ((with_reducible refine wpList_load_rng ?_ 24 (.tmp 2) rfl w.heap.size 0 rfl [Value.slice A0 ns.length c0, .int .i64 root] _ ?_ hut rfl hiT.out ?_); rfl; exact T6.out.all))
      refine (hSm.out _ _ A2 A0 c2 c0 _ O6.out R6.out).mono ?_
      rintro e w7 ⟨rfl, hb⟩
      have T7 := hid (T6.out.bel hb)
      have P7 := hid (rangeBel2 hb P6.out)
      have R7 := hid (R6.out.bel hb)
      have W7 := hid (W6.out.trans (hb.mono W6.out.size))
      have O7 := hid (O6.out.bel hb)
      have D7 := hid (D6.out.bel hb)
      have b7 := hid (b6.out.bel hb)
      have E7 := hid (E6.out.bel hb)
      have l7 := hid (l6.out.bel hb)
      clear T6 P6 R6 W6 O6 D6 b6 E6 l6
      clear hb 
      go_wp2
      go_ret
      exact ⟨rfl, W7.out⟩
    | true =>
      obtain rfl : z = 0 := by rw [← hz.out]; rfl
      obtain ⟨hma, hal, hnl, ms, hms⟩ := hok.out.1 (by first | trivial | rfl)
      have hmt := (mayA_both hma).1
      have hGw := hid (fun F G H A D Q c d q W (hW : Row F W A na) (hV : Row G W D ns) (hU : Row H W Q L) (hc : na.length ≤ c) => grown15_true F G H A D Q c d q na ns ms ra root L W hms hmt hal hW hV hU hc (by omega))
      have hcE := hid hcE
      clear hma hal hms hmt hok
      go_wp2_with (first
        | ((with_reducible refine wpList_load_rng ?_ 24 (.tmp 6) rfl w4.heap.size 0 rfl [Value.slice A4 na.length c4, .int .i64 ra] _ ?_ hut rfl hiC.out ?_); rfl; exact E6.out.all)
        | ((with_reducible refine wpList_load_rng ?_ 24 (.tmp 2) rfl w.heap.size 0 rfl [Value.slice A0 ns.length c0, .int .i64 root] _ ?_ hut rfl hiT.out ?_); rfl; exact T6.out.all))
      refine (hGw.out _ _ _ A4 A0 A6 c4 c0 c6 _ b6.out R6.out l6.out hcE.out).mono ?_
      rintro e w7 ⟨rfl, hb⟩
      have T7 := hid (T6.out.bel hb)
      have P7 := hid (rangeBel2 hb P6.out)
      have R7 := hid (R6.out.bel hb)
      have W7 := hid (W6.out.trans (hb.mono W6.out.size))
      have O7 := hid (O6.out.bel hb)
      have D7 := hid (D6.out.bel hb)
      have b7 := hid (b6.out.bel hb)
      have E7 := hid (E6.out.bel hb)
      have l7 := hid (l6.out.bel hb)
      clear T6 P6 R6 W6 O6 D6 b6 E6 l6
      clear hb hGw
      go_wp2_with (first
        | ((with_reducible refine wpList_load_rng ?_ 24 (.tmp 5) rfl w2.heap.size 0 rfl [Value.slice A2 ns.length c2, .int .i64 root] _ ?_ hut rfl hiO.out ?_); rfl; exact D7.out.all)
        | ((with_reducible refine wpList_load_rng ?_ 24 (.tmp 2) rfl w.heap.size 0 rfl [Value.slice A0 ns.length c0, .int .i64 root] _ ?_ hut rfl hiT.out ?_); rfl; exact T7.out.all))
      refine (hSm.out _ _ A2 A0 c2 c0 _ O7.out R7.out).mono ?_
      rintro e w8 ⟨rfl, hb⟩
      have T8 := hid (T7.out.bel hb)
      have P8 := hid (rangeBel2 hb P7.out)
      have R8 := hid (R7.out.bel hb)
      have W8 := hid (W7.out.trans (hb.mono W7.out.size))
      have O8 := hid (O7.out.bel hb)
      have D8 := hid (D7.out.bel hb)
      have b8 := hid (b7.out.bel hb)
      have E8 := hid (E7.out.bel hb)
      have l8 := hid (l7.out.bel hb)
      clear T7 P7 R7 W7 O7 D7 b7 E7 l7
      clear hb 
      go_wp2
      go_ret
      exact ⟨rfl, W8.out⟩

/-! ### THE ROW's STEP: WRITTEN OUT: LEAVE IT -/
set_option maxRecDepth 100000 in
theorem lifted (os : Os) (started : os.Started) (H : Type) (enc : TypeId × Value → H) :
    ReturnsInHanded {} Try.checked os 3 .any (Rows.purseGivesSpec.pre6 enc Try.prog Try.f3 Rows.purseGivesRow.domain false) (Rows.purseGivesSpec.post enc Try.prog Try.f3 false true false false) := by
  refine returnsInHanded_of_change (C := Try.checked) own started (by kernel_rfl) Try.func3
    (ChangeSpec.witness6 (enc := enc) (C := Try.checked) false ⟨#[], #[.agg #[.slice none 0 0, .int .i64 0], .agg (dpC ⟨0, z0, 0⟩).toArray], []⟩ 8 (by kernel_rfl) (by kernel_rfl) (by kernel_rfl) (by kernel_rfl)) ?_
  intro W base args ds gs before hval0 hW hcnd _
  have hval : ∀ (j : Nat) t v, Try.f3.params[j]? = some t → args[j]? = some v → Value.okWide Try.prog W .any base t v := hval0
  have hW' := hW
  obtain ⟨p, q, hA0, hV, rfl, hfz, hnd⟩ := hW
  have hA : DataW.TrodAll enc Try.prog W 0 (fun _ => true) true Try.f3.params.toList args.toList ds p := hA0
  rw [Try.params3] at hA hval
  obtain ⟨v0, vs0, d0, ds0, p0, q0, hargs, rfl, rfl, h0, r0⟩ := trodAll_cons hA
  obtain ⟨v1, vs1, d1, ds1, p1, q1, rfl, rfl, rfl, h1, r1⟩ := trodAll_cons r0
  obtain ⟨rfl, rfl, rfl⟩ := trodAll_nil r1
  obtain rfl : args = #[v0, v1] := by cases args; simp_all
  obtain ⟨rfl, rfl⟩ := trodVars_none hV
  have k0 := h0
  have lt0 : ∀ x ∈ p0, x.block < W.heap.size := by obtain ⟨m, hm⟩ := k0; exact DataW.trod_lt m _ _ _ hm
  obtain ⟨x0, vs0, rfl, w0⟩ := open_struct opensTr Try.underlying24 (hval 0 24 v0 rfl rfl) h0
  have k1 := h1
  have lt1 : ∀ x ∈ p1, x.block < W.heap.size := by obtain ⟨m, hm⟩ := k1; exact DataW.trod_lt m _ _ _ hm
  obtain ⟨x1, vs1, rfl, w1⟩ := open_struct opensDp Try.underlying29 (hval 1 29 v1 rfl rfl) h1
  clear hA0 hval0
  refine (walk x0 vs0 x1 vs1 W w0 w1).mono fun e W' ⟨he, bel⟩ => ?_
  subst he
  exact ⟨_, rfl, _, _, _, [], _, [], hW', trodAll_mk1 (shut_bool Try.underlying4 _), (trodAll_cons_mk (Below.trod laidOut (by kernel_rfl) (of_decide_eq_true (by kernel_rfl)) k0 bel lt0) (trodAll_cons_mk (Below.trod laidOut (by kernel_rfl) (of_decide_eq_true (by kernel_rfl)) k1 bel lt1) trodAll_mk0)), rfl, bel.frame _, fun h => by cases h⟩

theorem over : Rows.purseGivesRow.holds Try.pinned (OpenSpec.ofChange Rows.purseGivesSpec) :=
  OpenClaim.holds_of_wide 3 Try.f3 rfl rfl rfl rfl rfl rfl rfl ⟨rfl, rfl, rfl, rfl, rfl⟩ rfl rfl rfl rfl rfl (by kernel_rfl) Try.func3 (by kernel_rfl)
    (of_decide_eq_true (by kernel_rfl)) (by unfold Func.isWrapper; first | (rw [if_pos (by decide +kernel)]; kernel_rfl) | (rw [if_neg (by decide +kernel)]; exact ⟨rfl, rfl⟩))
    (fun os started H enc _ => lifted os started H enc)

/-- ████ THE STATEMENT ████ -/
theorem proved : Rows.PurseGivesSaid := over
#print axioms proved
end Go.Proofs.Ytmjocmogfckmmaa.purseGives
