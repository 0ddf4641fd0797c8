/-
  The Go function AcctDoes returns true: whether a tree is a state, a key's account, the state with one, and the total, or the errors, are the document's: any tree, key and account; it stays; its arguments read afterwards as before.
  Conditions: none. The frame around the walk was written by program (proof-skeleton.mjs).
-/
import Derived.Test.YtcifncmfjlbhjaaRows
import Derived.WalkKit
import Derived.ProofKit
import Derived.OpenShut
import Derived.ShutString
import Derived.ChangeOld
import Derived.Below
import Derived.Test.YtcifncmfjlbhjaaAcS
import Derived.Test.YtcifncmfjlbhjaaRef10d
import Derived.Test.YtcifncmfjlbhjaaRf6
import Derived.Test.YtcifncmfjlbhjaaRef06f
import Derived.Test.YtcifncmfjlbhjaaRefE
import Derived.Test.YtcifncmfjlbhjaaTreeB
import Derived.Test.YtcifncmfjlbhjaaAc
namespace Go.Proofs.Ytcifncmfjlbhjaa.acctDoes
open Go.ChangeShapes Go.WideShapes Go.ChangeAt Go.RowKit
open Go.ChangeMaps (open_string shut_string)
set_option linter.unusedVariables false

theorem own : ownKnob Try.prog.godebug = none := by kernel_rfl
theorem laidOut : laidOutB Try.prog = true := by kernel_rfl

/-- WHAT THE WALK IS TOLD OF A SLICE OF INTEGERS THAT CAME IN: it is nil; or it leads to a row of 'cap' cells, the numbers 'zs' (the first 'len' are its elements, the rest its spare room), each fitting its kind. -/
def IsRow (k : IntKind) (w : World) (a : Option Addr) (len cap : Nat) (zs : List Int) : Prop :=
  (a = none ∧ len = 0 ∧ cap = 0 ∧ zs = []) ∨
  ∃ x, a = some x ∧ len ≤ cap ∧ cap ≤ maxLen ∧ zs.length = cap ∧ (∀ i, i < zs.length → w.cell? (x.add i) = some (.int k (zs.getD i 0))) ∧ ∀ n ∈ zs, (Lit.int k n).wf = true

/-! ### the walk -/
open Go.Proofs.Ytcifncmfjlbhjaa
set_option linter.unusedSimpArgs false
set_option maxRecDepth 100000 in
set_option maxHeartbeats 16000000 in
theorem walk (x0 : Tr) (vs0 : List Value) (l1 : List UInt8) (x2 : Ac) (vs2 : List Value) (w : World) (w0 : Enc.rep (fun b => b < w.heap.size) w x0 vs0) (w1 : l1.length = 32) (w2 : Enc.rep (fun b => b < w.heap.size) w x2 vs2) :
    Calls Try.prog 3 #[.agg vs0.toArray, .agg (l1.map bv).toArray, .agg vs2.toArray] w fun e w' => e = .returned (.bool true) ∧ Below w.heap.size w w' := by
  obtain ⟨A0, c0, rfl, hc0, hm0, hr, hI⟩ := rep_tr w0
  obtain ⟨ns, root⟩ := x0
  obtain ⟨k, rfl⟩ : ∃ k : Dg, l1 = k.1 := ⟨⟨l1, w1⟩, rfl⟩
  obtain ⟨rfl, ha⟩ := rep_ac w2
  dsimp only at *
  have hcm : ns.length ≤ 9223372036854775807 := by unfold maxLen at hm0; omega
  obtain ⟨T0, K0, A0_, W0⟩ := boxesTDA w A0 ns.length c0 root k x2 24 26 29
  have hu := Try.underlying26
  have hut := Try.underlying24
  have hua := Try.underlying29
  have hi := hid (sizeDgT k)
  have hiT := hid (show (Try.prog.info? 24).map (·.size) = some ([Value.slice A0 ns.length c0, .int .i64 root]).length from sizeTr)
  have R0 := hid (hr.bel W0)
  obtain ⟨gb, hgb⟩ : ∃ gb, greatT ns 600 = gb := ⟨_, rfl⟩
  have hGr := fun W hW => RGreatT_any (fun b => b < w.heap.size) A0 c0 600 ns root W hW hcm
  rw [hgb] at hGr
  replace hGr := hid hGr
  replace hgb := hid hgb
  have P0 := hid A0_
  replace T0 := hid T0
  replace K0 := hid K0
  replace W0 := hid W0
  clear hr w0 w1 w2 hI A0_
  generalize hdk : k.1.map bv = dk at *
  replace hdk := hid hdk
  generalize x2 = xa at *
  have nxa := hid (one_ac xa)
  have jxa := hid (show (Try.prog.info? 29).map (·.size) = some (acC xa).length from sizeAc)
  go_enter Try.func3, Try.ntmps3
  go_wp2_with (first
    | ((with_reducible refine wpList_load_rng ?_ 24 (.tmp 3) rfl w.heap.size 0 rfl [Value.slice A0 ns.length c0, .int .i64 root] _ ?_ hut rfl hiT.out ?_); rfl; exact T0.out.all))
  generalize ((w.alloc (.cells #[.slice A0 ns.length c0, .int .i64 root] 24)).alloc (.cells dk.toArray 26)).alloc (.cells (acC xa).toArray 29) = w0 at *
  refine (hGr.out _ R0.out).mono ?_
  rintro e w1 ⟨rfl, hb⟩
  have T1 := hid (T0.out.bel hb)
  have K1 := hid (rangeBel2 hb K0.out)
  have P1 := hid (rangeBel2 hb P0.out)
  have R1 := hid (R0.out.bel hb)
  have W1 := hid (W0.out.trans (hb.mono W0.out.size))
  clear T0 K0 P0 R0 W0
  clear hb hGr
  cases gb with
  | true =>
    go_wp2
    go_ret
    exact ⟨rfl, W1.out⟩
  | false =>
    obtain ⟨hlen, hvs⟩ := greatT_no hgb.out
    have hvs2 : ∀ x ∈ ns, x.v.length ≤ 1000000 := fun x hx => Nat.le_trans (hvs x hx) (by decide)
    clear hgb
    have hTw := hid (fun W hW => RTwinT_any (fun b => b < w.heap.size) A0 c0 ns root W hW (by omega) hvs2)
    have hPG := fun F A c W hW => PAcGet_any F A c ns root k W hW (by omega)
    have hRG := fun W hW => RAcGet_any (fun b => b < w.heap.size) A0 c0 ns root k W hW (by omega)
    have hPS := fun F A c W hW => PAcSet_any F A c ns root k xa W ha hW (by omega)
    have hRS := fun W hW => RAcSet_any (fun b => b < w.heap.size) A0 c0 ns root k xa W ha hW (by omega)
    have hPT := fun F A c W hW => PAcTotal_any F A c ns root W hW (by omega)
    have hRT := fun W hW => RAcTotal_any (fun b => b < w.heap.size) A0 c0 ns root W hW (by omega)
    have hPC := fun F A c W hW => PAcCheck_any F A c ns root W hW (by omega)
    have hRC := fun W hW => RAcCheck_any (fun b => b < w.heap.size) A0 c0 ns root W hW (by omega)
    have hSm := hid (fun F G A D c d W hW hV => RSameT_eq F G A D c d ns root W hW hV (by omega))
    rw [hdk.out] at hPG hRG hPS hRS
    have hSE : setE ⟨ns, root⟩ k xa = if mayA ⟨ns, root⟩ = true then 0 else 8 := setE_small k (by dsimp only; omega)
    rw [hSE] at hPS
    obtain ⟨m, hm⟩ : ∃ m, mayA ⟨ns, root⟩ = m := ⟨_, rfl⟩
    have hL : setL ⟨ns, root⟩ k xa = if m = true then allT (setT ⟨ns, root⟩ k xa) else [] := by
      cases m with
      | true => rw [if_pos rfl]; exact setL_yes ha hm (by dsimp only; omega)
      | false => unfold setL; rw [hm]; rfl
    have hT1 : m = true → mayT (setT ⟨ns, root⟩ k xa) = true ∧ (setT ⟨ns, root⟩ k xa).ns.length ≤ 1000 := fun h => by
      obtain ⟨-, t2, -, t4⟩ := setT_spec (k := k) ha (hm.trans h) (show (⟨ns, root⟩ : Tr).ns.length ≤ 100000 by dsimp only; omega)
      exact ⟨t2, by dsimp only at t4; omega⟩
    have hT2 : m = false → (setT ⟨ns, root⟩ k xa).ns.length = 0 := fun h => by rw [setT_no (hm.trans h)]; rfl
    rw [hm] at hPG hRG hPS hRS hPT hRT hPC hRC
    obtain ⟨z, hz⟩ : ∃ z : Int, (if m = true then (0 : Int) else 8) = z := ⟨_, rfl⟩
    rw [hz] at hPG hRG hPS hRS hPT hRT hPC hRC
    generalize (if m = true then (totH (allT ⟨ns, root⟩) : Int) else 0) = th at *
    generalize (if m = true then (totL (allT ⟨ns, root⟩) : Int) else 0) = tl at *
    generalize setL ⟨ns, root⟩ k xa = L at *
    generalize setT ⟨ns, root⟩ k xa = ta at *
    have hgo : (getA ⟨ns, root⟩ k).ok := by
      unfold getA
      split
      · exact inA_ok _ _
      · exact ac0_ok
    generalize getA ⟨ns, root⟩ k = ga at *
    have hE : ∀ W, (Op.equalIn 10000 29 (.agg (acC ga).toArray) (.agg (acC ga).toArray)).run Try.prog W = .ok true W := fun W => eqac_is ga ga hgo hgo true (decide_eq_true rfl) W
    obtain ⟨na, ra⟩ := ta
    dsimp only at hPS hT1 hT2
    have nga := hid (one_ac ga)
    have jga := hid (show (Try.prog.info? 29).map (·.size) = some (acC ga).length from sizeAc)
    replace hPG := hid hPG
    replace hRG := hid hRG
    replace hPS := hid hPS
    replace hRS := hid hRS
    replace hPT := hid hPT
    replace hRT := hid hRT
    replace hPC := hid hPC
    replace hRC := hid hRC
    replace hz := hid hz
    replace hL := hid hL
    replace hT1 := hid hT1
    replace hT2 := hid hT2
    clear hm hSE hvs hvs2
    go_wp2_with (first
      | ((with_reducible refine wpList_load_rng rfl 24 (.tmp 3) rfl w.heap.size 0 rfl [Value.slice A0 ns.length c0, .int .i64 root] _ ?_ hut rfl hiT.out ?_); exact T1.out.all))
    refine (hTw.out _ R1.out).mono ?_
    rintro e w2 ⟨A2, c2, rfl, ho, hb⟩
    have T2 := hid (T1.out.bel hb)
    have K2 := hid (rangeBel2 hb K1.out)
    have P2 := hid (rangeBel2 hb P1.out)
    have R2 := hid (R1.out.bel hb)
    have W2 := hid (W1.out.trans (hb.mono W1.out.size))
    clear T1 K1 P1 R1 W1
    have O2 := hid (OwnR.row ho)
    have hiO := hid (show (Try.prog.info? 24).map (·.size) = some ([Value.slice A2 ns.length c2, .int .i64 root]).length from sizeTr)
    clear hb ho hTw
    have e2 := hid (heap_alloc_new w2 (.cells zTrC 24))
    have hiD := hid (show (Try.prog.info? 24).map (·.size) = some ([Value.slice A2 ns.length c2, .int .i64 root]).length from sizeTr)
    go_wp2_with (first
      | (with_reducible refine wpList_alloc_row rfl 24 rfl zTrC zInfoTr ?_)
      | ((with_reducible refine wpList_store_row rfl 24 (.tmp 7) (.tmp 27) rfl _ _ rfl rfl 24 zTrC ?_ ?_ ?_ ?_ ?_); exact e2.out; exact sizeTr; rfl; exact one_trP A2 ns.length c2 root; intro w3 hgS hbS hsS; have X3 := hid (xnewP rfl hbS); have lt3 := hid (block_lt hgS); have D3 := hid (BoxT.of (rangeOf (l := [Value.slice A2 ns.length c2, .int .i64 root]) hgS)); clear hgS hbS hsS; have T3 := hid (T2.out.bel X3.out); have K3 := hid (rangeBel2 X3.out K2.out); have P3 := hid (rangeBel2 X3.out P2.out); have R3 := hid (R2.out.bel X3.out); have W3 := hid (W2.out.trans (X3.out.mono W2.out.size)); have O3 := hid (O2.out.bel X3.out); clear T2 K2 P2 R2 W2 O2)
      | ((with_reducible refine wpList_load_rng rfl 24 (.tmp 7) rfl w2.heap.size 0 rfl [Value.slice A2 ns.length c2, .int .i64 root] _ ?_ hut rfl hiO.out ?_); exact D3.out.all)
      | ((with_reducible refine wpList_load_rng rfl 26 (.tmp 4) rfl (w.heap.size + 1) 0 rfl dk _ ?_ hu rfl hi.out ?_); exact K3.out))
    refine (hPG.out _ A2 c2 _ O3.out).mono ?_
    rintro e w4 ⟨rfl, hb⟩
    have T4 := hid (T3.out.bel hb)
    have K4 := hid (rangeBel2 hb K3.out)
    have P4 := hid (rangeBel2 hb P3.out)
    have R4 := hid (R3.out.bel hb)
    have W4 := hid (W3.out.trans (hb.mono W3.out.size))
    have O4 := hid (O3.out.bel hb)
    have D4 := hid (D3.out.bel hb)
    clear T3 K3 P3 R3 W3 O3 D3
    clear hb hPG
    have e4 := hid (heap_alloc_new w4 (.cells (acC ac0).toArray 29))
    go_wp2_with (first
      | (with_reducible refine wpList_alloc_row rfl 29 rfl (acC ac0).toArray zInfoAc ?_)
      | ((with_reducible refine wpList_store_row rfl 29 (.tmp 8) (.tmp 32) rfl _ _ rfl rfl 29 (acC ac0).toArray ?_ ?_ ?_ ?_ ?_); exact e4.out; exact sizeAc; rfl; exact nga.out; intro w5 hgS hbS hsS; have X5 := hid (xnewP rfl hbS); have Q5 := hid (rangeOf (l := acC ga) hgS); clear hgS hbS hsS; have T5 := hid (T4.out.bel X5.out); have K5 := hid (rangeBel2 X5.out K4.out); have P5 := hid (rangeBel2 X5.out P4.out); have R5 := hid (R4.out.bel X5.out); have W5 := hid (W4.out.trans (X5.out.mono W4.out.size)); have O5 := hid (O4.out.bel X5.out); have D5 := hid (D4.out.bel X5.out); clear T4 K4 P4 R4 W4 O4 D4)
      | ((with_reducible refine wpList_load_rng rfl 24 (.tmp 3) rfl w.heap.size 0 rfl [Value.slice A0 ns.length c0, .int .i64 root] _ ?_ hut rfl hiT.out ?_); exact T5.out.all)
      | ((with_reducible refine wpList_load_rng rfl 26 (.tmp 4) rfl (w.heap.size + 1) 0 rfl dk _ ?_ hu rfl hi.out ?_); exact K5.out))
    refine (hRG.out _ R5.out).mono ?_
    rintro e w6 ⟨rfl, hb⟩
    have T6 := hid (T5.out.bel hb)
    have K6 := hid (rangeBel2 hb K5.out)
    have P6 := hid (rangeBel2 hb P5.out)
    have R6 := hid (R5.out.bel hb)
    have W6 := hid (W5.out.trans (hb.mono W5.out.size))
    have O6 := hid (O5.out.bel hb)
    have D6 := hid (D5.out.bel hb)
    have Q6 := hid (rangeBel2 hb Q5.out)
    clear T5 K5 P5 R5 W5 O5 D5 Q5
    clear hb hRG
    have e6 := hid (heap_alloc_new w6 (.cells (acC ac0).toArray 29))
    go_wp2_with (first
      | (with_reducible refine wpList_alloc_row rfl 29 rfl (acC ac0).toArray zInfoAc ?_)
      | ((with_reducible refine wpList_store_row rfl 29 (.tmp 10) (.tmp 38) rfl _ _ rfl rfl 29 (acC ac0).toArray ?_ ?_ ?_ ?_ ?_); exact e6.out; exact sizeAc; rfl; exact nga.out; intro w7 hgS hbS hsS; have X7 := hid (xnewP rfl hbS); have Y7 := hid (rangeOf (l := acC ga) hgS); clear hgS hbS hsS; have T7 := hid (T6.out.bel X7.out); have K7 := hid (rangeBel2 X7.out K6.out); have P7 := hid (rangeBel2 X7.out P6.out); have R7 := hid (R6.out.bel X7.out); have W7 := hid (W6.out.trans (X7.out.mono W6.out.size)); have O7 := hid (O6.out.bel X7.out); have D7 := hid (D6.out.bel X7.out); have Q7 := hid (rangeBel2 X7.out Q6.out); clear T6 K6 P6 R6 W6 O6 D6 Q6)
      | ((with_reducible refine wpList_load_rng rfl 24 (.tmp 7) rfl w2.heap.size 0 rfl [Value.slice A2 ns.length c2, .int .i64 root] _ ?_ hut rfl hiO.out ?_); exact D7.out.all)
      | ((with_reducible refine wpList_load_rng rfl 26 (.tmp 4) rfl (w.heap.size + 1) 0 rfl dk _ ?_ hu rfl hi.out ?_); exact K7.out)
      | ((with_reducible refine wpList_load_rng rfl 29 (.tmp 5) rfl (w.heap.size + 1 + 1) 0 rfl (acC xa) _ ?_ hua rfl jxa.out ?_); exact P7.out))
    refine (hPS.out _ A2 c2 _ O7.out).mono ?_
    rintro e w8 ⟨A8, c8, rfl, ho, hb⟩
    have T8 := hid (T7.out.bel hb)
    have K8 := hid (rangeBel2 hb K7.out)
    have P8 := hid (rangeBel2 hb P7.out)
    have R8 := hid (R7.out.bel hb)
    have W8 := hid (W7.out.trans (hb.mono W7.out.size))
    have O8 := hid (O7.out.bel hb)
    have D8 := hid (D7.out.bel hb)
    have Q8 := hid (rangeBel2 hb Q7.out)
    have Y8 := hid (rangeBel2 hb Y7.out)
    clear T7 K7 P7 R7 W7 O7 D7 Q7 Y7
    have b8 := hid (OwnR.row ho)
    have hiC := hid (show (Try.prog.info? 24).map (·.size) = some ([Value.slice A8 na.length c8, .int .i64 ra]).length from sizeTr)
    clear hb ho hPS
    have e8 := hid (heap_alloc_new w8 (.cells zTrC 24))
    have hiE := hid (show (Try.prog.info? 24).map (·.size) = some ([Value.slice A8 na.length c8, .int .i64 ra]).length from sizeTr)
    go_wp2_with (first
      | (with_reducible refine wpList_alloc_row rfl 24 rfl zTrC zInfoTr ?_)
      | ((with_reducible refine wpList_store_row rfl 24 (.tmp 12) (.tmp 45) rfl _ _ rfl rfl 24 zTrC ?_ ?_ ?_ ?_ ?_); exact e8.out; exact sizeTr; rfl; exact one_trP A8 na.length c8 ra; intro w9 hgS hbS hsS; have X9 := hid (xnewP rfl hbS); have lt9 := hid (block_lt hgS); have E9 := hid (BoxT.of (rangeOf (l := [Value.slice A8 na.length c8, .int .i64 ra]) hgS)); clear hgS hbS hsS; have T9 := hid (T8.out.bel X9.out); have K9 := hid (rangeBel2 X9.out K8.out); have P9 := hid (rangeBel2 X9.out P8.out); have R9 := hid (R8.out.bel X9.out); have W9 := hid (W8.out.trans (X9.out.mono W8.out.size)); have O9 := hid (O8.out.bel X9.out); have D9 := hid (D8.out.bel X9.out); have Q9 := hid (rangeBel2 X9.out Q8.out); have Y9 := hid (rangeBel2 X9.out Y8.out); have b9 := hid (b8.out.bel X9.out); clear T8 K8 P8 R8 W8 O8 D8 Q8 Y8 b8)
      | ((with_reducible refine wpList_load_rng rfl 24 (.tmp 3) rfl w.heap.size 0 rfl [Value.slice A0 ns.length c0, .int .i64 root] _ ?_ hut rfl hiT.out ?_); exact T9.out.all)
      | ((with_reducible refine wpList_load_rng rfl 26 (.tmp 4) rfl (w.heap.size + 1) 0 rfl dk _ ?_ hu rfl hi.out ?_); exact K9.out)
      | ((with_reducible refine wpList_load_rng rfl 29 (.tmp 5) rfl (w.heap.size + 1 + 1) 0 rfl (acC xa) _ ?_ hua rfl jxa.out ?_); exact P9.out))
    refine (hRS.out _ R9.out).mono ?_
    rintro e w10 ⟨A10, c10, rfl, ho, hb⟩
    have T10 := hid (T9.out.bel hb)
    have K10 := hid (rangeBel2 hb K9.out)
    have P10 := hid (rangeBel2 hb P9.out)
    have R10 := hid (R9.out.bel hb)
    have W10 := hid (W9.out.trans (hb.mono W9.out.size))
    have O10 := hid (O9.out.bel hb)
    have D10 := hid (D9.out.bel hb)
    have Q10 := hid (rangeBel2 hb Q9.out)
    have Y10 := hid (rangeBel2 hb Y9.out)
    have b10 := hid (b9.out.bel hb)
    have E10 := hid (E9.out.bel hb)
    clear T9 K9 P9 R9 W9 O9 D9 Q9 Y9 b9 E9
    have l10 := hid (OwnR.row ho)
    clear hb ho hRS
    go_wp2_with (first
      | ((with_reducible refine wpList_load_rng rfl 24 (.tmp 7) rfl w2.heap.size 0 rfl [Value.slice A2 ns.length c2, .int .i64 root] _ ?_ hut rfl hiO.out ?_); exact D10.out.all))
    refine (hPT.out _ A2 c2 _ O10.out).mono ?_
    rintro e w11 ⟨rfl, hb⟩
    have T11 := hid (T10.out.bel hb)
    have K11 := hid (rangeBel2 hb K10.out)
    have P11 := hid (rangeBel2 hb P10.out)
    have R11 := hid (R10.out.bel hb)
    have W11 := hid (W10.out.trans (hb.mono W10.out.size))
    have O11 := hid (O10.out.bel hb)
    have D11 := hid (D10.out.bel hb)
    have Q11 := hid (rangeBel2 hb Q10.out)
    have Y11 := hid (rangeBel2 hb Y10.out)
    have b11 := hid (b10.out.bel hb)
    have E11 := hid (E10.out.bel hb)
    have l11 := hid (l10.out.bel hb)
    clear T10 K10 P10 R10 W10 O10 D10 Q10 Y10 b10 E10 l10
    clear hb hPT
    go_wp2_with (first
      | ((with_reducible refine wpList_load_rng rfl 24 (.tmp 3) rfl w.heap.size 0 rfl [Value.slice A0 ns.length c0, .int .i64 root] _ ?_ hut rfl hiT.out ?_); exact T11.out.all))
    refine (hRT.out _ R11.out).mono ?_
    rintro e w12 ⟨rfl, hb⟩
    have T12 := hid (T11.out.bel hb)
    have K12 := hid (rangeBel2 hb K11.out)
    have P12 := hid (rangeBel2 hb P11.out)
    have R12 := hid (R11.out.bel hb)
    have W12 := hid (W11.out.trans (hb.mono W11.out.size))
    have O12 := hid (O11.out.bel hb)
    have D12 := hid (D11.out.bel hb)
    have Q12 := hid (rangeBel2 hb Q11.out)
    have Y12 := hid (rangeBel2 hb Y11.out)
    have b12 := hid (b11.out.bel hb)
    have E12 := hid (E11.out.bel hb)
    have l12 := hid (l11.out.bel hb)
    clear T11 K11 P11 R11 W11 O11 D11 Q11 Y11 b11 E11 l11
    clear hb hRT
    go_wp2
    refine wp_region_noPanic ?_
    refine wp_region_held_drew (S := fun w' => Below w12.heap.size w12 w') (by kernel_rfl) ?_ (fun hHeld => ?_)
    · exact bel_drew w12
    refine' wpAnyH_take (i := 0) (oi := _) (v := _) rfl (by kernel_rfl) (by kernel_rfl) (by kernel_rfl) (fun _ _ _ h => h) (yieldsIf_load_mid (by rfl) _ _ rfl _ _ rfl _ _ (fun _ h => rangeBel2 h Q12.out) hua rfl jga.out) (by assumption) ?_
    try simp only [Act.put, sQa, sQb, sQc, gQa, gQb, gQc]
    refine' wpAnyH_take (i := 1) (oi := _) (v := _) rfl (by kernel_rfl) (by kernel_rfl) (by kernel_rfl) (fun _ _ _ h => h) (yieldsIf_load_mid (by rfl) _ _ rfl _ _ rfl _ _ (fun _ h => rangeBel2 h Y12.out) hua rfl jga.out) (by assumption) ?_
    try simp only [Act.put, sQa, sQb, sQc, gQa, gQb, gQc]
    refine' wpAnyH_take (i := 2) (oi := _) (v := ?_) rfl (by kernel_rfl) (by kernel_rfl) (by kernel_rfl) (fun _ _ _ h => h) (Or.inl ⟨by rfl, ?_⟩) (by assumption) ?_
    rotate_left
    · intro W hSw
      go_simp
      first | done | (with_reducible rfl)
    try simp only [Act.put, sQa, sQb, sQc, gQa, gQb, gQc]
    refine' wpAnyH_take (i := 3) (oi := _) (v := ?_) rfl (by kernel_rfl) (by kernel_rfl) (by kernel_rfl) (fun _ _ _ h => h) (Or.inl ⟨by rfl, ?_⟩) (by assumption) ?_
    rotate_left
    · intro W hSw
      go_simp
      first | done | (with_reducible rfl)
    try simp only [Act.put, sQa, sQb, sQc, gQa, gQb, gQc]
    refine' wpAnyH_take (i := 4) (oi := _) (v := ?_) rfl (by kernel_rfl) (by kernel_rfl) (by kernel_rfl) (fun _ _ _ h => h) (Or.inl ⟨by rfl, ?_⟩) (by assumption) ?_
    rotate_left
    · intro W hSw
      go_simp
      first | done | (with_reducible rfl)
    try simp only [Act.put, sQa, sQb, sQc, gQa, gQb, gQc]
    refine' wpAnyH_take (i := 5) (oi := _) (v := ?_) rfl (by kernel_rfl) (by kernel_rfl) (by kernel_rfl) (fun _ _ _ h => h) (Or.inl ⟨by rfl, ?_⟩) (by assumption) ?_
    rotate_left
    · intro W hSw
      go_simp
      first | done | (with_reducible rfl)
    try simp only [Act.put, sQa, sQb, sQc, gQa, gQb, gQc]
    refine' wpAnyH_take (i := 6) (oi := _) (v := ?_) rfl (by kernel_rfl) (by kernel_rfl) (by kernel_rfl) (fun _ _ _ h => h) (Or.inl ⟨by rfl, ?_⟩) (by assumption) ?_
    rotate_left
    · intro W hSw
      go_simp
      first | done | (with_reducible rfl)
    try simp only [Act.put, sQa, sQb, sQc, gQa, gQb, gQc]
    refine' wpAnyH_take (i := 7) (oi := _) (v := ?_) rfl (by kernel_rfl) (by kernel_rfl) (by kernel_rfl) (fun _ _ _ h => h) (Or.inl ⟨by rfl, ?_⟩) (by assumption) ?_
    rotate_left
    · intro W hSw
      go_simp
      first | done | (with_reducible rfl)
    try simp only [Act.put, sQa, sQb, sQc, gQa, gQb, gQc]
    refine' wpAnyH_take (i := 8) (oi := _) (v := ?_) rfl (by kernel_rfl) (by kernel_rfl) (by kernel_rfl) (fun _ _ _ h => h) (Or.inl ⟨by rfl, ?_⟩) (by assumption) ?_
    rotate_left
    · intro W hSw
      go_simp
      first | done | (with_reducible rfl)
    try simp only [Act.put, sQa, sQb, sQc, gQa, gQb, gQc]
    refine' wpAnyH_take (i := 9) (oi := _) (v := ?_) rfl (by kernel_rfl) (by kernel_rfl) (by kernel_rfl) (fun _ _ _ h => h) (Or.inl ⟨by rfl, ?_⟩) (by assumption) ?_
    rotate_left
    · intro W hSw
      go_simp
      first | done | (with_reducible rfl)
    try simp only [Act.put, sQa, sQb, sQc, gQa, gQb, gQc]
    refine' wpAnyH_take (i := 10) (oi := _) (v := ?_) rfl (by kernel_rfl) (by kernel_rfl) (by kernel_rfl) (fun _ _ _ h => h) (Or.inl ⟨by rfl, ?_⟩) (by assumption) ?_
    rotate_left
    · intro W hSw
      go_simp
      first | done | (with_reducible rfl)
    try simp only [Act.put, sQa, sQb, sQc, gQa, gQb, gQc]
    refine' wpAnyH_take (i := 11) (oi := _) (v := ?_) rfl (by kernel_rfl) (by kernel_rfl) (by kernel_rfl) (fun _ _ _ h => h) (Or.inl ⟨by rfl, ?_⟩) (by assumption) ?_
    rotate_left
    · intro W hSw
      go_simp
      first | done | (with_reducible rfl)
    try simp only [Act.put, sQa, sQb, sQc, gQa, gQb, gQc]
    refine' wpAnyH_take (i := 12) (oi := _) (v := ?_) rfl (by kernel_rfl) (by kernel_rfl) (by kernel_rfl) (fun _ _ _ h => h) (Or.inl ⟨by rfl, ?_⟩) (by assumption) ?_
    rotate_left
    · intro W hSw
      go_simp
      first | done | (with_reducible rfl)
    try simp only [Act.put, sQa, sQb, sQc, gQa, gQb, gQc]
    refine' wpAnyH_take (i := 13) (oi := _) (v := ?_) rfl (by kernel_rfl) (by kernel_rfl) (by kernel_rfl) (fun _ _ _ h => h) (Or.inl ⟨by rfl, ?_⟩) (by assumption) ?_
    rotate_left
    · intro W hSw
      go_simp
      first | done | (with_reducible rfl)
    try simp only [Act.put, sQa, sQb, sQc, gQa, gQb, gQc]
    refine' wpAnyH_take (i := 14) (oi := _) (v := ?_) rfl (by kernel_rfl) (by kernel_rfl) (by kernel_rfl) (fun _ _ _ h => h) (Or.inl ⟨by rfl, ?_⟩) (by assumption) ?_
    rotate_left
    · intro W hSw
      go_simp
      first | done | (with_reducible rfl)
    try simp only [Act.put, sQa, sQb, sQc, gQa, gQb, gQc]
    refine' wpAnyH_take (i := 15) (oi := _) (v := ?_) rfl (by kernel_rfl) (by kernel_rfl) (by kernel_rfl) (fun _ _ _ h => h) (Or.inl ⟨by rfl, ?_⟩) (by assumption) ?_
    rotate_left
    · intro W hSw
      go_simp
      first | done | (with_reducible rfl)
    try simp only [Act.put, sQa, sQb, sQc, gQa, gQb, gQc]
    refine' wpAnyH_take (i := 16) (oi := _) (v := ?_) rfl (by kernel_rfl) (by kernel_rfl) (by kernel_rfl) (fun _ _ _ h => h) (Or.inl ⟨by rfl, ?_⟩) (by assumption) ?_
    rotate_left
    · intro W hSw
      go_simp
      first | done | (with_reducible rfl)
    try simp only [Act.put, sQa, sQb, sQc, gQa, gQb, gQc]
    refine' wpAnyH_take (i := 17) (oi := _) (v := ?_) rfl (by kernel_rfl) (by kernel_rfl) (by kernel_rfl) (fun _ _ _ h => h) (Or.inl ⟨by rfl, ?_⟩) (by assumption) ?_
    rotate_left
    · intro W hSw
      go_simp
      first | done | (with_reducible rfl)
    try simp only [Act.put, sQa, sQb, sQc, gQa, gQb, gQc]
    refine' wpAnyH_take (i := 18) (oi := _) (v := ?_) rfl (by kernel_rfl) (by kernel_rfl) (by kernel_rfl) (fun _ _ _ h => h) (Or.inl ⟨by rfl, ?_⟩) (by assumption) ?_
    rotate_left
    · intro W hSw
      go_simp
      first | done | (with_reducible rfl)
    try simp only [Act.put, sQa, sQb, sQc, gQa, gQb, gQc]
    refine' wpAnyH_take (i := 19) (oi := _) (v := ?_) rfl (by kernel_rfl) (by kernel_rfl) (by kernel_rfl) (fun _ _ _ h => h) (Or.inl ⟨by rfl, ?_⟩) (by assumption) ?_
    rotate_left
    · intro W hSw
      go_simp
      first | done | (with_reducible rfl)
    try simp only [Act.put, sQa, sQb, sQc, gQa, gQb, gQc]
    refine' wpAnyH_take (i := 20) (oi := _) (v := ?_) rfl (by kernel_rfl) (by kernel_rfl) (by kernel_rfl) (fun _ _ _ h => h) (Or.inl ⟨by rfl, ?_⟩) (by assumption) ?_
    rotate_left
    · intro W hSw
      go_simp
      first | done | (with_reducible rfl)
    try simp only [Act.put, sQa, sQb, sQc, gQa, gQb, gQc]
    refine' wpAnyH_take (i := 21) (oi := _) (v := ?_) rfl (by kernel_rfl) (by kernel_rfl) (by kernel_rfl) (fun _ _ _ h => h) (Or.inl ⟨by rfl, ?_⟩) (by assumption) ?_
    rotate_left
    · intro W hSw
      go_simp
      first | done | (with_reducible rfl)
    try simp only [Act.put, sQa, sQb, sQc, gQa, gQb, gQc]
    refine' wpAnyH_take (i := 22) (oi := _) (v := ?_) rfl (by kernel_rfl) (by kernel_rfl) (by kernel_rfl) (fun _ _ _ h => h) (Or.inl ⟨by rfl, ?_⟩) (by assumption) ?_
    rotate_left
    · intro W hSw
      go_simp
      first | done | (with_reducible rfl)
    try simp only [Act.put, sQa, sQb, sQc, gQa, gQb, gQc]
    refine' wpAnyH_take (i := 23) (oi := _) (v := ?_) rfl (by kernel_rfl) (by kernel_rfl) (by kernel_rfl) (fun _ _ _ h => h) (Or.inl ⟨by rfl, ?_⟩) (by assumption) ?_
    rotate_left
    · intro W hSw
      go_simp
      first | done | (with_reducible rfl)
    try simp only [Act.put, sQa, sQb, sQc, gQa, gQb, gQc]
    refine' wpAnyH_take (i := 24) (oi := _) (v := ?_) rfl (by kernel_rfl) (by kernel_rfl) (by kernel_rfl) (fun _ _ _ h => h) (Or.inl ⟨by rfl, ?_⟩) (by assumption) ?_
    rotate_left
    · intro W hSw
      go_simp
      first | done | (with_reducible rfl)
    try simp only [Act.put, sQa, sQb, sQc, gQa, gQb, gQc]
    refine' wpAnyH_take (i := 25) (oi := _) (v := ?_) rfl (by kernel_rfl) (by kernel_rfl) (by kernel_rfl) (fun _ _ _ h => h) (Or.inl ⟨by rfl, ?_⟩) (by assumption) ?_
    rotate_left
    · intro W hSw
      go_simp
      first | done | (with_reducible rfl)
    try simp only [Act.put, sQa, sQb, sQc, gQa, gQb, gQc]
    refine' wpAnyH_take (i := 26) (oi := _) (v := ?_) rfl (by kernel_rfl) (by kernel_rfl) (by kernel_rfl) (fun _ _ _ h => h) (Or.inl ⟨by rfl, ?_⟩) (by assumption) ?_
    rotate_left
    · intro W hSw
      go_simp
      first | done | (with_reducible rfl)
    try simp only [Act.put, sQa, sQb, sQc, gQa, gQb, gQc]
    refine' wpAnyH_take (i := 27) (oi := _) (v := ?_) rfl (by kernel_rfl) (by kernel_rfl) (by kernel_rfl) (fun _ _ _ h => h) (Or.inl ⟨by rfl, ?_⟩) (by assumption) ?_
    rotate_left
    · intro W hSw
      go_simp
      first | done | (with_reducible rfl)
    try simp only [Act.put, sQa, sQb, sQc, gQa, gQb, gQc]
    refine' wpAnyH_take (i := 28) (oi := _) (v := ?_) rfl (by kernel_rfl) (by kernel_rfl) (by kernel_rfl) (fun _ _ _ h => h) (Or.inl ⟨by rfl, ?_⟩) (by assumption) ?_
    rotate_left
    · intro W hSw
      go_simp
      first | done | (with_reducible rfl)
    try simp only [Act.put, sQa, sQb, sQc, gQa, gQb, gQc]
    refine' wpAnyH_take (i := 29) (oi := _) (v := _) rfl (by kernel_rfl) (by kernel_rfl) (by kernel_rfl) (fun _ _ _ h => h) (yieldsIf_load_mid (by rfl) _ _ rfl _ _ rfl _ _ (fun _ h => rangeBel2 h D12.out.all) hut rfl hiO.out) (by assumption) ?_
    try simp only [Act.put, sQa, sQb, sQc, gQa, gQb, gQc]
    refine' wpAnyH_take (i := 31) (oi := _) (v := _) rfl (by kernel_rfl) (by kernel_rfl) (by kernel_rfl) (fun _ _ _ h => h) (yieldsIf_load_mid (by rfl) _ _ rfl _ _ rfl _ _ (fun _ h => rangeBel2 h T12.out.all) hut rfl hiT.out) (by assumption) ?_
    try simp only [Act.put, sQa, sQb, sQc, gQa, gQb, gQc]
    refine wpAnyH_ready (rs := [30]) (by kernel_rfl) (by simp) ?_
    refine AllReadyH.cons (o := _) rfl (fun K hK => ?_) AllReadyH.nil
    go_simp
    refine (hPC.out _ A2 c2 _ (O12.out.bel hHeld)).mono ?_
    rintro e v1 ⟨rfl, hB⟩
    go_wp2_with fail
    refine hK.out _ _ ?_ (fun hHeld => ?_)
    · exact hHeld.trans (hB.mono hHeld.size)
    clear hK K
    try simp only [Act.put, sQa, sQb, sQc, gQa, gQb, gQc]
    refine wpAnyH_ready (rs := [32]) (by kernel_rfl) (by simp) ?_
    refine AllReadyH.cons (o := _) rfl (fun K hK => ?_) AllReadyH.nil
    go_simp
    refine (hRC.out _ (R12.out.bel hHeld)).mono ?_
    rintro e w13 ⟨rfl, hB⟩
    go_wp2_with fail
    refine hK.out _ _ ?_ (fun hHeld => ?_)
    · exact hHeld.trans (hB.mono hHeld.size)
    clear hK K
    try simp only [Act.put, sQa, sQb, sQc, gQa, gQb, gQc]
    refine' wpAnyH_take (i := 33) (oi := _) (v := ?_) rfl (by kernel_rfl) (by kernel_rfl) (by kernel_rfl) (fun _ _ _ h => h) (Or.inl ⟨by rfl, ?_⟩) (by assumption) ?_
    rotate_left
    · intro W hSw
      go_simp
      first | done | (with_reducible rfl)
    try simp only [Act.put, sQa, sQb, sQc, gQa, gQb, gQc]
    refine' wpAnyH_take (i := 34) (oi := _) (v := ?_) rfl (by kernel_rfl) (by kernel_rfl) (by kernel_rfl) (fun _ _ _ h => h) (Or.inl ⟨by rfl, ?_⟩) (by assumption) ?_
    rotate_left
    · intro W hSw
      go_simp
      first | done | (with_reducible rfl)
    try simp only [Act.put, sQa, sQb, sQc, gQa, gQb, gQc]
    refine' wpAnyH_take (i := 35) (oi := _) (v := ?_) rfl (by kernel_rfl) (by kernel_rfl) (by kernel_rfl) (fun _ _ _ h => h) (Or.inl ⟨by rfl, ?_⟩) (by assumption) ?_
    rotate_left
    · intro W hSw
      go_simp
      first | done | (with_reducible rfl)
    try simp only [Act.put, sQa, sQb, sQc, gQa, gQb, gQc]
    refine wpAnyH_done (by kernel_rfl) ?_ _
    refine NoPanic.normal ?_
    have T13 := hid (T12.out.bel hHeld)
    have K13 := hid (rangeBel2 hHeld K12.out)
    have P13 := hid (rangeBel2 hHeld P12.out)
    have R13 := hid (R12.out.bel hHeld)
    have W13 := hid (W12.out.trans (hHeld.mono W12.out.size))
    have O13 := hid (O12.out.bel hHeld)
    have D13 := hid (D12.out.bel hHeld)
    have Q13 := hid (rangeBel2 hHeld Q12.out)
    have Y13 := hid (rangeBel2 hHeld Y12.out)
    have b13 := hid (b12.out.bel hHeld)
    have E13 := hid (E12.out.bel hHeld)
    have l13 := hid (l12.out.bel hHeld)
    clear T12 K12 P12 R12 W12 O12 D12 Q12 Y12 b12 E12 l12
    clear hHeld
    cases m with
    | false =>
      obtain rfl : z = 8 := by rw [← hz.out]; rfl
      have hn0 := hT2.out (by first | trivial | rfl)
      have c13 := hid (E13.out.all 0 _ rfl)
      rw [hn0] at c13
      replace c13 := c13.out
      replace hn0 := hid hn0
      go_wp2_with (first
        | ((with_reducible refine wpList_load_rng ?_ 24 (.tmp 7) rfl w2.heap.size 0 rfl [Value.slice A2 ns.length c2, .int .i64 root] _ ?_ hut rfl hiO.out ?_); rfl; exact D13.out.all)
        | ((with_reducible refine wpList_load_rng ?_ 24 (.tmp 3) rfl w.heap.size 0 rfl [Value.slice A0 ns.length c0, .int .i64 root] _ ?_ hut rfl hiT.out ?_); rfl; exact T13.out.all))
      refine (hSm.out _ _ A2 A0 c2 c0 _ O13.out R13.out).mono ?_
      rintro e w14 ⟨rfl, hb⟩
      have T14 := hid (T13.out.bel hb)
      have K14 := hid (rangeBel2 hb K13.out)
      have P14 := hid (rangeBel2 hb P13.out)
      have R14 := hid (R13.out.bel hb)
      have W14 := hid (W13.out.trans (hb.mono W13.out.size))
      have O14 := hid (O13.out.bel hb)
      have D14 := hid (D13.out.bel hb)
      have Q14 := hid (rangeBel2 hb Q13.out)
      have Y14 := hid (rangeBel2 hb Y13.out)
      have b14 := hid (b13.out.bel hb)
      have E14 := hid (E13.out.bel hb)
      have l14 := hid (l13.out.bel hb)
      clear T13 K13 P13 R13 W13 O13 D13 Q13 Y13 b13 E13 l13
      clear hb 
      go_wp2
      go_ret
      exact ⟨rfl, W14.out⟩
    | true =>
      obtain rfl : z = 0 := by rw [← hz.out]; rfl
      obtain ⟨hmt, hnl⟩ := hT1.out (by first | trivial | rfl)
      have hLe : L = allT ⟨na, ra⟩ := by rw [hL.out, if_pos (by first | trivial | rfl)]
      have hM := hid (fun F A c W hW => RMayT_is F A c na ra true W hW (by omega) hmt)
      have hA := fun F A c W hW => RAllT_any F A c na ra W hW (by omega) hmt
      have hal := all_len hmt (show (⟨na, ra⟩ : Tr).ns.length ≤ 1000000 by dsimp only; omega)
      rw [← hLe] at hA hal
      have hSP := hid (fun F G A D c d W hW hV => RSameP_any F G A D c d _ _ L L W hW hV rfl rfl (by omega) (by omega))
      have hSQ : decide (L = L) = true := decide_eq_true rfl
      rw [hSQ] at hSP
      replace hA := hid hA
      clear hLe hmt hL hT1 hT2 hSQ
      go_wp2_with (first
        | ((with_reducible refine wpList_load_rng ?_ 24 (.tmp 12) rfl w8.heap.size 0 rfl [Value.slice A8 na.length c8, .int .i64 ra] _ ?_ hut rfl hiC.out ?_); rfl; exact E13.out.all))
      refine (hM.out _ A8 c8 _ b13.out).mono ?_
      rintro e w14 ⟨rfl, hb⟩
      have T14 := hid (T13.out.bel hb)
      have K14 := hid (rangeBel2 hb K13.out)
      have P14 := hid (rangeBel2 hb P13.out)
      have R14 := hid (R13.out.bel hb)
      have W14 := hid (W13.out.trans (hb.mono W13.out.size))
      have O14 := hid (O13.out.bel hb)
      have D14 := hid (D13.out.bel hb)
      have Q14 := hid (rangeBel2 hb Q13.out)
      have Y14 := hid (rangeBel2 hb Y13.out)
      have b14 := hid (b13.out.bel hb)
      have E14 := hid (E13.out.bel hb)
      have l14 := hid (l13.out.bel hb)
      clear T13 K13 P13 R13 W13 O13 D13 Q13 Y13 b13 E13 l13
      clear hb hM
      go_wp2_with (first
        | ((with_reducible refine wpList_load_rng ?_ 24 (.tmp 12) rfl w8.heap.size 0 rfl [Value.slice A8 na.length c8, .int .i64 ra] _ ?_ hut rfl hiC.out ?_); rfl; exact E14.out.all))
      refine (hA.out _ A8 c8 _ b14.out).mono ?_
      rintro e w15 ⟨A15, c15, rfl, ho, hb⟩
      have T15 := hid (T14.out.bel hb)
      have K15 := hid (rangeBel2 hb K14.out)
      have P15 := hid (rangeBel2 hb P14.out)
      have R15 := hid (R14.out.bel hb)
      have W15 := hid (W14.out.trans (hb.mono W14.out.size))
      have O15 := hid (O14.out.bel hb)
      have D15 := hid (D14.out.bel hb)
      have Q15 := hid (rangeBel2 hb Q14.out)
      have Y15 := hid (rangeBel2 hb Y14.out)
      have b15 := hid (b14.out.bel hb)
      have E15 := hid (E14.out.bel hb)
      have l15 := hid (l14.out.bel hb)
      clear T14 K14 P14 R14 W14 O14 D14 Q14 Y14 b14 E14 l14
      have s15 := hid (OwnR.row ho)
      clear hb ho hA
      go_wp2_with fail
      refine (hSP.out _ _ A15 A10 c15 c10 _ s15.out l15.out).mono ?_
      rintro e w16 ⟨rfl, hb⟩
      have T16 := hid (T15.out.bel hb)
      have K16 := hid (rangeBel2 hb K15.out)
      have P16 := hid (rangeBel2 hb P15.out)
      have R16 := hid (R15.out.bel hb)
      have W16 := hid (W15.out.trans (hb.mono W15.out.size))
      have O16 := hid (O15.out.bel hb)
      have D16 := hid (D15.out.bel hb)
      have Q16 := hid (rangeBel2 hb Q15.out)
      have Y16 := hid (rangeBel2 hb Y15.out)
      have b16 := hid (b15.out.bel hb)
      have E16 := hid (E15.out.bel hb)
      have l16 := hid (l15.out.bel hb)
      have s16 := hid (s15.out.bel hb)
      clear T15 K15 P15 R15 W15 O15 D15 Q15 Y15 b15 E15 l15 s15
      clear hb hSP
      go_wp2_with (first
        | ((with_reducible refine wpList_load_rng ?_ 24 (.tmp 7) rfl w2.heap.size 0 rfl [Value.slice A2 ns.length c2, .int .i64 root] _ ?_ hut rfl hiO.out ?_); rfl; exact D16.out.all)
        | ((with_reducible refine wpList_load_rng ?_ 24 (.tmp 3) rfl w.heap.size 0 rfl [Value.slice A0 ns.length c0, .int .i64 root] _ ?_ hut rfl hiT.out ?_); rfl; exact T16.out.all))
      refine (hSm.out _ _ A2 A0 c2 c0 _ O16.out R16.out).mono ?_
      rintro e w17 ⟨rfl, hb⟩
      have T17 := hid (T16.out.bel hb)
      have K17 := hid (rangeBel2 hb K16.out)
      have P17 := hid (rangeBel2 hb P16.out)
      have R17 := hid (R16.out.bel hb)
      have W17 := hid (W16.out.trans (hb.mono W16.out.size))
      have O17 := hid (O16.out.bel hb)
      have D17 := hid (D16.out.bel hb)
      have Q17 := hid (rangeBel2 hb Q16.out)
      have Y17 := hid (rangeBel2 hb Y16.out)
      have b17 := hid (b16.out.bel hb)
      have E17 := hid (E16.out.bel hb)
      have l17 := hid (l16.out.bel hb)
      have s17 := hid (s16.out.bel hb)
      clear T16 K16 P16 R16 W16 O16 D16 Q16 Y16 b16 E16 l16 s16
      clear hb 
      go_wp2
      go_ret
      exact ⟨rfl, W17.out⟩

/-! ### THE ROW's STEP: WRITTEN OUT: LEAVE IT -/
set_option maxRecDepth 100000 in
theorem lifted (os : Os) (started : os.Started) (H : Type) (enc : TypeId × Value → H) :
    ReturnsInHanded {} Try.checked os 3 .any (Rows.acctDoesSpec.pre6 enc Try.prog Try.f3 Rows.acctDoesRow.domain false) (Rows.acctDoesSpec.post enc Try.prog Try.f3 false true false false) := by
  refine returnsInHanded_of_change (C := Try.checked) own started (by kernel_rfl) Try.func3
    (ChangeSpec.witness6 (enc := enc) (C := Try.checked) false ⟨#[], #[.agg #[.slice none 0 0, .int .i64 0], .agg z32, .agg #[.int .u64 0, .int .u64 0]], []⟩ 8 (by kernel_rfl) (by kernel_rfl) (by kernel_rfl) (by kernel_rfl)) ?_
  intro W base args ds gs before hval0 hW hcnd _
  have hval : ∀ (j : Nat) t v, Try.f3.params[j]? = some t → args[j]? = some v → Value.okWide Try.prog W .any base t v := hval0
  have hW' := hW
  obtain ⟨p, q, hA0, hV, rfl, hfz, hnd⟩ := hW
  have hA : DataW.TrodAll enc Try.prog W 0 (fun _ => true) true Try.f3.params.toList args.toList ds p := hA0
  rw [Try.params3] at hA hval
  obtain ⟨v0, vs0, d0, ds0, p0, q0, hargs, rfl, rfl, h0, r0⟩ := trodAll_cons hA
  obtain ⟨v1, vs1, d1, ds1, p1, q1, rfl, rfl, rfl, h1, r1⟩ := trodAll_cons r0
  obtain ⟨v2, vs2, d2, ds2, p2, q2, rfl, rfl, rfl, h2, r2⟩ := trodAll_cons r1
  obtain ⟨rfl, rfl, rfl⟩ := trodAll_nil r2
  obtain rfl : args = #[v0, v1, v2] := by cases args; simp_all
  obtain ⟨rfl, rfl⟩ := trodVars_none hV
  have k0 := h0
  have lt0 : ∀ x ∈ p0, x.block < W.heap.size := by obtain ⟨m, hm⟩ := k0; exact DataW.trod_lt m _ _ _ hm
  obtain ⟨x0, vs0, rfl, w0⟩ := open_struct opensTr Try.underlying24 (hval 0 24 v0 rfl rfl) h0
  have k1 := h1
  have lt1 : ∀ x ∈ p1, x.block < W.heap.size := by obtain ⟨m, hm⟩ := k1; exact DataW.trod_lt m _ _ _ hm
  obtain ⟨l1, w1, rfl⟩ := open_dig Try.underlying26 Try.underlying5 cellsByte cellsDig (hval 1 26 v1 rfl rfl) h1
  have k2 := h2
  have lt2 : ∀ x ∈ p2, x.block < W.heap.size := by obtain ⟨m, hm⟩ := k2; exact DataW.trod_lt m _ _ _ hm
  obtain ⟨x2, vs2, rfl, w2⟩ := open_struct opensAc Try.underlying29 (hval 2 29 v2 rfl rfl) h2
  clear hA0 hval0
  refine (walk x0 vs0 l1 x2 vs2 W w0 w1 w2).mono fun e W' ⟨he, bel⟩ => ?_
  subst he
  exact ⟨_, rfl, _, _, _, [], _, [], hW', trodAll_mk1 (shut_bool Try.underlying4 _), (trodAll_cons_mk (Below.trod laidOut (by kernel_rfl) (of_decide_eq_true (by kernel_rfl)) k0 bel lt0) (trodAll_cons_mk (Below.trod laidOut (by kernel_rfl) (of_decide_eq_true (by kernel_rfl)) k1 bel lt1) (trodAll_cons_mk (Below.trod laidOut (by kernel_rfl) (of_decide_eq_true (by kernel_rfl)) k2 bel lt2) trodAll_mk0))), rfl, bel.frame _, fun h => by cases h⟩

theorem over : Rows.acctDoesRow.holds Try.pinned (OpenSpec.ofChange Rows.acctDoesSpec) :=
  OpenClaim.holds_of_wide 3 Try.f3 rfl rfl rfl rfl rfl rfl rfl ⟨rfl, rfl, rfl, rfl, rfl⟩ rfl rfl rfl rfl rfl (by kernel_rfl) Try.func3 (by kernel_rfl)
    (of_decide_eq_true (by kernel_rfl)) (by unfold Func.isWrapper; first | (rw [if_pos (by decide +kernel)]; kernel_rfl) | (rw [if_neg (by decide +kernel)]; exact ⟨rfl, rfl⟩))
    (fun os started H enc _ => lifted os started H enc)

/-- ████ THE STATEMENT ████ -/
theorem proved : Rows.AcctDoesSaid := over
#print axioms proved
end Go.Proofs.Ytcifncmfjlbhjaa.acctDoes
