/-
  The Go function AcctBack returns true: what is set is got, all other accounts stay: any tree, two keys and an account; its arguments read afterwards as before.
  Conditions: none. The frame around the walk was written by program (proof-skeleton.mjs).
-/
import Derived.Test.YtcifncmfjlbhjaaRows
import Derived.WalkKit
import Derived.ProofKit
import Derived.OpenShut
import Derived.ShutString
import Derived.ChangeOld
import Derived.Below
import Derived.Test.YtcifncmfjlbhjaaAcS
import Derived.Test.YtcifncmfjlbhjaaAlive10
import Derived.Test.YtcifncmfjlbhjaaRf6
import Derived.Test.YtcifncmfjlbhjaaTreeB
import Derived.Test.YtcifncmfjlbhjaaAc
namespace Go.Proofs.Ytcifncmfjlbhjaa.acctBack
open Go.ChangeShapes Go.WideShapes Go.ChangeAt Go.RowKit
open Go.ChangeMaps (open_string shut_string)
set_option linter.unusedVariables false

theorem own : ownKnob Try.prog.godebug = none := by kernel_rfl
theorem laidOut : laidOutB Try.prog = true := by kernel_rfl

/-- WHAT THE WALK IS TOLD OF A SLICE OF INTEGERS THAT CAME IN: it is nil; or it leads to a row of 'cap' cells, the numbers 'zs' (the first 'len' are its elements, the rest its spare room), each fitting its kind. -/
def IsRow (k : IntKind) (w : World) (a : Option Addr) (len cap : Nat) (zs : List Int) : Prop :=
  (a = none ∧ len = 0 ∧ cap = 0 ∧ zs = []) ∨
  ∃ x, a = some x ∧ len ≤ cap ∧ cap ≤ maxLen ∧ zs.length = cap ∧ (∀ i, i < zs.length → w.cell? (x.add i) = some (.int k (zs.getD i 0))) ∧ ∀ n ∈ zs, (Lit.int k n).wf = true

/-! ### the walk -/
open Go.Proofs.Ytcifncmfjlbhjaa
set_option linter.unusedSimpArgs false
set_option maxRecDepth 100000 in
set_option maxHeartbeats 16000000 in
theorem walk (x0 : Tr) (vs0 : List Value) (l1 : List UInt8) (x2 : Ac) (vs2 : List Value) (l3 : List UInt8) (w : World) (w0 : Enc.rep (fun b => b < w.heap.size) w x0 vs0) (w1 : l1.length = 32) (w2 : Enc.rep (fun b => b < w.heap.size) w x2 vs2) (w3 : l3.length = 32) :
    Calls Try.prog 4 #[.agg vs0.toArray, .agg (l1.map bv).toArray, .agg vs2.toArray, .agg (l3.map bv).toArray] w fun e w' => e = .returned (.bool true) ∧ Below w.heap.size w w' := by
  obtain ⟨A0, c0, rfl, hc0, hm0, hr, hI⟩ := rep_tr w0
  obtain ⟨ns, root⟩ := x0
  obtain ⟨k, rfl⟩ : ∃ k : Dg, l1 = k.1 := ⟨⟨l1, w1⟩, rfl⟩
  obtain ⟨rfl, ha⟩ := rep_ac w2
  obtain ⟨o, rfl⟩ : ∃ k : Dg, l3 = k.1 := ⟨⟨l3, w3⟩, rfl⟩
  dsimp only at *
  have hcm : ns.length ≤ 9223372036854775807 := by unfold maxLen at hm0; omega
  obtain ⟨T0, K0, A0_, U0, W0⟩ := boxesTDAD w A0 ns.length c0 root k x2 o 24 26 29 26
  have hu := Try.underlying26
  have hut := Try.underlying24
  have hua := Try.underlying29
  have hi := hid (sizeDgT k)
  have ho := hid (sizeDgT o)
  have hiT := hid (show (Try.prog.info? 24).map (·.size) = some ([Value.slice A0 ns.length c0, .int .i64 root]).length from sizeTr)
  have R0 := hid (hr.bel W0)
  obtain ⟨gb, hgb⟩ : ∃ gb, greatT ns 600 = gb := ⟨_, rfl⟩
  have hGr := fun W hW => RGreatT_any (fun b => b < w.heap.size) A0 c0 600 ns root W hW hcm
  rw [hgb] at hGr
  replace hGr := hid hGr
  replace hgb := hid hgb
  obtain ⟨ob, hob⟩ : ∃ b, decide (o = k) = b := ⟨_, rfl⟩
  have hEk : ∀ W, (Op.equalIn 10000 26 (.agg (o.1.map bv).toArray) (.agg (k.1.map bv).toArray)).run Try.prog W = .ok ob W := fun W => eqd_is o k ob hob W
  have P0 := hid A0_
  replace T0 := hid T0
  replace K0 := hid K0
  replace U0 := hid U0
  replace W0 := hid W0
  replace hob := hid hob
  clear hr w0 w1 w2 w3 hI A0_
  generalize hdk : k.1.map bv = dk at *
  generalize hdo : o.1.map bv = dO at *
  replace hdk := hid hdk
  replace hdo := hid hdo
  generalize x2 = xa at *
  have nxa := hid (one_ac xa)
  have jxa := hid (show (Try.prog.info? 29).map (·.size) = some (acC xa).length from sizeAc)
  have hAl := hid (fun W => alive10_any W)
  go_enter Try.func4, Try.ntmps4
  go_wp2_with fail
  generalize (((w.alloc (.cells #[.slice A0 ns.length c0, .int .i64 root] 24)).alloc (.cells dk.toArray 26)).alloc (.cells (acC xa).toArray 29)).alloc (.cells dO.toArray 26) = w0 at *
  refine (hAl.out _).mono ?_
  rintro e w1 ⟨rfl, hb⟩
  have T1 := hid (T0.out.bel hb)
  have K1 := hid (rangeBel2 hb K0.out)
  have P1 := hid (rangeBel2 hb P0.out)
  have U1 := hid (rangeBel2 hb U0.out)
  have R1 := hid (R0.out.bel hb)
  have W1 := hid (W0.out.trans (hb.mono W0.out.size))
  clear T0 K0 P0 U0 R0 W0
  clear hb hAl
  go_wp2_with (first
    | ((with_reducible refine wpList_load_rng rfl 24 (.tmp 4) rfl w.heap.size 0 rfl [Value.slice A0 ns.length c0, .int .i64 root] _ ?_ hut rfl hiT.out ?_); exact T1.out.all))
  refine (hGr.out _ R1.out).mono ?_
  rintro e w2 ⟨rfl, hb⟩
  have T2 := hid (T1.out.bel hb)
  have K2 := hid (rangeBel2 hb K1.out)
  have P2 := hid (rangeBel2 hb P1.out)
  have U2 := hid (rangeBel2 hb U1.out)
  have R2 := hid (R1.out.bel hb)
  have W2 := hid (W1.out.trans (hb.mono W1.out.size))
  clear T1 K1 P1 U1 R1 W1
  clear hb hGr
  cases gb with
  | true =>
    go_wp2
    go_ret
    exact ⟨rfl, W2.out⟩
  | false =>
    obtain ⟨hlen, hvs⟩ := greatT_no hgb.out
    clear hgb hvs
    have hPG := fun F A c W hW => PAcGet_any F A c ns root o W hW (by omega)
    have hPS := fun F A c W hW => PAcSet_any F A c ns root k xa W ha hW (by omega)
    have hPC := fun F A c W hW => PAcCheck_any F A c ns root W hW (by omega)
    have hSE : setE ⟨ns, root⟩ k xa = if mayA ⟨ns, root⟩ = true then 0 else 8 := setE_small k (by dsimp only; omega)
    rw [hSE] at hPS
    obtain ⟨m, hm⟩ : ∃ m, mayA ⟨ns, root⟩ = m := ⟨_, rfl⟩
    obtain ⟨zb, hzb⟩ : ∃ b, decide (xa = ac0) = b := ⟨_, rfl⟩
    have hE0 : ∀ W, (Op.equalIn 10000 29 (.agg (acC xa).toArray) (.agg (acC ac0).toArray)).run Try.prog W = .ok zb W := fun W => eqac_is xa ac0 ha ac0_ok zb hzb W
    have hE1 : ∀ W, (Op.equalIn 10000 29 (.agg (acC xa).toArray) (.agg (acC xa).toArray)).run Try.prog W = .ok true W := fun W => eqac_is xa xa ha ha true (decide_eq_true rfl) W
    have hT2 : m = false → (setT ⟨ns, root⟩ k xa).ns.length = 0 := fun h => by rw [setT_no (hm.trans h)]; rfl
    have hB : m = true → (setT ⟨ns, root⟩ k xa).ns.length ≤ 1000 ∧ mayA (setT ⟨ns, root⟩ k xa) = true ∧ getA (setT ⟨ns, root⟩ k xa) k = xa ∧ (ob = false → getA (setT ⟨ns, root⟩ k xa) o = getA ⟨ns, root⟩ o) ∧ getTB (setT ⟨ns, root⟩ k xa) k = !zb := fun h => by
      have hl : (⟨ns, root⟩ : Tr).ns.length ≤ 100000 := by dsimp only; omega
      obtain ⟨t1, -, -, t4⟩ := setT_spec (k := k) ha (hm.trans h) hl
      obtain ⟨b1, b2, b3⟩ := back (k := k) (o := o) ha (hm.trans h) hl
      refine ⟨by dsimp only at t4; omega, t1, b1, fun q => b2 (of_decide_eq_false (hob.out.trans q)), ?_⟩
      rw [b3, ← hzb]
      simp
    rw [hm] at hPG hPS hPC
    have hok1 : (getA ⟨ns, root⟩ o).ok := by
      unfold getA
      split
      · exact inA_ok _ _
      · exact ac0_ok
    generalize getA ⟨ns, root⟩ o = gc at *
    generalize setT ⟨ns, root⟩ k xa = ta at *
    obtain ⟨na, ra⟩ := ta
    dsimp only at hPS hB hT2
    rw [hdk.out] at hPS
    rw [hdo.out] at hPG
    have ngc := hid (one_ac gc)
    have jgc := hid (show (Try.prog.info? 29).map (·.size) = some (acC gc).length from sizeAc)
    have hbz := hid built_ac0
    replace hT2 := hid hT2
    replace hB := hid hB
    clear hm hSE hzb hob
    cases m with
    | false =>
      simp only [Bool.false_eq_true, if_false] at hPG hPS hPC
      replace hPS := hid hPS
      replace hPC := hid hPC
      have hn0 := hid (hT2.out (by first | trivial | rfl))
      clear hPG hB hT2
      go_wp2_with (first
        | ((with_reducible refine wpList_load_rng rfl 24 (.tmp 4) rfl w.heap.size 0 rfl [Value.slice A0 ns.length c0, .int .i64 root] _ ?_ hut rfl hiT.out ?_); exact T2.out.all)
        | ((with_reducible refine wpList_load_rng rfl 26 (.tmp 5) rfl (w.heap.size + 1) 0 rfl dk _ ?_ hu rfl hi.out ?_); exact K2.out)
        | ((with_reducible refine wpList_load_rng rfl 29 (.tmp 6) rfl (w.heap.size + 1 + 1) 0 rfl (acC xa) _ ?_ hua rfl jxa.out ?_); exact P2.out))
      refine (hPS.out _ A0 c0 _ R2.out).mono ?_
      rintro e w3 ⟨A8, c8, rfl, hO, hb⟩
      have T3 := hid (T2.out.bel hb)
      have K3 := hid (rangeBel2 hb K2.out)
      have P3 := hid (rangeBel2 hb P2.out)
      have U3 := hid (rangeBel2 hb U2.out)
      have R3 := hid (R2.out.bel hb)
      have W3 := hid (W2.out.trans (hb.mono W2.out.size))
      clear T2 K2 P2 U2 R2 W2
      have hiC := hid (show (Try.prog.info? 24).map (·.size) = some ([Value.slice A8 na.length c8, .int .i64 ra]).length from sizeTr)
      clear hb hO hPS
      have e3 := hid (heap_alloc_new w3 (.cells zTrC 24))
      have hiE := hid (show (Try.prog.info? 24).map (·.size) = some ([Value.slice A8 na.length c8, .int .i64 ra]).length from sizeTr)
      go_wp2_with (first
        | (with_reducible refine wpList_alloc_row rfl 24 rfl zTrC zInfoTr ?_)
        | ((with_reducible refine wpList_store_row rfl 24 (.tmp 10) (.tmp 33) rfl _ _ rfl rfl 24 zTrC ?_ ?_ ?_ ?_ ?_); exact e3.out; exact sizeTr; rfl; exact one_trP A8 na.length c8 ra; intro w4 hgS hbS hsS; have X4 := hid (xnewP rfl hbS); have lt4 := hid (block_lt hgS); have E4 := hid (BoxT.of (rangeOf (l := [Value.slice A8 na.length c8, .int .i64 ra]) hgS)); clear hgS hbS hsS; have T4 := hid (T3.out.bel X4.out); have K4 := hid (rangeBel2 X4.out K3.out); have P4 := hid (rangeBel2 X4.out P3.out); have U4 := hid (rangeBel2 X4.out U3.out); have R4 := hid (R3.out.bel X4.out); have W4 := hid (W3.out.trans (X4.out.mono W3.out.size)); clear T3 K3 P3 U3 R3 W3)
        | ((with_reducible refine wpList_load_rng ?_ 24 (.tmp 4) rfl w.heap.size 0 rfl [Value.slice A0 ns.length c0, .int .i64 root] _ ?_ hut rfl hiT.out ?_); rfl; exact T4.out.all))
      refine (hPC.out _ A0 c0 _ R4.out).mono ?_
      rintro e w5 ⟨rfl, hb⟩
      have T5 := hid (T4.out.bel hb)
      have K5 := hid (rangeBel2 hb K4.out)
      have P5 := hid (rangeBel2 hb P4.out)
      have U5 := hid (rangeBel2 hb U4.out)
      have R5 := hid (R4.out.bel hb)
      have W5 := hid (W4.out.trans (hb.mono W4.out.size))
      have E5 := hid (E4.out.bel hb)
      clear T4 K4 P4 U4 R4 W4 E4
      clear hb hPC
      have c5 := E5.out.all 0 _ rfl
      rw [hn0.out] at c5
      go_wp2
      go_ret
      exact ⟨rfl, W5.out⟩
    | true =>
      simp only [if_true] at hPG hPS hPC
      obtain ⟨hnl, hma, hgk, hgo, htb⟩ := hB.out (by first | trivial | rfl)
      have hQ1 := fun F A c W hW => PAcGet_any F A c na ra k W hW (by omega)
      have hQ2 := fun F A c W hW => PAcGet_any F A c na ra o W hW (by omega)
      have hQ3 := fun F A c W hW => PGetT_any F A c na ra k W hW (by omega)
      have hQ4 := fun F A c W hW => PAcCheck_any F A c na ra W hW (by omega)
      rw [hgk, hma] at hQ1
      rw [hma] at hQ2 hQ4
      rw [htb] at hQ3
      simp only [if_true] at hQ1 hQ2 hQ4
      rw [hdk.out] at hQ1 hQ3
      rw [hdo.out] at hQ2
      generalize getTL ⟨na, ra⟩ k = gl at *
      generalize getA ⟨na, ra⟩ o = gd at *
      have hok2 : ob = false → gd = gc := hgo
      have ngd := hid (one_ac gd)
      have jgd := hid (show (Try.prog.info? 29).map (·.size) = some (acC gd).length from sizeAc)
      have hE2 : ob = false → ∀ W, (Op.equalIn 10000 29 (.agg (acC gc).toArray) (.agg (acC gd).toArray)).run Try.prog W = .ok true W := fun h W => by
        rw [hok2 h]
        exact eqac_is gc gc hok1 hok1 true (decide_eq_true rfl) W
      replace hE2 := hid hE2
      replace hPG := hid hPG
      replace hPS := hid hPS
      replace hQ1 := hid hQ1
      replace hQ2 := hid hQ2
      replace hQ3 := hid hQ3
      replace hQ4 := hid hQ4
      clear hPC hB hT2 hma hgk hgo htb hok2
      go_wp2_with (first
        | ((with_reducible refine wpList_load_rng rfl 24 (.tmp 4) rfl w.heap.size 0 rfl [Value.slice A0 ns.length c0, .int .i64 root] _ ?_ hut rfl hiT.out ?_); exact T2.out.all)
        | ((with_reducible refine wpList_load_rng rfl 26 (.tmp 5) rfl (w.heap.size + 1) 0 rfl dk _ ?_ hu rfl hi.out ?_); exact K2.out)
        | ((with_reducible refine wpList_load_rng rfl 29 (.tmp 6) rfl (w.heap.size + 1 + 1) 0 rfl (acC xa) _ ?_ hua rfl jxa.out ?_); exact P2.out))
      refine (hPS.out _ A0 c0 _ R2.out).mono ?_
      rintro e w3 ⟨A8, c8, rfl, hO, hb⟩
      have T3 := hid (T2.out.bel hb)
      have K3 := hid (rangeBel2 hb K2.out)
      have P3 := hid (rangeBel2 hb P2.out)
      have U3 := hid (rangeBel2 hb U2.out)
      have R3 := hid (R2.out.bel hb)
      have W3 := hid (W2.out.trans (hb.mono W2.out.size))
      clear T2 K2 P2 U2 R2 W2
      have b3 := hid (OwnR.row hO)
      have hiC := hid (show (Try.prog.info? 24).map (·.size) = some ([Value.slice A8 na.length c8, .int .i64 ra]).length from sizeTr)
      clear hb hO hPS
      have e3 := hid (heap_alloc_new w3 (.cells zTrC 24))
      have hiE := hid (show (Try.prog.info? 24).map (·.size) = some ([Value.slice A8 na.length c8, .int .i64 ra]).length from sizeTr)
      go_wp2_with (first
        | (with_reducible refine wpList_alloc_row rfl 24 rfl zTrC zInfoTr ?_)
        | ((with_reducible refine wpList_store_row rfl 24 (.tmp 10) (.tmp 33) rfl _ _ rfl rfl 24 zTrC ?_ ?_ ?_ ?_ ?_); exact e3.out; exact sizeTr; rfl; exact one_trP A8 na.length c8 ra; intro w4 hgS hbS hsS; have X4 := hid (xnewP rfl hbS); have lt4 := hid (block_lt hgS); have E4 := hid (BoxT.of (rangeOf (l := [Value.slice A8 na.length c8, .int .i64 ra]) hgS)); clear hgS hbS hsS; have T4 := hid (T3.out.bel X4.out); have K4 := hid (rangeBel2 X4.out K3.out); have P4 := hid (rangeBel2 X4.out P3.out); have U4 := hid (rangeBel2 X4.out U3.out); have R4 := hid (R3.out.bel X4.out); have W4 := hid (W3.out.trans (X4.out.mono W3.out.size)); have b4 := hid (b3.out.bel X4.out); clear T3 K3 P3 U3 R3 W3 b3)
        | ((with_reducible refine wpList_load_rng ?_ 24 (.tmp 10) rfl w3.heap.size 0 rfl [Value.slice A8 na.length c8, .int .i64 ra] _ ?_ hut rfl hiC.out ?_); rfl; exact E4.out.all)
        | ((with_reducible refine wpList_load_rng rfl 26 (.tmp 5) rfl (w.heap.size + 1) 0 rfl dk _ ?_ hu rfl hi.out ?_); exact K4.out))
      refine (hQ1.out _ A8 c8 _ b4.out).mono ?_
      rintro e w5 ⟨rfl, hb⟩
      have T5 := hid (T4.out.bel hb)
      have K5 := hid (rangeBel2 hb K4.out)
      have P5 := hid (rangeBel2 hb P4.out)
      have U5 := hid (rangeBel2 hb U4.out)
      have R5 := hid (R4.out.bel hb)
      have W5 := hid (W4.out.trans (hb.mono W4.out.size))
      have b5 := hid (b4.out.bel hb)
      have E5 := hid (E4.out.bel hb)
      clear T4 K4 P4 U4 R4 W4 b4 E4
      clear hb hQ1
      have e5 := hid (heap_alloc_new w5 (.cells (acC ac0).toArray 29))
      go_wp2_with (first
        | (with_reducible refine wpList_alloc_row rfl 29 rfl (acC ac0).toArray zInfoAc ?_)
        | ((with_reducible refine wpList_store_row rfl 29 (.tmp 12) (.tmp 54) rfl _ _ rfl rfl 29 (acC ac0).toArray ?_ ?_ ?_ ?_ ?_); exact e5.out; exact sizeAc; rfl; exact nxa.out; intro w6 hgS hbS hsS; have X6 := hid (xnewP rfl hbS); have Q6 := hid (rangeOf (l := acC xa) hgS); clear hgS hbS hsS; have T6 := hid (T5.out.bel X6.out); have K6 := hid (rangeBel2 X6.out K5.out); have P6 := hid (rangeBel2 X6.out P5.out); have U6 := hid (rangeBel2 X6.out U5.out); have R6 := hid (R5.out.bel X6.out); have W6 := hid (W5.out.trans (X6.out.mono W5.out.size)); have b6 := hid (b5.out.bel X6.out); have E6 := hid (E5.out.bel X6.out); clear T5 K5 P5 U5 R5 W5 b5 E5)
        | ((with_reducible refine wpList_load_rng rfl 24 (.tmp 4) rfl w.heap.size 0 rfl [Value.slice A0 ns.length c0, .int .i64 root] _ ?_ hut rfl hiT.out ?_); exact T6.out.all)
        | ((with_reducible refine wpList_load_rng rfl 26 (.tmp 7) rfl (w.heap.size + 1 + 1 + 1) 0 rfl dO _ ?_ hu rfl ho.out ?_); exact U6.out))
      refine (hPG.out _ A0 c0 _ R6.out).mono ?_
      rintro e w7 ⟨rfl, hb⟩
      have T7 := hid (T6.out.bel hb)
      have K7 := hid (rangeBel2 hb K6.out)
      have P7 := hid (rangeBel2 hb P6.out)
      have U7 := hid (rangeBel2 hb U6.out)
      have R7 := hid (R6.out.bel hb)
      have W7 := hid (W6.out.trans (hb.mono W6.out.size))
      have b7 := hid (b6.out.bel hb)
      have E7 := hid (E6.out.bel hb)
      have Q7 := hid (rangeBel2 hb Q6.out)
      clear T6 K6 P6 U6 R6 W6 b6 E6 Q6
      clear hb hPG
      have e7 := hid (heap_alloc_new w7 (.cells (acC ac0).toArray 29))
      go_wp2_with (first
        | (with_reducible refine wpList_alloc_row rfl 29 rfl (acC ac0).toArray zInfoAc ?_)
        | ((with_reducible refine wpList_store_row rfl 29 (.tmp 14) (.tmp 60) rfl _ _ rfl rfl 29 (acC ac0).toArray ?_ ?_ ?_ ?_ ?_); exact e7.out; exact sizeAc; rfl; exact ngc.out; intro w8 hgS hbS hsS; have X8 := hid (xnewP rfl hbS); have Y8 := hid (rangeOf (l := acC gc) hgS); clear hgS hbS hsS; have T8 := hid (T7.out.bel X8.out); have K8 := hid (rangeBel2 X8.out K7.out); have P8 := hid (rangeBel2 X8.out P7.out); have U8 := hid (rangeBel2 X8.out U7.out); have R8 := hid (R7.out.bel X8.out); have W8 := hid (W7.out.trans (X8.out.mono W7.out.size)); have b8 := hid (b7.out.bel X8.out); have E8 := hid (E7.out.bel X8.out); have Q8 := hid (rangeBel2 X8.out Q7.out); clear T7 K7 P7 U7 R7 W7 b7 E7 Q7)
        | ((with_reducible refine wpList_load_rng rfl 24 (.tmp 10) rfl w3.heap.size 0 rfl [Value.slice A8 na.length c8, .int .i64 ra] _ ?_ hut rfl hiC.out ?_); exact E8.out.all)
        | ((with_reducible refine wpList_load_rng rfl 26 (.tmp 7) rfl (w.heap.size + 1 + 1 + 1) 0 rfl dO _ ?_ hu rfl ho.out ?_); exact U8.out))
      refine (hQ2.out _ A8 c8 _ b8.out).mono ?_
      rintro e w9 ⟨rfl, hb⟩
      have T9 := hid (T8.out.bel hb)
      have K9 := hid (rangeBel2 hb K8.out)
      have P9 := hid (rangeBel2 hb P8.out)
      have U9 := hid (rangeBel2 hb U8.out)
      have R9 := hid (R8.out.bel hb)
      have W9 := hid (W8.out.trans (hb.mono W8.out.size))
      have b9 := hid (b8.out.bel hb)
      have E9 := hid (E8.out.bel hb)
      have Q9 := hid (rangeBel2 hb Q8.out)
      have Y9 := hid (rangeBel2 hb Y8.out)
      clear T8 K8 P8 U8 R8 W8 b8 E8 Q8 Y8
      clear hb hQ2
      have e9 := hid (heap_alloc_new w9 (.cells (acC ac0).toArray 29))
      go_wp2_with (first
        | (with_reducible refine wpList_alloc_row rfl 29 rfl (acC ac0).toArray zInfoAc ?_)
        | ((with_reducible refine wpList_store_row rfl 29 (.tmp 16) (.tmp 66) rfl _ _ rfl rfl 29 (acC ac0).toArray ?_ ?_ ?_ ?_ ?_); exact e9.out; exact sizeAc; rfl; exact ngd.out; intro w10 hgS hbS hsS; have X10 := hid (xnewP rfl hbS); have V10 := hid (rangeOf (l := acC gd) hgS); clear hgS hbS hsS; have T10 := hid (T9.out.bel X10.out); have K10 := hid (rangeBel2 X10.out K9.out); have P10 := hid (rangeBel2 X10.out P9.out); have U10 := hid (rangeBel2 X10.out U9.out); have R10 := hid (R9.out.bel X10.out); have W10 := hid (W9.out.trans (X10.out.mono W9.out.size)); have b10 := hid (b9.out.bel X10.out); have E10 := hid (E9.out.bel X10.out); have Q10 := hid (rangeBel2 X10.out Q9.out); have Y10 := hid (rangeBel2 X10.out Y9.out); clear T9 K9 P9 U9 R9 W9 b9 E9 Q9 Y9)
        | ((with_reducible refine wpList_load_rng rfl 24 (.tmp 10) rfl w3.heap.size 0 rfl [Value.slice A8 na.length c8, .int .i64 ra] _ ?_ hut rfl hiC.out ?_); exact E10.out.all)
        | ((with_reducible refine wpList_load_rng rfl 26 (.tmp 5) rfl (w.heap.size + 1) 0 rfl dk _ ?_ hu rfl hi.out ?_); exact K10.out))
      refine (hQ3.out _ A8 c8 _ b10.out).mono ?_
      rintro e w11 ⟨A11, c11, rfl, hO, hb⟩
      have T11 := hid (T10.out.bel hb)
      have K11 := hid (rangeBel2 hb K10.out)
      have P11 := hid (rangeBel2 hb P10.out)
      have U11 := hid (rangeBel2 hb U10.out)
      have R11 := hid (R10.out.bel hb)
      have W11 := hid (W10.out.trans (hb.mono W10.out.size))
      have b11 := hid (b10.out.bel hb)
      have E11 := hid (E10.out.bel hb)
      have Q11 := hid (rangeBel2 hb Q10.out)
      have Y11 := hid (rangeBel2 hb Y10.out)
      have V11 := hid (rangeBel2 hb V10.out)
      clear T10 K10 P10 U10 R10 W10 b10 E10 Q10 Y10 V10
      clear hb hO hQ3
      cases ob with
      | true =>
        go_wp2_with (first
          | ((with_reducible refine wpList_load_rng ?_ 29 (.tmp 12) rfl w5.heap.size 0 rfl (acC xa) _ ?_ hua rfl jxa.out ?_); rfl; exact Q11.out)
          | ((with_reducible refine wpList_load_rng ?_ 29 (.tmp 6) rfl (w.heap.size + 1 + 1) 0 rfl (acC xa) _ ?_ hua rfl jxa.out ?_); rfl; exact P11.out)
          | ((with_reducible refine wpList_load_rng ?_ 26 (.tmp 7) rfl (w.heap.size + 1 + 1 + 1) 0 rfl dO _ ?_ hu rfl ho.out ?_); rfl; exact U11.out)
          | ((with_reducible refine wpList_load_rng ?_ 26 (.tmp 5) rfl (w.heap.size + 1) 0 rfl dk _ ?_ hu rfl hi.out ?_); rfl; exact K11.out)
          | ((with_reducible refine wpList_load_rng ?_ 24 (.tmp 10) rfl w3.heap.size 0 rfl [Value.slice A8 na.length c8, .int .i64 ra] _ ?_ hut rfl hiC.out ?_); rfl; exact E11.out.all)
          | ((with_reducible refine wpList_load_rng ?_ 29 (.tmp 14) rfl w7.heap.size 0 rfl (acC gc) _ ?_ hua rfl jgc.out ?_); rfl; exact Y11.out)
          | ((with_reducible refine wpList_load_rng ?_ 29 (.tmp 16) rfl w9.heap.size 0 rfl (acC gd) _ ?_ hua rfl jgd.out ?_); rfl; exact V11.out))
        refine (hQ4.out _ A8 c8 _ b11.out).mono ?_
        rintro e w12 ⟨rfl, hb⟩
        have T12 := hid (T11.out.bel hb)
        have K12 := hid (rangeBel2 hb K11.out)
        have P12 := hid (rangeBel2 hb P11.out)
        have U12 := hid (rangeBel2 hb U11.out)
        have R12 := hid (R11.out.bel hb)
        have W12 := hid (W11.out.trans (hb.mono W11.out.size))
        have b12 := hid (b11.out.bel hb)
        have E12 := hid (E11.out.bel hb)
        have Q12 := hid (rangeBel2 hb Q11.out)
        have Y12 := hid (rangeBel2 hb Y11.out)
        have V12 := hid (rangeBel2 hb V11.out)
        clear T11 K11 P11 U11 R11 W11 b11 E11 Q11 Y11 V11
        clear hb hQ4
        go_wp2_with (first
          | ((with_reducible refine wpList_load_rng ?_ 29 (.tmp 6) rfl (w.heap.size + 1 + 1) 0 rfl (acC xa) _ ?_ hua rfl jxa.out ?_); rfl; exact P12.out)
          | ((with_reducible refine wpList_built ?_ 29 _ rfl (acC ac0).toArray [] ?_ ?_ ?_); rfl; exact hbz.out; rfl))
        go_ret
        exact ⟨rfl, W12.out⟩
      | false =>
        have hE3 := hE2.out (by first | trivial | rfl)
        go_wp2_with (first
          | ((with_reducible refine wpList_load_rng ?_ 29 (.tmp 12) rfl w5.heap.size 0 rfl (acC xa) _ ?_ hua rfl jxa.out ?_); rfl; exact Q11.out)
          | ((with_reducible refine wpList_load_rng ?_ 29 (.tmp 6) rfl (w.heap.size + 1 + 1) 0 rfl (acC xa) _ ?_ hua rfl jxa.out ?_); rfl; exact P11.out)
          | ((with_reducible refine wpList_load_rng ?_ 26 (.tmp 7) rfl (w.heap.size + 1 + 1 + 1) 0 rfl dO _ ?_ hu rfl ho.out ?_); rfl; exact U11.out)
          | ((with_reducible refine wpList_load_rng ?_ 26 (.tmp 5) rfl (w.heap.size + 1) 0 rfl dk _ ?_ hu rfl hi.out ?_); rfl; exact K11.out)
          | ((with_reducible refine wpList_load_rng ?_ 24 (.tmp 10) rfl w3.heap.size 0 rfl [Value.slice A8 na.length c8, .int .i64 ra] _ ?_ hut rfl hiC.out ?_); rfl; exact E11.out.all)
          | ((with_reducible refine wpList_load_rng ?_ 29 (.tmp 14) rfl w7.heap.size 0 rfl (acC gc) _ ?_ hua rfl jgc.out ?_); rfl; exact Y11.out)
          | ((with_reducible refine wpList_load_rng ?_ 29 (.tmp 16) rfl w9.heap.size 0 rfl (acC gd) _ ?_ hua rfl jgd.out ?_); rfl; exact V11.out))
        refine (hQ4.out _ A8 c8 _ b11.out).mono ?_
        rintro e w12 ⟨rfl, hb⟩
        have T12 := hid (T11.out.bel hb)
        have K12 := hid (rangeBel2 hb K11.out)
        have P12 := hid (rangeBel2 hb P11.out)
        have U12 := hid (rangeBel2 hb U11.out)
        have R12 := hid (R11.out.bel hb)
        have W12 := hid (W11.out.trans (hb.mono W11.out.size))
        have b12 := hid (b11.out.bel hb)
        have E12 := hid (E11.out.bel hb)
        have Q12 := hid (rangeBel2 hb Q11.out)
        have Y12 := hid (rangeBel2 hb Y11.out)
        have V12 := hid (rangeBel2 hb V11.out)
        clear T11 K11 P11 U11 R11 W11 b11 E11 Q11 Y11 V11
        clear hb hQ4
        go_wp2_with (first
          | ((with_reducible refine wpList_load_rng ?_ 29 (.tmp 6) rfl (w.heap.size + 1 + 1) 0 rfl (acC xa) _ ?_ hua rfl jxa.out ?_); rfl; exact P12.out)
          | ((with_reducible refine wpList_built ?_ 29 _ rfl (acC ac0).toArray [] ?_ ?_ ?_); rfl; exact hbz.out; rfl))
        go_ret
        exact ⟨rfl, W12.out⟩

/-! ### THE ROW's STEP: WRITTEN OUT: LEAVE IT -/
set_option maxRecDepth 100000 in
theorem lifted (os : Os) (started : os.Started) (H : Type) (enc : TypeId × Value → H) :
    ReturnsInHanded {} Try.checked os 4 .any (Rows.acctBackSpec.pre6 enc Try.prog Try.f4 Rows.acctBackRow.domain false) (Rows.acctBackSpec.post enc Try.prog Try.f4 false true false false) := by
  refine returnsInHanded_of_change (C := Try.checked) own started (by kernel_rfl) Try.func4
    (ChangeSpec.witness6 (enc := enc) (C := Try.checked) false ⟨#[], #[.agg #[.slice none 0 0, .int .i64 0], .agg z32, .agg #[.int .u64 0, .int .u64 0], .agg z32], []⟩ 8 (by kernel_rfl) (by kernel_rfl) (by kernel_rfl) (by kernel_rfl)) ?_
  intro W base args ds gs before hval0 hW hcnd _
  have hval : ∀ (j : Nat) t v, Try.f4.params[j]? = some t → args[j]? = some v → Value.okWide Try.prog W .any base t v := hval0
  have hW' := hW
  obtain ⟨p, q, hA0, hV, rfl, hfz, hnd⟩ := hW
  have hA : DataW.TrodAll enc Try.prog W 0 (fun _ => true) true Try.f4.params.toList args.toList ds p := hA0
  rw [Try.params4] at hA hval
  obtain ⟨v0, vs0, d0, ds0, p0, q0, hargs, rfl, rfl, h0, r0⟩ := trodAll_cons hA
  obtain ⟨v1, vs1, d1, ds1, p1, q1, rfl, rfl, rfl, h1, r1⟩ := trodAll_cons r0
  obtain ⟨v2, vs2, d2, ds2, p2, q2, rfl, rfl, rfl, h2, r2⟩ := trodAll_cons r1
  obtain ⟨v3, vs3, d3, ds3, p3, q3, rfl, rfl, rfl, h3, r3⟩ := trodAll_cons r2
  obtain ⟨rfl, rfl, rfl⟩ := trodAll_nil r3
  obtain rfl : args = #[v0, v1, v2, v3] := by cases args; simp_all
  obtain ⟨rfl, rfl⟩ := trodVars_none hV
  have k0 := h0
  have lt0 : ∀ x ∈ p0, x.block < W.heap.size := by obtain ⟨m, hm⟩ := k0; exact DataW.trod_lt m _ _ _ hm
  obtain ⟨x0, vs0, rfl, w0⟩ := open_struct opensTr Try.underlying24 (hval 0 24 v0 rfl rfl) h0
  have k1 := h1
  have lt1 : ∀ x ∈ p1, x.block < W.heap.size := by obtain ⟨m, hm⟩ := k1; exact DataW.trod_lt m _ _ _ hm
  obtain ⟨l1, w1, rfl⟩ := open_dig Try.underlying26 Try.underlying5 cellsByte cellsDig (hval 1 26 v1 rfl rfl) h1
  have k2 := h2
  have lt2 : ∀ x ∈ p2, x.block < W.heap.size := by obtain ⟨m, hm⟩ := k2; exact DataW.trod_lt m _ _ _ hm
  obtain ⟨x2, vs2, rfl, w2⟩ := open_struct opensAc Try.underlying29 (hval 2 29 v2 rfl rfl) h2
  have k3 := h3
  have lt3 : ∀ x ∈ p3, x.block < W.heap.size := by obtain ⟨m, hm⟩ := k3; exact DataW.trod_lt m _ _ _ hm
  obtain ⟨l3, w3, rfl⟩ := open_dig Try.underlying26 Try.underlying5 cellsByte cellsDig (hval 3 26 v3 rfl rfl) h3
  clear hA0 hval0
  refine (walk x0 vs0 l1 x2 vs2 l3 W w0 w1 w2 w3).mono fun e W' ⟨he, bel⟩ => ?_
  subst he
  exact ⟨_, rfl, _, _, _, [], _, [], hW', trodAll_mk1 (shut_bool Try.underlying4 _), (trodAll_cons_mk (Below.trod laidOut (by kernel_rfl) (of_decide_eq_true (by kernel_rfl)) k0 bel lt0) (trodAll_cons_mk (Below.trod laidOut (by kernel_rfl) (of_decide_eq_true (by kernel_rfl)) k1 bel lt1) (trodAll_cons_mk (Below.trod laidOut (by kernel_rfl) (of_decide_eq_true (by kernel_rfl)) k2 bel lt2) (trodAll_cons_mk (Below.trod laidOut (by kernel_rfl) (of_decide_eq_true (by kernel_rfl)) k3 bel lt3) trodAll_mk0)))), rfl, bel.frame _, fun h => by cases h⟩

theorem over : Rows.acctBackRow.holds Try.pinned (OpenSpec.ofChange Rows.acctBackSpec) :=
  OpenClaim.holds_of_wide 4 Try.f4 rfl rfl rfl rfl rfl rfl rfl ⟨rfl, rfl, rfl, rfl, rfl⟩ rfl rfl rfl rfl rfl (by kernel_rfl) Try.func4 (by kernel_rfl)
    (of_decide_eq_true (by kernel_rfl)) (by unfold Func.isWrapper; first | (rw [if_pos (by decide +kernel)]; kernel_rfl) | (rw [if_neg (by decide +kernel)]; exact ⟨rfl, rfl⟩))
    (fun os started H enc _ => lifted os started H enc)

/-- ████ THE STATEMENT ████ -/
theorem proved : Rows.AcctBackSaid := over
#print axioms proved
end Go.Proofs.Ytcifncmfjlbhjaa.acctBack
