/-
  The Go function AcctTotal returns true: the total turns by what the account's balance does: any tree, key and account; its arguments read afterwards as before.
  Conditions: none. The frame around the walk was written by program (proof-skeleton.mjs).
-/
import Derived.Test.YtcifncmfjlbhjaaRows
import Derived.WalkKit
import Derived.ProofKit
import Derived.OpenShut
import Derived.ShutString
import Derived.ChangeOld
import Derived.Below
import Derived.Test.YtcifncmfjlbhjaaAcT
import Derived.Test.YtcifncmfjlbhjaaAlive10
import Derived.Test.YtcifncmfjlbhjaaRf6
import Derived.Test.YtcifncmfjlbhjaaTreeB
import Derived.Test.YtcifncmfjlbhjaaAc
namespace Go.Proofs.Ytcifncmfjlbhjaa.acctTotal
open Go.ChangeShapes Go.WideShapes Go.ChangeAt Go.RowKit
open Go.ChangeMaps (open_string shut_string)
set_option linter.unusedVariables false

theorem own : ownKnob Try.prog.godebug = none := by kernel_rfl
theorem laidOut : laidOutB Try.prog = true := by kernel_rfl

/-- WHAT THE WALK IS TOLD OF A SLICE OF INTEGERS THAT CAME IN: it is nil; or it leads to a row of 'cap' cells, the numbers 'zs' (the first 'len' are its elements, the rest its spare room), each fitting its kind. -/
def IsRow (k : IntKind) (w : World) (a : Option Addr) (len cap : Nat) (zs : List Int) : Prop :=
  (a = none ∧ len = 0 ∧ cap = 0 ∧ zs = []) ∨
  ∃ x, a = some x ∧ len ≤ cap ∧ cap ≤ maxLen ∧ zs.length = cap ∧ (∀ i, i < zs.length → w.cell? (x.add i) = some (.int k (zs.getD i 0))) ∧ ∀ n ∈ zs, (Lit.int k n).wf = true

/-! ### the walk -/
open Go.Proofs.Ytcifncmfjlbhjaa
set_option linter.unusedSimpArgs false
set_option maxRecDepth 100000 in
set_option maxHeartbeats 16000000 in
theorem walk (x0 : Tr) (vs0 : List Value) (l1 : List UInt8) (x2 : Ac) (vs2 : List Value) (w : World) (w0 : Enc.rep (fun b => b < w.heap.size) w x0 vs0) (w1 : l1.length = 32) (w2 : Enc.rep (fun b => b < w.heap.size) w x2 vs2) :
    Calls Try.prog 5 #[.agg vs0.toArray, .agg (l1.map bv).toArray, .agg vs2.toArray] w fun e w' => e = .returned (.bool true) ∧ Below w.heap.size w w' := by
  obtain ⟨A0, c0, rfl, hc0, hm0, hr, hI⟩ := rep_tr w0
  obtain ⟨ns, root⟩ := x0
  obtain ⟨k, rfl⟩ : ∃ k : Dg, l1 = k.1 := ⟨⟨l1, w1⟩, rfl⟩
  obtain ⟨rfl, ha⟩ := rep_ac w2
  dsimp only at *
  have hcm : ns.length ≤ 9223372036854775807 := by unfold maxLen at hm0; omega
  obtain ⟨T0, K0, A0_, W0⟩ := boxesTDA w A0 ns.length c0 root k x2 24 26 29
  have hu := Try.underlying26
  have hut := Try.underlying24
  have hua := Try.underlying29
  have hi := hid (sizeDgT k)
  have hiT := hid (show (Try.prog.info? 24).map (·.size) = some ([Value.slice A0 ns.length c0, .int .i64 root]).length from sizeTr)
  have R0 := hid (hr.bel W0)
  obtain ⟨gb, hgb⟩ : ∃ gb, greatT ns 600 = gb := ⟨_, rfl⟩
  have hGr := fun W hW => RGreatT_any (fun b => b < w.heap.size) A0 c0 600 ns root W hW hcm
  rw [hgb] at hGr
  replace hGr := hid hGr
  replace hgb := hid hgb
  have P0 := hid A0_
  replace T0 := hid T0
  replace K0 := hid K0
  replace W0 := hid W0
  clear hr w0 w1 w2 hI A0_
  generalize hdk : k.1.map bv = dk at *
  replace hdk := hid hdk
  generalize x2 = xa at *
  have nxa := hid (one_ac xa)
  have jxa := hid (show (Try.prog.info? 29).map (·.size) = some (acC xa).length from sizeAc)
  have hAl := hid (fun W => alive10_any W)
  go_enter Try.func5, Try.ntmps5
  go_wp2_with fail
  generalize ((w.alloc (.cells #[.slice A0 ns.length c0, .int .i64 root] 24)).alloc (.cells dk.toArray 26)).alloc (.cells (acC xa).toArray 29) = w0 at *
  refine (hAl.out _).mono ?_
  rintro e w1 ⟨rfl, hb⟩
  have T1 := hid (T0.out.bel hb)
  have K1 := hid (rangeBel2 hb K0.out)
  have P1 := hid (rangeBel2 hb P0.out)
  have R1 := hid (R0.out.bel hb)
  have W1 := hid (W0.out.trans (hb.mono W0.out.size))
  clear T0 K0 P0 R0 W0
  clear hb hAl
  go_wp2_with (first
    | ((with_reducible refine wpList_load_rng rfl 24 (.tmp 3) rfl w.heap.size 0 rfl [Value.slice A0 ns.length c0, .int .i64 root] _ ?_ hut rfl hiT.out ?_); exact T1.out.all))
  refine (hGr.out _ R1.out).mono ?_
  rintro e w2 ⟨rfl, hb⟩
  have T2 := hid (T1.out.bel hb)
  have K2 := hid (rangeBel2 hb K1.out)
  have P2 := hid (rangeBel2 hb P1.out)
  have R2 := hid (R1.out.bel hb)
  have W2 := hid (W1.out.trans (hb.mono W1.out.size))
  clear T1 K1 P1 R1 W1
  clear hb hGr
  cases gb with
  | true =>
    go_wp2
    go_ret
    exact ⟨rfl, W2.out⟩
  | false =>
    obtain ⟨hlen, hvs⟩ := greatT_no hgb.out
    clear hgb hvs
    have hPG := fun F A c W hW => PAcGet_any F A c ns root k W hW (by omega)
    have hPS := fun F A c W hW => PAcSet_any F A c ns root k xa W ha hW (by omega)
    have hPT := fun F A c W hW => PAcTotal_any F A c ns root W hW (by omega)
    have hSE : setE ⟨ns, root⟩ k xa = if mayA ⟨ns, root⟩ = true then 0 else 8 := setE_small k (by dsimp only; omega)
    rw [hSE] at hPS
    obtain ⟨m, hm⟩ : ∃ m, mayA ⟨ns, root⟩ = m := ⟨_, rfl⟩
    have hB : m = true → (setT ⟨ns, root⟩ k xa).ns.length ≤ 1000 ∧ mayA (setT ⟨ns, root⟩ k xa) = true ∧ totP (allT (setT ⟨ns, root⟩ k xa)) - xa.b = totP (allT ⟨ns, root⟩) - (getA ⟨ns, root⟩ k).b ∧ (getA ⟨ns, root⟩ k).b ≤ totP (allT ⟨ns, root⟩) ∧ xa.b ≤ totP (allT (setT ⟨ns, root⟩ k xa)) ∧
        totP (allT ⟨ns, root⟩) < 340282366920938463463374607431768211456 ∧ totP (allT (setT ⟨ns, root⟩ k xa)) < 340282366920938463463374607431768211456 := fun h => by
      have hl : (⟨ns, root⟩ : Tr).ns.length ≤ 100000 := by dsimp only; omega
      obtain ⟨t1, t2, -, t4⟩ := setT_spec (k := k) ha (hm.trans h) hl
      have e1 := total_turns (k := k) ha (hm.trans h) hl
      have e2 := tot_has (t := ⟨ns, root⟩) k (hm.trans h)
      dsimp only at t4
      exact ⟨by omega, t1, by omega, e2, by omega, tot_fits (mayA_T (hm.trans h)).1 (by dsimp only; omega), tot_fits t2 (by omega)⟩
    rw [hm] at hPG hPS hPT
    have hok1 : (getA ⟨ns, root⟩ k).ok := by
      unfold getA
      split
      · exact inA_ok _ _
      · exact ac0_ok
    generalize getA ⟨ns, root⟩ k = gc at *
    generalize setT ⟨ns, root⟩ k xa = ta at *
    obtain ⟨na, ra⟩ := ta
    dsimp only at hPS hB
    rw [hdk.out] at hPS hPG
    have ngc := hid (one_ac gc)
    have jgc := hid (show (Try.prog.info? 29).map (·.size) = some (acC gc).length from sizeAc)
    replace hB := hid hB
    clear hm hSE
    cases m with
    | false =>
      simp only [Bool.false_eq_true, if_false] at hPG hPS hPT
      replace hPS := hid hPS
      replace hPG := hid hPG
      clear hPT hB
      go_wp2_with (first
        | ((with_reducible refine wpList_load_rng rfl 24 (.tmp 3) rfl w.heap.size 0 rfl [Value.slice A0 ns.length c0, .int .i64 root] _ ?_ hut rfl hiT.out ?_); exact T2.out.all)
        | ((with_reducible refine wpList_load_rng rfl 26 (.tmp 4) rfl (w.heap.size + 1) 0 rfl dk _ ?_ hu rfl hi.out ?_); exact K2.out)
        | ((with_reducible refine wpList_load_rng rfl 29 (.tmp 5) rfl (w.heap.size + 1 + 1) 0 rfl (acC xa) _ ?_ hua rfl jxa.out ?_); exact P2.out))
      refine (hPS.out _ A0 c0 _ R2.out).mono ?_
      rintro e w3 ⟨A8, c8, rfl, hO, hb⟩
      have T3 := hid (T2.out.bel hb)
      have K3 := hid (rangeBel2 hb K2.out)
      have P3 := hid (rangeBel2 hb P2.out)
      have R3 := hid (R2.out.bel hb)
      have W3 := hid (W2.out.trans (hb.mono W2.out.size))
      clear T2 K2 P2 R2 W2
      clear hb hO hPS
      have e3 := hid (heap_alloc_new w3 (.cells zTrC 24))
      have hiE := hid (show (Try.prog.info? 24).map (·.size) = some ([Value.slice A8 na.length c8, .int .i64 ra]).length from sizeTr)
      go_wp2_with (first
        | (with_reducible refine wpList_alloc_row rfl 24 rfl zTrC zInfoTr ?_)
        | ((with_reducible refine wpList_store_row rfl 24 (.tmp 8) (.tmp 33) rfl _ _ rfl rfl 24 zTrC ?_ ?_ ?_ ?_ ?_); exact e3.out; exact sizeTr; rfl; exact one_trP A8 na.length c8 ra; intro w4 hgS hbS hsS; have X4 := hid (xnewP rfl hbS); have lt4 := hid (block_lt hgS); have E4 := hid (BoxT.of (rangeOf (l := [Value.slice A8 na.length c8, .int .i64 ra]) hgS)); clear hgS hbS hsS; have T4 := hid (T3.out.bel X4.out); have K4 := hid (rangeBel2 X4.out K3.out); have P4 := hid (rangeBel2 X4.out P3.out); have R4 := hid (R3.out.bel X4.out); have W4 := hid (W3.out.trans (X4.out.mono W3.out.size)); clear T3 K3 P3 R3 W3)
        | ((with_reducible refine wpList_load_rng rfl 24 (.tmp 3) rfl w.heap.size 0 rfl [Value.slice A0 ns.length c0, .int .i64 root] _ ?_ hut rfl hiT.out ?_); exact T4.out.all)
        | ((with_reducible refine wpList_load_rng rfl 26 (.tmp 4) rfl (w.heap.size + 1) 0 rfl dk _ ?_ hu rfl hi.out ?_); exact K4.out))
      refine (hPG.out _ A0 c0 _ R4.out).mono ?_
      rintro e w5 ⟨rfl, hb⟩
      have T5 := hid (T4.out.bel hb)
      have K5 := hid (rangeBel2 hb K4.out)
      have P5 := hid (rangeBel2 hb P4.out)
      have R5 := hid (R4.out.bel hb)
      have W5 := hid (W4.out.trans (hb.mono W4.out.size))
      have E5 := hid (E4.out.bel hb)
      clear T4 K4 P4 R4 W4 E4
      clear hb hPG
      have e5 := hid (heap_alloc_new w5 (.cells (acC ac0).toArray 29))
      go_wp2_with (first
        | (with_reducible refine wpList_alloc_row rfl 29 rfl (acC ac0).toArray zInfoAc ?_)
        | ((with_reducible refine wpList_store_row rfl 29 (.tmp 10) (.tmp 39) rfl _ _ rfl rfl 29 (acC ac0).toArray ?_ ?_ ?_ ?_ ?_); exact e5.out; exact sizeAc; rfl; exact ngc.out; intro w6 hgS hbS hsS; have X6 := hid (xnewP rfl hbS); have Q6 := hid (rangeOf (l := acC gc) hgS); clear hgS hbS hsS; have T6 := hid (T5.out.bel X6.out); have K6 := hid (rangeBel2 X6.out K5.out); have P6 := hid (rangeBel2 X6.out P5.out); have R6 := hid (R5.out.bel X6.out); have W6 := hid (W5.out.trans (X6.out.mono W5.out.size)); have E6 := hid (E5.out.bel X6.out); clear T5 K5 P5 R5 W5 E5))
      go_ret
      exact ⟨rfl, W6.out⟩
    | true =>
      simp only [if_true] at hPG hPS hPT
      obtain ⟨hnl, hma, hD, hle1, hle2, hf1, hf2⟩ := hB.out (by first | trivial | rfl)
      have hQT := fun F A c W hW => PAcTotal_any F A c na ra W hW (by omega)
      rw [hma] at hQT
      simp only [if_true] at hQT
      obtain ⟨x1, x2, x3⟩ := tot_less (totP (allT ⟨ns, root⟩)) gc.b hok1.2 hle1 hf1
      obtain ⟨y1, y2, y3⟩ := tot_less (totP (allT ⟨na, ra⟩)) xa.b ha.2 hle2 hf2
      rw [hD] at y1 y2 y3
      unfold totH totL at hPT hQT
      generalize (totP (allT ⟨ns, root⟩) - gc.b) / 18446744073709551616 = dh at *
      generalize (totP (allT ⟨ns, root⟩) - gc.b) % 18446744073709551616 = dl at *
      generalize totP (allT ⟨ns, root⟩) / 18446744073709551616 = ph at *
      generalize totP (allT ⟨ns, root⟩) % 18446744073709551616 = pl at *
      generalize totP (allT ⟨na, ra⟩) / 18446744073709551616 = rh at *
      generalize totP (allT ⟨na, ra⟩) % 18446744073709551616 = rl at *
      obtain ⟨gbI, hgI⟩ : ∃ x : Int, (gc.b : Int) = x := ⟨_, rfl⟩
      obtain ⟨abI, haI⟩ : ∃ x : Int, (xa.b : Int) = x := ⟨_, rfl⟩
      obtain ⟨b1, hb1⟩ : ∃ b, decide ((pl : Int) < (gc.b : Int)) = b := ⟨_, rfl⟩
      obtain ⟨b2, hb2⟩ : ∃ b, decide ((rl : Int) < (xa.b : Int)) = b := ⟨_, rfl⟩
      have x4 : b1 = true → IntKind.u64.wrap ((ph : Int) - 1) = (dh : Int) := fun h => x2 (by rw [h] at hb1; have := of_decide_eq_true hb1; omega)
      have x5 : b1 = false → (ph : Int) = (dh : Int) := fun h => congrArg _ (x3 (by rw [h] at hb1; have := of_decide_eq_false hb1; omega))
      have y4 : b2 = true → IntKind.u64.wrap ((rh : Int) - 1) = (dh : Int) := fun h => y2 (by rw [h] at hb2; have := of_decide_eq_true hb2; omega)
      have y5 : b2 = false → (rh : Int) = (dh : Int) := fun h => congrArg _ (y3 (by rw [h] at hb2; have := of_decide_eq_false hb2; omega))
      rw [hgI] at x1 hb1
      rw [haI] at y1 hb2
      clear x2 x3 y2 y3
      generalize (dh : Int) = dhI at *
      generalize (dl : Int) = dlI at *
      generalize (ph : Int) = phI at *
      generalize (pl : Int) = plI at *
      generalize (rh : Int) = rhI at *
      generalize (rl : Int) = rlI at *
      replace hgI := hid hgI
      replace haI := hid haI
      replace x4 := hid x4
      replace x5 := hid x5
      replace y4 := hid y4
      replace y5 := hid y5
      replace hPG := hid hPG
      replace hPS := hid hPS
      replace hPT := hid hPT
      replace hQT := hid hQT
      clear hB hma hD hle1 hle2 hf1 hf2
      go_wp2_with (first
        | ((with_reducible refine wpList_load_rng rfl 24 (.tmp 3) rfl w.heap.size 0 rfl [Value.slice A0 ns.length c0, .int .i64 root] _ ?_ hut rfl hiT.out ?_); exact T2.out.all)
        | ((with_reducible refine wpList_load_rng rfl 26 (.tmp 4) rfl (w.heap.size + 1) 0 rfl dk _ ?_ hu rfl hi.out ?_); exact K2.out)
        | ((with_reducible refine wpList_load_rng rfl 29 (.tmp 5) rfl (w.heap.size + 1 + 1) 0 rfl (acC xa) _ ?_ hua rfl jxa.out ?_); exact P2.out))
      refine (hPS.out _ A0 c0 _ R2.out).mono ?_
      rintro e w3 ⟨A8, c8, rfl, hO, hb⟩
      have T3 := hid (T2.out.bel hb)
      have K3 := hid (rangeBel2 hb K2.out)
      have P3 := hid (rangeBel2 hb P2.out)
      have R3 := hid (R2.out.bel hb)
      have W3 := hid (W2.out.trans (hb.mono W2.out.size))
      clear T2 K2 P2 R2 W2
      have b3 := hid (OwnR.row hO)
      have hiC := hid (show (Try.prog.info? 24).map (·.size) = some ([Value.slice A8 na.length c8, .int .i64 ra]).length from sizeTr)
      clear hb hO hPS
      have e3 := hid (heap_alloc_new w3 (.cells zTrC 24))
      have hiE := hid (show (Try.prog.info? 24).map (·.size) = some ([Value.slice A8 na.length c8, .int .i64 ra]).length from sizeTr)
      go_wp2_with (first
        | (with_reducible refine wpList_alloc_row rfl 24 rfl zTrC zInfoTr ?_)
        | ((with_reducible refine wpList_store_row rfl 24 (.tmp 8) (.tmp 33) rfl _ _ rfl rfl 24 zTrC ?_ ?_ ?_ ?_ ?_); exact e3.out; exact sizeTr; rfl; exact one_trP A8 na.length c8 ra; intro w4 hgS hbS hsS; have X4 := hid (xnewP rfl hbS); have lt4 := hid (block_lt hgS); have E4 := hid (BoxT.of (rangeOf (l := [Value.slice A8 na.length c8, .int .i64 ra]) hgS)); clear hgS hbS hsS; have T4 := hid (T3.out.bel X4.out); have K4 := hid (rangeBel2 X4.out K3.out); have P4 := hid (rangeBel2 X4.out P3.out); have R4 := hid (R3.out.bel X4.out); have W4 := hid (W3.out.trans (X4.out.mono W3.out.size)); have b4 := hid (b3.out.bel X4.out); clear T3 K3 P3 R3 W3 b3)
        | ((with_reducible refine wpList_load_rng rfl 24 (.tmp 3) rfl w.heap.size 0 rfl [Value.slice A0 ns.length c0, .int .i64 root] _ ?_ hut rfl hiT.out ?_); exact T4.out.all)
        | ((with_reducible refine wpList_load_rng rfl 26 (.tmp 4) rfl (w.heap.size + 1) 0 rfl dk _ ?_ hu rfl hi.out ?_); exact K4.out))
      refine (hPG.out _ A0 c0 _ R4.out).mono ?_
      rintro e w5 ⟨rfl, hb⟩
      have T5 := hid (T4.out.bel hb)
      have K5 := hid (rangeBel2 hb K4.out)
      have P5 := hid (rangeBel2 hb P4.out)
      have R5 := hid (R4.out.bel hb)
      have W5 := hid (W4.out.trans (hb.mono W4.out.size))
      have b5 := hid (b4.out.bel hb)
      have E5 := hid (E4.out.bel hb)
      clear T4 K4 P4 R4 W4 b4 E4
      clear hb hPG
      have e5 := hid (heap_alloc_new w5 (.cells (acC ac0).toArray 29))
      go_wp2_with (first
        | (with_reducible refine wpList_alloc_row rfl 29 rfl (acC ac0).toArray zInfoAc ?_)
        | ((with_reducible refine wpList_store_row rfl 29 (.tmp 10) (.tmp 39) rfl _ _ rfl rfl 29 (acC ac0).toArray ?_ ?_ ?_ ?_ ?_); exact e5.out; exact sizeAc; rfl; exact ngc.out; intro w6 hgS hbS hsS; have X6 := hid (xnewP rfl hbS); have Q6 := hid (rangeOf (l := acC gc) hgS); clear hgS hbS hsS; have T6 := hid (T5.out.bel X6.out); have K6 := hid (rangeBel2 X6.out K5.out); have P6 := hid (rangeBel2 X6.out P5.out); have R6 := hid (R5.out.bel X6.out); have W6 := hid (W5.out.trans (X6.out.mono W5.out.size)); have b6 := hid (b5.out.bel X6.out); have E6 := hid (E5.out.bel X6.out); clear T5 K5 P5 R5 W5 b5 E5)
        | ((with_reducible refine wpList_load_rng rfl 24 (.tmp 3) rfl w.heap.size 0 rfl [Value.slice A0 ns.length c0, .int .i64 root] _ ?_ hut rfl hiT.out ?_); exact T6.out.all))
      refine (hPT.out _ A0 c0 _ R6.out).mono ?_
      rintro e w7 ⟨rfl, hb⟩
      have T7 := hid (T6.out.bel hb)
      have K7 := hid (rangeBel2 hb K6.out)
      have P7 := hid (rangeBel2 hb P6.out)
      have R7 := hid (R6.out.bel hb)
      have W7 := hid (W6.out.trans (hb.mono W6.out.size))
      have b7 := hid (b6.out.bel hb)
      have E7 := hid (E6.out.bel hb)
      have Q7 := hid (rangeBel2 hb Q6.out)
      clear T6 K6 P6 R6 W6 b6 E6 Q6
      clear hb hPT
      go_wp2_with (first
        | ((with_reducible refine wpList_load_rng rfl 24 (.tmp 8) rfl w3.heap.size 0 rfl [Value.slice A8 na.length c8, .int .i64 ra] _ ?_ hut rfl hiC.out ?_); exact E7.out.all))
      refine (hQT.out _ A8 c8 _ b7.out).mono ?_
      rintro e w8 ⟨rfl, hb⟩
      have T8 := hid (T7.out.bel hb)
      have K8 := hid (rangeBel2 hb K7.out)
      have P8 := hid (rangeBel2 hb P7.out)
      have R8 := hid (R7.out.bel hb)
      have W8 := hid (W7.out.trans (hb.mono W7.out.size))
      have b8 := hid (b7.out.bel hb)
      have E8 := hid (E7.out.bel hb)
      have Q8 := hid (rangeBel2 hb Q7.out)
      clear T7 K7 P7 R7 W7 b7 E7 Q7
      clear hb hQT
      have k8 : w8.cell? ⟨w5.heap.size, 1, none⟩ = some (.int .u64 gbI) := hgI.out ▸ Q8.out 1 _ rfl
      have l8 : w8.cell? ⟨w.heap.size + 1 + 1, 1, none⟩ = some (.int .u64 abI) := haI.out ▸ P8.out 1 _ rfl
      go_wp2
      refine wp_region_noPanic ?_
      refine wp_region_held_drew (S := fun w' => Below w8.heap.size w8 w') (by kernel_rfl) ?_ (fun hHeld => ?_)
      · exact bel_drew w8
      refine' wpAnyH_take (i := 0) (oi := _) (v := ?_) rfl (by kernel_rfl) (by kernel_rfl) (by kernel_rfl) (fun _ _ _ h => h) (Or.inl ⟨by rfl, ?_⟩) (by assumption) ?_
      rotate_left
      · intro W hSw
        go_simp
        first | done | (with_reducible rfl)
      try simp only [Act.put, sQa, sQb, sQc, gQa, gQb, gQc]
      refine' wpAnyH_take (i := 1) (oi := _) (v := ?_) rfl (by kernel_rfl) (by kernel_rfl) (by kernel_rfl) (fun _ _ _ h => h) (Or.inl ⟨by rfl, ?_⟩) (by assumption) ?_
      rotate_left
      · intro W hSw
        go_simp
        first | done | (with_reducible rfl)
      try simp only [Act.put, sQa, sQb, sQc, gQa, gQb, gQc]
      refine' wpAnyH_take (i := 2) (oi := _) (v := ?_) rfl (by kernel_rfl) (by kernel_rfl) (by kernel_rfl) (fun _ _ _ h => h) (Or.inl ⟨by rfl, ?_⟩) (by assumption) ?_
      rotate_left
      · intro W hSw
        have hCell := (hSw.cell (World.block_lt_of_cell? _ _ k8)).trans k8
        go_simp
        first | done | (with_reducible rfl)
      try simp only [Act.put, sQa, sQb, sQc, gQa, gQb, gQc]
      refine' wpAnyH_take (i := 3) (oi := _) (v := ?_) rfl (by kernel_rfl) (by kernel_rfl) (by kernel_rfl) (fun _ _ _ h => h) (Or.inl ⟨by rfl, ?_⟩) (by assumption) ?_
      rotate_left
      · intro W hSw
        go_simp
        first | done | (with_reducible rfl)
      try simp only [Act.put, sQa, sQb, sQc, gQa, gQb, gQc]
      refine' wpAnyH_take (i := 4) (oi := _) (v := ?_) rfl (by kernel_rfl) (by kernel_rfl) (by kernel_rfl) (fun _ _ _ h => h) (Or.inl ⟨by rfl, ?_⟩) (by assumption) ?_
      rotate_left
      · intro W hSw
        go_simp
        first | done | (with_reducible rfl)
      try simp only [Act.put, sQa, sQb, sQc, gQa, gQb, gQc]
      refine' wpAnyH_take (i := 5) (oi := _) (v := ?_) rfl (by kernel_rfl) (by kernel_rfl) (by kernel_rfl) (fun _ _ _ h => h) (Or.inl ⟨by rfl, ?_⟩) (by assumption) ?_
      rotate_left
      · intro W hSw
        go_simp
        first | done | (with_reducible rfl)
      try simp only [Act.put, sQa, sQb, sQc, gQa, gQb, gQc]
      refine' wpAnyH_take (i := 6) (oi := _) (v := ?_) rfl (by kernel_rfl) (by kernel_rfl) (by kernel_rfl) (fun _ _ _ h => h) (Or.inl ⟨by rfl, ?_⟩) (by assumption) ?_
      rotate_left
      · intro W hSw
        have hCell := (hSw.cell (World.block_lt_of_cell? _ _ l8)).trans l8
        go_simp
        first | done | (with_reducible rfl)
      try simp only [Act.put, sQa, sQb, sQc, gQa, gQb, gQc]
      refine' wpAnyH_take (i := 7) (oi := _) (v := ?_) rfl (by kernel_rfl) (by kernel_rfl) (by kernel_rfl) (fun _ _ _ h => h) (Or.inl ⟨by rfl, ?_⟩) (by assumption) ?_
      rotate_left
      · intro W hSw
        go_simp
        first | done | (with_reducible rfl)
      try simp only [Act.put, sQa, sQb, sQc, gQa, gQb, gQc]
      refine' wpAnyH_take (i := 8) (oi := _) (v := ?_) rfl (by kernel_rfl) (by kernel_rfl) (by kernel_rfl) (fun _ _ _ h => h) (Or.inl ⟨by rfl, ?_⟩) (by assumption) ?_
      rotate_left
      · intro W hSw
        go_simp
        first | done | (with_reducible rfl)
      try simp only [Act.put, sQa, sQb, sQc, gQa, gQb, gQc]
      refine' wpAnyH_take (i := 9) (oi := _) (v := ?_) rfl (by kernel_rfl) (by kernel_rfl) (by kernel_rfl) (fun _ _ _ h => h) (Or.inl ⟨by rfl, ?_⟩) (by assumption) ?_
      rotate_left
      · intro W hSw
        go_simp
        first | done | (with_reducible rfl)
      try simp only [Act.put, sQa, sQb, sQc, gQa, gQb, gQc]
      refine wpAnyH_done (by kernel_rfl) ?_ _
      refine NoPanic.normal ?_
      have k9 := (hHeld.cell (p := ⟨w5.heap.size, 1, none⟩) (World.block_lt_of_cell? _ _ k8)).trans k8
      have l9 := (hHeld.cell (p := ⟨w.heap.size + 1 + 1, 1, none⟩) (World.block_lt_of_cell? _ _ l8)).trans l8
      clear k8 l8
      cases b1
      · have x6 := x5.out (by first | trivial | rfl)
        cases b2
        · have y6 := y5.out (by first | trivial | rfl)
          go_wp2
          go_ret
          exact ⟨rfl, W8.out.trans (hHeld.mono W8.out.size)⟩
        · have y6 := y4.out (by first | trivial | rfl)
          go_wp2
          go_ret
          exact ⟨rfl, W8.out.trans (hHeld.mono W8.out.size)⟩
      · have x6 := x4.out (by first | trivial | rfl)
        cases b2
        · have y6 := y5.out (by first | trivial | rfl)
          go_wp2
          go_ret
          exact ⟨rfl, W8.out.trans (hHeld.mono W8.out.size)⟩
        · have y6 := y4.out (by first | trivial | rfl)
          go_wp2
          go_ret
          exact ⟨rfl, W8.out.trans (hHeld.mono W8.out.size)⟩

/-! ### THE ROW's STEP: WRITTEN OUT: LEAVE IT -/
set_option maxRecDepth 100000 in
theorem lifted (os : Os) (started : os.Started) (H : Type) (enc : TypeId × Value → H) :
    ReturnsInHanded {} Try.checked os 5 .any (Rows.acctTotalSpec.pre6 enc Try.prog Try.f5 Rows.acctTotalRow.domain false) (Rows.acctTotalSpec.post enc Try.prog Try.f5 false true false false) := by
  refine returnsInHanded_of_change (C := Try.checked) own started (by kernel_rfl) Try.func5
    (ChangeSpec.witness6 (enc := enc) (C := Try.checked) false ⟨#[], #[.agg #[.slice none 0 0, .int .i64 0], .agg z32, .agg #[.int .u64 0, .int .u64 0]], []⟩ 8 (by kernel_rfl) (by kernel_rfl) (by kernel_rfl) (by kernel_rfl)) ?_
  intro W base args ds gs before hval0 hW hcnd _
  have hval : ∀ (j : Nat) t v, Try.f5.params[j]? = some t → args[j]? = some v → Value.okWide Try.prog W .any base t v := hval0
  have hW' := hW
  obtain ⟨p, q, hA0, hV, rfl, hfz, hnd⟩ := hW
  have hA : DataW.TrodAll enc Try.prog W 0 (fun _ => true) true Try.f5.params.toList args.toList ds p := hA0
  rw [Try.params5] at hA hval
  obtain ⟨v0, vs0, d0, ds0, p0, q0, hargs, rfl, rfl, h0, r0⟩ := trodAll_cons hA
  obtain ⟨v1, vs1, d1, ds1, p1, q1, rfl, rfl, rfl, h1, r1⟩ := trodAll_cons r0
  obtain ⟨v2, vs2, d2, ds2, p2, q2, rfl, rfl, rfl, h2, r2⟩ := trodAll_cons r1
  obtain ⟨rfl, rfl, rfl⟩ := trodAll_nil r2
  obtain rfl : args = #[v0, v1, v2] := by cases args; simp_all
  obtain ⟨rfl, rfl⟩ := trodVars_none hV
  have k0 := h0
  have lt0 : ∀ x ∈ p0, x.block < W.heap.size := by obtain ⟨m, hm⟩ := k0; exact DataW.trod_lt m _ _ _ hm
  obtain ⟨x0, vs0, rfl, w0⟩ := open_struct opensTr Try.underlying24 (hval 0 24 v0 rfl rfl) h0
  have k1 := h1
  have lt1 : ∀ x ∈ p1, x.block < W.heap.size := by obtain ⟨m, hm⟩ := k1; exact DataW.trod_lt m _ _ _ hm
  obtain ⟨l1, w1, rfl⟩ := open_dig Try.underlying26 Try.underlying5 cellsByte cellsDig (hval 1 26 v1 rfl rfl) h1
  have k2 := h2
  have lt2 : ∀ x ∈ p2, x.block < W.heap.size := by obtain ⟨m, hm⟩ := k2; exact DataW.trod_lt m _ _ _ hm
  obtain ⟨x2, vs2, rfl, w2⟩ := open_struct opensAc Try.underlying29 (hval 2 29 v2 rfl rfl) h2
  clear hA0 hval0
  refine (walk x0 vs0 l1 x2 vs2 W w0 w1 w2).mono fun e W' ⟨he, bel⟩ => ?_
  subst he
  exact ⟨_, rfl, _, _, _, [], _, [], hW', trodAll_mk1 (shut_bool Try.underlying4 _), (trodAll_cons_mk (Below.trod laidOut (by kernel_rfl) (of_decide_eq_true (by kernel_rfl)) k0 bel lt0) (trodAll_cons_mk (Below.trod laidOut (by kernel_rfl) (of_decide_eq_true (by kernel_rfl)) k1 bel lt1) (trodAll_cons_mk (Below.trod laidOut (by kernel_rfl) (of_decide_eq_true (by kernel_rfl)) k2 bel lt2) trodAll_mk0))), rfl, bel.frame _, fun h => by cases h⟩

theorem over : Rows.acctTotalRow.holds Try.pinned (OpenSpec.ofChange Rows.acctTotalSpec) :=
  OpenClaim.holds_of_wide 5 Try.f5 rfl rfl rfl rfl rfl rfl rfl ⟨rfl, rfl, rfl, rfl, rfl⟩ rfl rfl rfl rfl rfl (by kernel_rfl) Try.func5 (by kernel_rfl)
    (of_decide_eq_true (by kernel_rfl)) (by unfold Func.isWrapper; first | (rw [if_pos (by decide +kernel)]; kernel_rfl) | (rw [if_neg (by decide +kernel)]; exact ⟨rfl, rfl⟩))
    (fun os started H enc _ => lifted os started H enc)

/-- ████ THE STATEMENT ████ -/
theorem proved : Rows.AcctTotalSaid := over
#print axioms proved
end Go.Proofs.Ytcifncmfjlbhjaa.acctTotal
