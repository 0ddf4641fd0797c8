/-
  The Go function TxBack returns true: a signed transaction's bytes tell it; what is read has these bytes: any one, and bytes; its arguments read afterwards as before.
  Conditions: none. The frame around the walk was written by program (proof-skeleton.mjs).
-/
import Derived.Test.YtaegdiggmgifiaaDoorRows
import Derived.Test.YtaegdiggmgifiaaDoorDoor
import Derived.WalkKit
import Derived.ProofKit
import Derived.OpenShut
import Derived.ShutString
import Derived.ChangeOld
import Derived.Below
import Derived.Test.YtaegdiggmgifiaaDoorTxG
import Derived.Test.YtaegdiggmgifiaaDoorTxQ
import Derived.Test.YtaegdiggmgifiaaDoorAlive11
import Derived.Test.YtaegdiggmgifiaaDoorBits
namespace Go.Proofs.YtaegdiggmgifiaaDoor.txBack
open Go.ChangeShapes Go.WideShapes Go.ChangeAt Go.RowKit
open Go.ChangeMaps (open_string shut_string)
set_option linter.unusedVariables false

theorem own : ownKnob Tryd.prog.godebug = none := by kernel_rfl
theorem laidOut : laidOutB Tryd.prog = true := by kernel_rfl

/-- WHAT THE WALK IS TOLD OF A SLICE OF INTEGERS THAT CAME IN: it is nil; or it leads to a row of 'cap' cells, the numbers 'zs' (the first 'len' are its elements, the rest its spare room), each fitting its kind. -/
def IsRow (k : IntKind) (w : World) (a : Option Addr) (len cap : Nat) (zs : List Int) : Prop :=
  (a = none ∧ len = 0 ∧ cap = 0 ∧ zs = []) ∨
  ∃ x, a = some x ∧ len ≤ cap ∧ cap ≤ maxLen ∧ zs.length = cap ∧ (∀ i, i < zs.length → w.cell? (x.add i) = some (.int k (zs.getD i 0))) ∧ ∀ n ∈ zs, (Lit.int k n).wf = true

/-! ### the walk -/
open Go.Proofs.YtaegdiggmgifiaaDoor
set_option linter.unusedSimpArgs false
set_option maxRecDepth 100000 in
set_option maxHeartbeats 8000000 in
theorem walk (x0 : Tx) (vs0 : List Value) (a1 : Option Addr) (len1 cap1 : Nat) (z1 : List Int) (w : World) (w0 : Enc.rep (fun b => b < w.heap.size) w x0 vs0) (w1 : IsRow .u8 w a1 len1 cap1 z1) (hT : Tab w) :
    Calls Tryd.prog 6 #[.agg vs0.toArray, .slice a1 len1 cap1] w fun e w' => e = .returned (.bool true) ∧ Below w.heap.size w w' := by
  obtain ⟨rfl, hx⟩ := rep_tx w0
  obtain ⟨b, rfl, hv, hvd, hdm⟩ := rd_of_row w1
  have hbl : b.length ≤ 9223372036854775807 := by unfold maxLen at hdm; omega
  have hux := Tryd.underlying26
  have P0 := hid (rangeOf (heap_alloc_new w (.cells (txC x0).toArray 26)))
  have W0 := hid (ext_alloc w (.cells (txC x0).toArray 26))
  have V0 := hid (hv.bel W0.out)
  have H0 := hid (hT.bel W0.out hT.low)
  have hlow := hid hT.low
  have hAl := hid (fun W hT => alive11_any W hT)
  clear hv hT w0 w1
  by_cases h300 : 300 < b.length
  · have q1 : decide ((300 : Int) < (b.length : Int)) = true := decide_eq_true (by omega)
    generalize txC x0 = cx at *
    go_enter Tryd.func6, Tryd.ntmps6
    go_wp2_with fail
    refine (hAl.out _ H0.out).mono ?_
    rintro e w1 ⟨rfl, hb⟩
    have W1 := hid (W0.out.trans (hb.mono W0.out.size))
    go_wp2
    go_ret
    exact ⟨rfl, W1.out⟩
  have q1 : decide ((300 : Int) < (b.length : Int)) = false := decide_eq_false (by omega)
  obtain ⟨b1, hb1⟩ : ∃ b1, decide (x0 = signX x0) = b1 := ⟨_, rfl⟩
  obtain ⟨R1, R2⟩ := read_any hx hb1
  obtain ⟨S1, S2⟩ := read_any (sign_ok hx) (signed_all x0)
  rw [if_pos rfl] at S1 S2
  have hSg := hid (fun W hT => PTxSign_any x0 hx W hT)
  have hBs := hid (fun W => PTxBytes_any (signX x0) (sign_ok hx) W)
  have hBx := hid (fun W => PTxBytes_any x0 hx W)
  have hCx := hid (fun W hT => PTxCheck_any x0 hx b1 hb1 W hT)
  have hRs := fun A c W (g1 : Rd W A (bytesX (signX x0))) (g2 : (bytesX (signX x0)).length ≤ c) (g3 : c ≤ maxLen) hT => PTxRead_any A c (bytesX (signX x0)) W g1 g2 g3 hT
  rw [S1, S2, bytesX_len] at hRs
  have hRx := fun A c W (g1 : Rd W A (bytesX x0)) (g2 : (bytesX x0).length ≤ c) (g3 : c ≤ maxLen) hT => PTxRead_any A c (bytesX x0) W g1 g2 g3 hT
  rw [R1, R2, bytesX_len] at hRx
  have hRb := hid (fun W (g1 : Rd W a1 b) hT => PTxRead_any a1 cap1 b W g1 hvd hdm hT)
  replace hRs := hid hRs
  replace hRx := hid hRx
  have hEs : ∀ W, (Op.equalIn 10000 26 (.agg (txC (signX x0)).toArray) (.agg (txC (signX x0)).toArray)).run Tryd.prog W = .ok true W := fun W => eqtx_is (signX x0) (signX x0) (sign_ok hx) (sign_ok hx) true (decide_eq_true rfl) W
  have hEx : ∀ W, (Op.equalIn 10000 26 (.agg (txC x0).toArray) (.agg (txC x0).toArray)).run Tryd.prog W = .ok true W := fun W => eqtx_is x0 x0 hx hx true (decide_eq_true rfl) W
  have hZ := hid (fun h => read_zero (l := b) h)
  have hE := hid (fun h => read_err (l := b) h)
  have hok := hid (readX_ok b)
  have ngx := hid (one_tx (readX b))
  have jgx := hid (sizeTx (readX b))
  have agx := hid (sizeTxA (readX b))
  have zgx := hid (zSizeTx (readX b))
  obtain ⟨gx, hgx⟩ : ∃ y, readX b = y := ⟨_, rfl⟩
  rw [hgx] at ngx jgx agx zgx
  have nsx := hid (one_tx (signX x0))
  have jsx := hid (sizeTx (signX x0))
  have asx := hid (sizeTxA (signX x0))
  have zsx := hid (zSizeTx (signX x0))
  obtain ⟨sx, hsx⟩ : ∃ y, signX x0 = y := ⟨_, rfl⟩
  rw [hsx] at nsx jsx asx zsx
  rw [hgx] at hRb hZ hE hok
  rw [hsx] at hSg hBs hRs hEs
  clear hgx hsx S1 S2 R1 R2 hb1
  have hvs := hid (bytesX_len sx)
  have hvx := hid (bytesX_len x0)
  generalize readXE b = ge at *
  generalize bytesX sx = vs at *
  generalize bytesX x0 = vx at *
  have zok := zX_okq
  obtain ⟨yx, hyx⟩ : ∃ yx, (if b1 = true then x0 else zX) = yx := ⟨_, rfl⟩
  have hyt : Hid (b1 = true → yx = x0) := hid (fun h => by rw [← hyx, if_pos h])
  rw [hyx] at hRx
  clear hyx
  have nyx := hid (one_tx yx)
  have jyx := hid (sizeTx yx)
  have ayx := hid (sizeTxA yx)
  have zyx := hid (zSizeTx yx)
  have jx0 := hid (sizeTx x0)
  have bsl := hid (show vs.length = 120 from hvs.out)
  have bxl := hid (show vx.length = 120 from hvx.out)
  clear hvs hvx
  by_cases hg : ge = 0
  · obtain ⟨h120, hby, hds⟩ := hZ.out hg
    subst hg
    have hBq := hid (fun W => PTxBytes_any gx hok.out W)
    have hCq := hid (fun W hT => PTxCheck_any gx hok.out true hds W hT)
    have hSq := hid (fun A D c d W (g1 : Rd W A b) (g2 : Rd W D b) => Same_yes A D 120 b.length c d b b W g1 g2 h120.symm rfl rfl)
    rw [hby] at hBq
    clear hZ hE hds hby h120 hok
    cases b1
    all_goals
      try have hEy : ∀ W, (Op.equalIn 10000 26 (.agg (txC yx).toArray) (.agg (txC x0).toArray)).run Tryd.prog W = .ok true W := fun W => eqtx_is yx x0 (by rw [hyt.out rfl]; exact hx) hx true (decide_eq_true (hyt.out rfl)) W
      clear hyt hx
      go_enter Tryd.func6, Tryd.ntmps6
      go_wp2_with fail
      generalize w.alloc (.cells (txC x0).toArray 26) = w0 at *
      refine (hAl.out _ H0.out).mono ?_
      rintro e w1 ⟨rfl, hb⟩
      have P1 := hid (rangeBel2 hb P0.out)
      have V1 := hid (V0.out.bel hb)
      have H1 := hid (H0.out.bel hb (Nat.lt_of_lt_of_le hlow.out W0.out.size))
      have W1 := hid (W0.out.trans (hb.mono W0.out.size))
      clear P0 V0 H0 W0
      clear hb 
      go_wp2_with (first
        | ((with_reducible refine wpList_load_rng rfl 26 (.tmp 2) rfl w.heap.size 0 rfl (txC x0) _ ?_ hux rfl jx0.out ?_); exact P1.out))
      refine (hSg.out _ H1.out).mono ?_
      rintro e w2 ⟨rfl, hb⟩
      have P2 := hid (rangeBel2 hb P1.out)
      have V2 := hid (V1.out.bel hb)
      have H2 := hid (H1.out.bel hb (Nat.lt_of_lt_of_le hlow.out W1.out.size))
      have W2 := hid (W1.out.trans (hb.mono W1.out.size))
      clear P1 V1 H1 W1
      clear hb 
      have e2 := hid (heap_alloc_new w2 (.cells zTxC 26))
      go_wp2_with (first
        | (with_reducible refine wpList_alloc_row rfl 26 rfl zTxC zInfoTx ?_)
        | ((with_reducible refine wpList_store_row rfl 26 (.tmp 6) (.tmp 23) rfl w2.heap.size _ rfl rfl 26 zTxC ?_ ?_ ?_ ?_ ?_); exact e2.out; exact asx.out; exact zsx.out; exact nsx.out; intro w3 hgS hbS hsS; have X3 := hid (xnewP rfl hbS); have S3 := hid (rangeOf (l := txC sx) hgS); clear hgS hbS hsS; have P3 := hid (rangeBel2 X3.out P2.out); have V3 := hid (V2.out.bel X3.out); have H3 := hid (H2.out.bel X3.out (Nat.lt_of_lt_of_le hlow.out W2.out.size)); have W3 := hid (W2.out.trans (X3.out.mono W2.out.size)); clear P2 V2 H2 W2)
        | ((with_reducible refine wpList_load_rng rfl 26 (.tmp 6) rfl w2.heap.size 0 rfl (txC sx) _ ?_ hux rfl jsx.out ?_); exact S3.out))
      refine (hBs.out _).mono ?_
      rintro e w4 ⟨A4, c4, rfl, hO, hb⟩
      have P4 := hid (rangeBel2 hb P3.out)
      have V4 := hid (V3.out.bel hb)
      have H4 := hid (H3.out.bel hb (Nat.lt_of_lt_of_le hlow.out W3.out.size))
      have W4 := hid (W3.out.trans (hb.mono W3.out.size))
      have S4 := hid (rangeBel2 hb S3.out)
      clear P3 V3 H3 W3 S3
      have O4 := hid hO.rd
      have o4 := hid hO.cap
      have l4 := hid (show 120 ≤ c4 from by have := hO.cap.1; have l := bsl.out; omega)
      clear hb hO
      go_wp2_with fail
      refine (hRs.out _ _ _ O4.out l4.out o4.out.2 H4.out).mono ?_
      rintro e w5 ⟨rfl, hb⟩
      have P5 := hid (rangeBel2 hb P4.out)
      have V5 := hid (V4.out.bel hb)
      have H5 := hid (H4.out.bel hb (Nat.lt_of_lt_of_le hlow.out W4.out.size))
      have W5 := hid (W4.out.trans (hb.mono W4.out.size))
      have S5 := hid (rangeBel2 hb S4.out)
      clear P4 V4 H4 W4 S4
      clear hb O4 o4 l4
      have e5 := hid (heap_alloc_new w5 (.cells zTxC 26))
      go_wp2_with (first
        | (with_reducible refine wpList_alloc_row rfl 26 rfl zTxC zInfoTx ?_)
        | ((with_reducible refine wpList_store_row rfl 26 (.tmp 7) (.tmp 28) rfl w5.heap.size _ rfl rfl 26 zTxC ?_ ?_ ?_ ?_ ?_); exact e5.out; exact asx.out; exact zsx.out; exact nsx.out; intro w6 hgS hbS hsS; have X6 := hid (xnewP rfl hbS); have Y6 := hid (rangeOf (l := txC sx) hgS); clear hgS hbS hsS; have P6 := hid (rangeBel2 X6.out P5.out); have V6 := hid (V5.out.bel X6.out); have H6 := hid (H5.out.bel X6.out (Nat.lt_of_lt_of_le hlow.out W5.out.size)); have W6 := hid (W5.out.trans (X6.out.mono W5.out.size)); have S6 := hid (rangeBel2 X6.out S5.out); clear P5 V5 H5 W5 S5)
        | ((with_reducible refine wpList_load_rng rfl 26 (.tmp 2) rfl w.heap.size 0 rfl (txC x0) _ ?_ hux rfl jx0.out ?_); exact P6.out))
      refine (hBx.out _).mono ?_
      rintro e w7 ⟨A7, c7, rfl, hO, hb⟩
      have P7 := hid (rangeBel2 hb P6.out)
      have V7 := hid (V6.out.bel hb)
      have H7 := hid (H6.out.bel hb (Nat.lt_of_lt_of_le hlow.out W6.out.size))
      have W7 := hid (W6.out.trans (hb.mono W6.out.size))
      have S7 := hid (rangeBel2 hb S6.out)
      have Y7 := hid (rangeBel2 hb Y6.out)
      clear P6 V6 H6 W6 S6 Y6
      have O7 := hid hO.rd
      have o7 := hid hO.cap
      have l7 := hid (show 120 ≤ c7 from by have := hO.cap.1; have l := bxl.out; omega)
      clear hb hO
      go_wp2_with fail
      refine (hRx.out _ _ _ O7.out l7.out o7.out.2 H7.out).mono ?_
      rintro e w8 ⟨rfl, hb⟩
      have P8 := hid (rangeBel2 hb P7.out)
      have V8 := hid (V7.out.bel hb)
      have H8 := hid (H7.out.bel hb (Nat.lt_of_lt_of_le hlow.out W7.out.size))
      have W8 := hid (W7.out.trans (hb.mono W7.out.size))
      have S8 := hid (rangeBel2 hb S7.out)
      have Y8 := hid (rangeBel2 hb Y7.out)
      clear P7 V7 H7 W7 S7 Y7
      clear hb O7 o7 l7
      have e8 := hid (heap_alloc_new w8 (.cells zTxC 26))
      go_wp2_with (first
        | (with_reducible refine wpList_alloc_row rfl 26 rfl zTxC zInfoTx ?_)
        | ((with_reducible refine wpList_store_row rfl 26 (.tmp 9) (.tmp 34) rfl w8.heap.size _ rfl rfl 26 zTxC ?_ ?_ ?_ ?_ ?_); exact e8.out; exact ayx.out; exact zyx.out; exact nyx.out; intro w9 hgS hbS hsS; have X9 := hid (xnewP rfl hbS); have Z9 := hid (rangeOf (l := txC yx) hgS); clear hgS hbS hsS; have P9 := hid (rangeBel2 X9.out P8.out); have V9 := hid (V8.out.bel X9.out); have H9 := hid (H8.out.bel X9.out (Nat.lt_of_lt_of_le hlow.out W8.out.size)); have W9 := hid (W8.out.trans (X9.out.mono W8.out.size)); have S9 := hid (rangeBel2 X9.out S8.out); have Y9 := hid (rangeBel2 X9.out Y8.out); clear P8 V8 H8 W8 S8 Y8)
        | ((with_reducible refine wpList_load_rng ?_ 26 (.tmp 7) rfl w5.heap.size 0 rfl (txC sx) _ ?_ hux rfl jsx.out ?_); rfl; exact Y9.out)
        | ((with_reducible refine wpList_load_rng ?_ 26 (.tmp 6) rfl w2.heap.size 0 rfl (txC sx) _ ?_ hux rfl jsx.out ?_); rfl; exact S9.out)
        | ((with_reducible refine wpList_load_rng ?_ 26 (.tmp 2) rfl w.heap.size 0 rfl (txC x0) _ ?_ hux rfl jx0.out ?_); rfl; exact P9.out))
      refine (hCx.out _ H9.out).mono ?_
      rintro e w10 ⟨rfl, hb⟩
      have P10 := hid (rangeBel2 hb P9.out)
      have V10 := hid (V9.out.bel hb)
      have H10 := hid (H9.out.bel hb (Nat.lt_of_lt_of_le hlow.out W9.out.size))
      have W10 := hid (W9.out.trans (hb.mono W9.out.size))
      have S10 := hid (rangeBel2 hb S9.out)
      have Y10 := hid (rangeBel2 hb Y9.out)
      have Z10 := hid (rangeBel2 hb Z9.out)
      clear P9 V9 H9 W9 S9 Y9 Z9
      clear hb 
      clear S10
      clear Y10
      go_wp2_with (first
        | ((with_reducible refine wpList_load_rng ?_ 26 (.tmp 9) rfl w8.heap.size 0 rfl (txC yx) _ ?_ hux rfl jyx.out ?_); rfl; exact Z10.out)
        | ((with_reducible refine wpList_load_rng ?_ 26 (.tmp 2) rfl w.heap.size 0 rfl (txC x0) _ ?_ hux rfl jx0.out ?_); rfl; exact P10.out))
      refine (hRb.out _ V10.out H10.out).mono ?_
      rintro e w11 ⟨rfl, hb⟩
      have P11 := hid (rangeBel2 hb P10.out)
      have V11 := hid (V10.out.bel hb)
      have H11 := hid (H10.out.bel hb (Nat.lt_of_lt_of_le hlow.out W10.out.size))
      have W11 := hid (W10.out.trans (hb.mono W10.out.size))
      have Z11 := hid (rangeBel2 hb Z10.out)
      clear P10 V10 H10 W10 Z10
      clear hb 
      have e11 := hid (heap_alloc_new w11 (.cells zTxC 26))
      go_wp2_with (first
        | (with_reducible refine wpList_alloc_row rfl 26 rfl zTxC zInfoTx ?_)
        | ((with_reducible refine wpList_store_row rfl 26 (.tmp 11) (.tmp 63) rfl w11.heap.size _ rfl rfl 26 zTxC ?_ ?_ ?_ ?_ ?_); exact e11.out; exact agx.out; exact zgx.out; exact ngx.out; intro w12 hgS hbS hsS; have X12 := hid (xnewP rfl hbS); have Q12 := hid (rangeOf (l := txC gx) hgS); clear hgS hbS hsS; have P12 := hid (rangeBel2 X12.out P11.out); have V12 := hid (V11.out.bel X12.out); have H12 := hid (H11.out.bel X12.out (Nat.lt_of_lt_of_le hlow.out W11.out.size)); have W12 := hid (W11.out.trans (X12.out.mono W11.out.size)); have Z12 := hid (rangeBel2 X12.out Z11.out); clear P11 V11 H11 W11 Z11)
        | ((with_reducible refine wpList_load_rng ?_ 26 (.tmp 11) rfl w11.heap.size 0 rfl (txC gx) _ ?_ hux rfl jgx.out ?_); rfl; exact Q12.out))
      refine (hBq.out _).mono ?_
      rintro e w13 ⟨A13, c13, rfl, hO, hb⟩
      have P13 := hid (rangeBel2 hb P12.out)
      have V13 := hid (V12.out.bel hb)
      have H13 := hid (H12.out.bel hb (Nat.lt_of_lt_of_le hlow.out W12.out.size))
      have W13 := hid (W12.out.trans (hb.mono W12.out.size))
      have Z13 := hid (rangeBel2 hb Z12.out)
      have Q13 := hid (rangeBel2 hb Q12.out)
      clear P12 V12 H12 W12 Z12 Q12
      have O13 := hid hO.rd
      clear hb hO
      go_wp2_with fail
      refine (hSq.out _ _ _ _ _ O13.out V13.out).mono ?_
      rintro e w14 ⟨rfl, rfl⟩
      go_wp2_with (first
        | ((with_reducible refine wpList_load_rng ?_ 26 (.tmp 11) rfl w11.heap.size 0 rfl (txC gx) _ ?_ hux rfl jgx.out ?_); rfl; exact Q13.out))
      refine (hCq.out _ H13.out).mono ?_
      rintro e w15 ⟨rfl, hb⟩
      have P15 := hid (rangeBel2 hb P13.out)
      have V15 := hid (V13.out.bel hb)
      have H15 := hid (H13.out.bel hb (Nat.lt_of_lt_of_le hlow.out W13.out.size))
      have W15 := hid (W13.out.trans (hb.mono W13.out.size))
      have Z15 := hid (rangeBel2 hb Z13.out)
      have Q15 := hid (rangeBel2 hb Q13.out)
      clear P13 V13 H13 W13 Z13 Q13
      clear hb 
      go_wp2
      go_ret
      exact ⟨rfl, W15.out⟩
  · have hge : (ge != 0) = true := bne_iff_ne.2 hg
    have hgz := hE.out hg
    have hEg : ∀ W, (Op.equalIn 10000 26 (.agg (txC gx).toArray) (.agg zTxC)).run Tryd.prog W = .ok true W := fun W => eqtx_is gx zX hok.out zok true (decide_eq_true hgz) W
    clear hZ hE hok hgz hg
    cases b1
    all_goals
      try have hEy : ∀ W, (Op.equalIn 10000 26 (.agg (txC yx).toArray) (.agg (txC x0).toArray)).run Tryd.prog W = .ok true W := fun W => eqtx_is yx x0 (by rw [hyt.out rfl]; exact hx) hx true (decide_eq_true (hyt.out rfl)) W
      clear hyt hx
      go_enter Tryd.func6, Tryd.ntmps6
      go_wp2_with fail
      generalize w.alloc (.cells (txC x0).toArray 26) = w0 at *
      refine (hAl.out _ H0.out).mono ?_
      rintro e w1 ⟨rfl, hb⟩
      have P1 := hid (rangeBel2 hb P0.out)
      have V1 := hid (V0.out.bel hb)
      have H1 := hid (H0.out.bel hb (Nat.lt_of_lt_of_le hlow.out W0.out.size))
      have W1 := hid (W0.out.trans (hb.mono W0.out.size))
      clear P0 V0 H0 W0
      clear hb 
      go_wp2_with (first
        | ((with_reducible refine wpList_load_rng rfl 26 (.tmp 2) rfl w.heap.size 0 rfl (txC x0) _ ?_ hux rfl jx0.out ?_); exact P1.out))
      refine (hSg.out _ H1.out).mono ?_
      rintro e w2 ⟨rfl, hb⟩
      have P2 := hid (rangeBel2 hb P1.out)
      have V2 := hid (V1.out.bel hb)
      have H2 := hid (H1.out.bel hb (Nat.lt_of_lt_of_le hlow.out W1.out.size))
      have W2 := hid (W1.out.trans (hb.mono W1.out.size))
      clear P1 V1 H1 W1
      clear hb 
      have e2 := hid (heap_alloc_new w2 (.cells zTxC 26))
      go_wp2_with (first
        | (with_reducible refine wpList_alloc_row rfl 26 rfl zTxC zInfoTx ?_)
        | ((with_reducible refine wpList_store_row rfl 26 (.tmp 6) (.tmp 23) rfl w2.heap.size _ rfl rfl 26 zTxC ?_ ?_ ?_ ?_ ?_); exact e2.out; exact asx.out; exact zsx.out; exact nsx.out; intro w3 hgS hbS hsS; have X3 := hid (xnewP rfl hbS); have S3 := hid (rangeOf (l := txC sx) hgS); clear hgS hbS hsS; have P3 := hid (rangeBel2 X3.out P2.out); have V3 := hid (V2.out.bel X3.out); have H3 := hid (H2.out.bel X3.out (Nat.lt_of_lt_of_le hlow.out W2.out.size)); have W3 := hid (W2.out.trans (X3.out.mono W2.out.size)); clear P2 V2 H2 W2)
        | ((with_reducible refine wpList_load_rng rfl 26 (.tmp 6) rfl w2.heap.size 0 rfl (txC sx) _ ?_ hux rfl jsx.out ?_); exact S3.out))
      refine (hBs.out _).mono ?_
      rintro e w4 ⟨A4, c4, rfl, hO, hb⟩
      have P4 := hid (rangeBel2 hb P3.out)
      have V4 := hid (V3.out.bel hb)
      have H4 := hid (H3.out.bel hb (Nat.lt_of_lt_of_le hlow.out W3.out.size))
      have W4 := hid (W3.out.trans (hb.mono W3.out.size))
      have S4 := hid (rangeBel2 hb S3.out)
      clear P3 V3 H3 W3 S3
      have O4 := hid hO.rd
      have o4 := hid hO.cap
      have l4 := hid (show 120 ≤ c4 from by have := hO.cap.1; have l := bsl.out; omega)
      clear hb hO
      go_wp2_with fail
      refine (hRs.out _ _ _ O4.out l4.out o4.out.2 H4.out).mono ?_
      rintro e w5 ⟨rfl, hb⟩
      have P5 := hid (rangeBel2 hb P4.out)
      have V5 := hid (V4.out.bel hb)
      have H5 := hid (H4.out.bel hb (Nat.lt_of_lt_of_le hlow.out W4.out.size))
      have W5 := hid (W4.out.trans (hb.mono W4.out.size))
      have S5 := hid (rangeBel2 hb S4.out)
      clear P4 V4 H4 W4 S4
      clear hb O4 o4 l4
      have e5 := hid (heap_alloc_new w5 (.cells zTxC 26))
      go_wp2_with (first
        | (with_reducible refine wpList_alloc_row rfl 26 rfl zTxC zInfoTx ?_)
        | ((with_reducible refine wpList_store_row rfl 26 (.tmp 7) (.tmp 28) rfl w5.heap.size _ rfl rfl 26 zTxC ?_ ?_ ?_ ?_ ?_); exact e5.out; exact asx.out; exact zsx.out; exact nsx.out; intro w6 hgS hbS hsS; have X6 := hid (xnewP rfl hbS); have Y6 := hid (rangeOf (l := txC sx) hgS); clear hgS hbS hsS; have P6 := hid (rangeBel2 X6.out P5.out); have V6 := hid (V5.out.bel X6.out); have H6 := hid (H5.out.bel X6.out (Nat.lt_of_lt_of_le hlow.out W5.out.size)); have W6 := hid (W5.out.trans (X6.out.mono W5.out.size)); have S6 := hid (rangeBel2 X6.out S5.out); clear P5 V5 H5 W5 S5)
        | ((with_reducible refine wpList_load_rng rfl 26 (.tmp 2) rfl w.heap.size 0 rfl (txC x0) _ ?_ hux rfl jx0.out ?_); exact P6.out))
      refine (hBx.out _).mono ?_
      rintro e w7 ⟨A7, c7, rfl, hO, hb⟩
      have P7 := hid (rangeBel2 hb P6.out)
      have V7 := hid (V6.out.bel hb)
      have H7 := hid (H6.out.bel hb (Nat.lt_of_lt_of_le hlow.out W6.out.size))
      have W7 := hid (W6.out.trans (hb.mono W6.out.size))
      have S7 := hid (rangeBel2 hb S6.out)
      have Y7 := hid (rangeBel2 hb Y6.out)
      clear P6 V6 H6 W6 S6 Y6
      have O7 := hid hO.rd
      have o7 := hid hO.cap
      have l7 := hid (show 120 ≤ c7 from by have := hO.cap.1; have l := bxl.out; omega)
      clear hb hO
      go_wp2_with fail
      refine (hRx.out _ _ _ O7.out l7.out o7.out.2 H7.out).mono ?_
      rintro e w8 ⟨rfl, hb⟩
      have P8 := hid (rangeBel2 hb P7.out)
      have V8 := hid (V7.out.bel hb)
      have H8 := hid (H7.out.bel hb (Nat.lt_of_lt_of_le hlow.out W7.out.size))
      have W8 := hid (W7.out.trans (hb.mono W7.out.size))
      have S8 := hid (rangeBel2 hb S7.out)
      have Y8 := hid (rangeBel2 hb Y7.out)
      clear P7 V7 H7 W7 S7 Y7
      clear hb O7 o7 l7
      have e8 := hid (heap_alloc_new w8 (.cells zTxC 26))
      go_wp2_with (first
        | (with_reducible refine wpList_alloc_row rfl 26 rfl zTxC zInfoTx ?_)
        | ((with_reducible refine wpList_store_row rfl 26 (.tmp 9) (.tmp 34) rfl w8.heap.size _ rfl rfl 26 zTxC ?_ ?_ ?_ ?_ ?_); exact e8.out; exact ayx.out; exact zyx.out; exact nyx.out; intro w9 hgS hbS hsS; have X9 := hid (xnewP rfl hbS); have Z9 := hid (rangeOf (l := txC yx) hgS); clear hgS hbS hsS; have P9 := hid (rangeBel2 X9.out P8.out); have V9 := hid (V8.out.bel X9.out); have H9 := hid (H8.out.bel X9.out (Nat.lt_of_lt_of_le hlow.out W8.out.size)); have W9 := hid (W8.out.trans (X9.out.mono W8.out.size)); have S9 := hid (rangeBel2 X9.out S8.out); have Y9 := hid (rangeBel2 X9.out Y8.out); clear P8 V8 H8 W8 S8 Y8)
        | ((with_reducible refine wpList_load_rng ?_ 26 (.tmp 7) rfl w5.heap.size 0 rfl (txC sx) _ ?_ hux rfl jsx.out ?_); rfl; exact Y9.out)
        | ((with_reducible refine wpList_load_rng ?_ 26 (.tmp 6) rfl w2.heap.size 0 rfl (txC sx) _ ?_ hux rfl jsx.out ?_); rfl; exact S9.out)
        | ((with_reducible refine wpList_load_rng ?_ 26 (.tmp 2) rfl w.heap.size 0 rfl (txC x0) _ ?_ hux rfl jx0.out ?_); rfl; exact P9.out))
      refine (hCx.out _ H9.out).mono ?_
      rintro e w10 ⟨rfl, hb⟩
      have P10 := hid (rangeBel2 hb P9.out)
      have V10 := hid (V9.out.bel hb)
      have H10 := hid (H9.out.bel hb (Nat.lt_of_lt_of_le hlow.out W9.out.size))
      have W10 := hid (W9.out.trans (hb.mono W9.out.size))
      have S10 := hid (rangeBel2 hb S9.out)
      have Y10 := hid (rangeBel2 hb Y9.out)
      have Z10 := hid (rangeBel2 hb Z9.out)
      clear P9 V9 H9 W9 S9 Y9 Z9
      clear hb 
      clear S10
      clear Y10
      go_wp2_with (first
        | ((with_reducible refine wpList_load_rng ?_ 26 (.tmp 9) rfl w8.heap.size 0 rfl (txC yx) _ ?_ hux rfl jyx.out ?_); rfl; exact Z10.out)
        | ((with_reducible refine wpList_load_rng ?_ 26 (.tmp 2) rfl w.heap.size 0 rfl (txC x0) _ ?_ hux rfl jx0.out ?_); rfl; exact P10.out))
      refine (hRb.out _ V10.out H10.out).mono ?_
      rintro e w11 ⟨rfl, hb⟩
      have P11 := hid (rangeBel2 hb P10.out)
      have V11 := hid (V10.out.bel hb)
      have H11 := hid (H10.out.bel hb (Nat.lt_of_lt_of_le hlow.out W10.out.size))
      have W11 := hid (W10.out.trans (hb.mono W10.out.size))
      have Z11 := hid (rangeBel2 hb Z10.out)
      clear P10 V10 H10 W10 Z10
      clear hb 
      have e11 := hid (heap_alloc_new w11 (.cells zTxC 26))
      go_wp2_with (first
        | (with_reducible refine wpList_alloc_row rfl 26 rfl zTxC zInfoTx ?_)
        | ((with_reducible refine wpList_store_row rfl 26 (.tmp 11) (.tmp 63) rfl w11.heap.size _ rfl rfl 26 zTxC ?_ ?_ ?_ ?_ ?_); exact e11.out; exact agx.out; exact zgx.out; exact ngx.out; intro w12 hgS hbS hsS; have X12 := hid (xnewP rfl hbS); have Q12 := hid (rangeOf (l := txC gx) hgS); clear hgS hbS hsS; have P12 := hid (rangeBel2 X12.out P11.out); have V12 := hid (V11.out.bel X12.out); have H12 := hid (H11.out.bel X12.out (Nat.lt_of_lt_of_le hlow.out W11.out.size)); have W12 := hid (W11.out.trans (X12.out.mono W11.out.size)); have Z12 := hid (rangeBel2 X12.out Z11.out); clear P11 V11 H11 W11 Z11)
        | ((with_reducible refine wpList_load_rng ?_ 26 (.tmp 11) rfl w11.heap.size 0 rfl (txC gx) _ ?_ hux rfl jgx.out ?_); rfl; exact Q12.out)
        | ((with_reducible refine wpList_built ?_ 26 _ rfl zTxC [] ?_ ?_ ?_); rfl; exact built_tx0; rfl))
      go_ret
      exact ⟨rfl, W12.out⟩

/-! ### WHAT THE WALK GIVES, FOR EVERY ARGUMENT AND EVERY WORLD THAT HOLDS THE TABLE -/
set_option maxRecDepth 100000 in
theorem contract (H : Type) (enc : TypeId × Value → H) (W : World) (base : Nat) (args : Array Value) (ds gs : List (DataW H)) (before : List MemPlace)
    (hval0 : ∀ (j : Nat) t v, Tryd.f6.params[j]? = some t → args[j]? = some v → Value.okWide Tryd.prog W .any base t v)
    (hW : DataW.Whole enc Tryd.prog Tryd.f6.params.toList Rows.txBackSpec.vars false W args.toList ds gs before) (hL : laidMetH Tryd.prog Rows.txBackRow.laid W) :
    Calls Tryd.prog 6 args W fun e W' => ∃ v, e = .returned v ∧ Rows.txBackSpec.post enc Tryd.prog Tryd.f6 false true false false W args v W' := by
  have hval : ∀ (j : Nat) t v, Tryd.f6.params[j]? = some t → args[j]? = some v → Value.okWide Tryd.prog W .any base t v := hval0
  have hW' := hW
  obtain ⟨p, q, hA0, hV, rfl, hfz, hnd⟩ := hW
  have hA : DataW.TrodAll enc Tryd.prog W 0 (fun _ => true) true Tryd.f6.params.toList args.toList ds p := hA0
  rw [Tryd.params6] at hA hval
  obtain ⟨v0, vs0, d0, ds0, p0, q0, hargs, rfl, rfl, h0, r0⟩ := trodAll_cons hA
  obtain ⟨v1, vs1, d1, ds1, p1, q1, rfl, rfl, rfl, h1, r1⟩ := trodAll_cons r0
  obtain ⟨rfl, rfl, rfl⟩ := trodAll_nil r1
  obtain rfl : args = #[v0, v1] := by cases args; simp_all
  obtain ⟨rfl, rfl⟩ := trodVars_none hV
  have k0 := h0
  have lt0 : ∀ x ∈ p0, x.block < W.heap.size := by obtain ⟨m, hm⟩ := k0; exact DataW.trod_lt m _ _ _ hm
  obtain ⟨x0, vs0, rfl, w0⟩ := open_struct opensTx Tryd.underlying26 (hval 0 26 v0 rfl rfl) h0
  obtain ⟨a1, len1, cap1, rfl⟩ := okWide_slice Tryd.underlying30 (hval 1 30 v1 rfl rfl)
  have k1 := h1
  have lt1 : ∀ x ∈ p1, x.block < W.heap.size := by obtain ⟨m, hm⟩ := k1; exact DataW.trod_lt m _ _ _ hm
  obtain ⟨z1, w1⟩ : ∃ zs, IsRow .u8 W a1 len1 cap1 zs := by
    obtain ⟨fuel, hf⟩ := h1
    rcases open_ints Tryd.underlying30 Tryd.underlying5 (by kernel_rfl) hf with ⟨hcs, _⟩ | ⟨x, l, c, zs, hcs, _, hl, hm, hz, _, hcell, hwz⟩
    · simp [Value.cells] at hcs
      obtain ⟨rfl, rfl, rfl⟩ := hcs
      exact ⟨[], .inl ⟨rfl, rfl, rfl, rfl⟩⟩
    · simp [Value.cells] at hcs
      obtain ⟨rfl, rfl, rfl⟩ := hcs
      exact ⟨zs, .inr ⟨_, rfl, hl, hm, by simpa using hz, hcell, hwz⟩⟩
  clear hA0 hval0
  refine (walk x0 vs0 a1 len1 cap1 z1 W w0 w1 (tab_of hL)).mono fun e W' ⟨he, bel⟩ => ?_
  subst he
  exact ⟨_, rfl, _, _, _, [], _, [], hW', trodAll_mk1 (shut_bool Tryd.underlying4 _), (trodAll_cons_mk (Below.trod laidOut (by kernel_rfl) (of_decide_eq_true (by kernel_rfl)) k0 bel lt0) (trodAll_cons_mk (Below.trod laidOut (by kernel_rfl) (of_decide_eq_true (by kernel_rfl)) k1 bel lt1) trodAll_mk0)), rfl, bel.frame _, fun h => by cases h⟩

theorem laid_met (os : Os) : laidMet Tryd.prog Rows.txBackRow.laid ((laidWorld os).forCall (fun _ _ => 0) ⟨#[], #[.agg zTxC, .slice none 0 0], []⟩).memory :=
  laidMet_of_run' 8 (by kernel_rfl) (by kernel_rfl)
theorem reads (os : Os) {H : Type} (enc : TypeId × Value → H) : ∃ places, DataW.whole enc Tryd.prog ((laidWorld os).forCall (fun _ _ => 0) ⟨#[], #[.agg zTxC, .slice none 0 0], []⟩).memory Tryd.f6.params.toList Rows.txBackSpec.vars false (#[.agg zTxC, .slice none 0 0] : Array Value).toList 8 = some ([.agg [.agg (List.replicate 32 (.lit (.int .u8 0))), .agg (List.replicate 32 (.lit (.int .u8 0))), .lit (.int .u64 0), .lit (.int .u64 0), .lit (.int .u64 0), .agg (List.replicate 32 (.lit (.int .u8 0)))], .nil], [], places) :=
  ⟨[], by kernel_rfl⟩
set_option maxRecDepth 100000 in
theorem lifted (os : Os) (started : os.Started) (H : Type) (enc : TypeId × Value → H) (F : Stop.Interp) :
    ReturnsInHanded {} Tryd.checked os 6 .any ((OpenSpec.ofChange Rows.txBackSpec).preRow enc Tryd.prog Tryd.f6 Rows.txBackRow.domain false Rows.txBackRow.laid) (((OpenSpec.ofChange Rows.txBackSpec).at F).post enc Tryd.prog Tryd.f6 false true false false) := by
  obtain ⟨places, hx⟩ := reads os enc
  refine returnsInHanded_of_row (C := Tryd.checked) (s := OpenSpec.ofChange Rows.txBackSpec) own started (by kernel_rfl) Tryd.func6
    (witness_row_at (enc := enc) (C := Tryd.checked) false (laidWorld os) #[.agg zTxC, .slice none 0 0] rfl (by kernel_rfl) (by kernel_rfl) (by kernel_rfl)
      (OpenSpec.preRow_of_cond 8 hx (by kernel_rfl) (fun k hk => by cases hk) (by kernel_rfl) (laid_met os))) ?_
  intro W base args ds gs before hval hW _ _ _ hL _ _
  exact contract H enc W base args ds gs before hval hW hL
theorem said : Rows.TxBackSaid :=
  OpenClaim.holds_of_cond 6 Tryd.f6 rfl rfl rfl rfl rfl rfl rfl ⟨rfl, rfl, rfl, rfl, rfl⟩ rfl rfl rfl rfl rfl (by kernel_rfl) Tryd.func6 (by kernel_rfl)
    (of_decide_eq_true (by kernel_rfl)) (by unfold Func.isWrapper; first | (rw [if_pos (by decide +kernel)]; kernel_rfl) | (rw [if_neg (by decide +kernel)]; exact ⟨rfl, rfl⟩))
    (fun os started H enc _ F => by rw [OpenClaim.pre_eq_preRow]; exact lifted os started H enc F)
set_option maxRecDepth 100000 in
/-- No parameter wants a stand-in; the program's own looks are off: what the card asks. -/
theorem plain (f : FuncId) (fn : Func) (hf : Tryd.pinned.checked.prog.funcNamed "beadroll/beadrolllaw11.TxBack" = some f) (hfn : Tryd.pinned.checked.prog.funcs[f]? = some fn) :
    false = Tryd.pinned.checked.prog.looks [] ∧ ∀ (j : Nat) t, fn.params[j]? = some t → Tryd.pinned.checked.prog.wantsStandIn t = false := by
  obtain rfl : f = 6 := Option.some.inj ((show Tryd.prog.funcNamed "beadroll/beadrolllaw11.TxBack" = some 6 by kernel_rfl).symm.trans hf) |>.symm
  obtain rfl : fn = Tryd.f6 := (Option.some.inj (Tryd.func6.symm.trans hfn)).symm
  refine ⟨by kernel_rfl, fun j t ht => ?_⟩
  rw [Tryd.params6] at ht
  have hm := Array.mem_of_getElem? ht
  simp only [List.mem_toArray, List.mem_cons, List.not_mem_nil, or_false] at hm
  rcases hm with rfl | rfl
  all_goals first | exact (show Tryd.prog.wantsStandIn 26 = false by kernel_rfl) | exact (show Tryd.prog.wantsStandIn 30 = false by kernel_rfl)
set_option maxRecDepth 100000 in
/-- ████ THE CARD ████ -/
theorem proved : Rows.TxBackCardSaid :=
  Claim7.holds_tied_plain_at .later [] _ _ _ _ said (fun _ h => by cases h) (by kernel_rfl) (fun _ h => by cases h) txBack_row_tie rfl ⟨rfl, rfl⟩ (by kernel_rfl) rfl plain (by kernel_rfl)
#print axioms proved
end Go.Proofs.YtaegdiggmgifiaaDoor.txBack
