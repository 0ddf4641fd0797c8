/-
  The Go function TxSigns returns true: to sign changes the Sign alone, twice as once; a body has 88 bytes, ahead of the Sign, and hangs on all other fields: any two; its arguments read afterwards as before.
  Conditions: none. The frame around the walk was written by program (proof-skeleton.mjs).
-/
import Derived.Test.YtaegdiggmgifiaaDoorRows
import Derived.Test.YtaegdiggmgifiaaDoorDoor
import Derived.WalkKit
import Derived.ProofKit
import Derived.OpenShut
import Derived.ShutString
import Derived.ChangeOld
import Derived.Below
import Derived.Test.YtaegdiggmgifiaaDoorTxD
import Derived.Test.YtaegdiggmgifiaaDoorTxQ
import Derived.Test.YtaegdiggmgifiaaDoorAlive11
import Derived.Test.YtaegdiggmgifiaaDoorBits
namespace Go.Proofs.YtaegdiggmgifiaaDoor.txSigns
open Go.ChangeShapes Go.WideShapes Go.ChangeAt Go.RowKit
open Go.ChangeMaps (open_string shut_string)
set_option linter.unusedVariables false

theorem own : ownKnob Tryd.prog.godebug = none := by kernel_rfl
theorem laidOut : laidOutB Tryd.prog = true := by kernel_rfl

/-- WHAT THE WALK IS TOLD OF A SLICE OF INTEGERS THAT CAME IN: it is nil; or it leads to a row of 'cap' cells, the numbers 'zs' (the first 'len' are its elements, the rest its spare room), each fitting its kind. -/
def IsRow (k : IntKind) (w : World) (a : Option Addr) (len cap : Nat) (zs : List Int) : Prop :=
  (a = none ∧ len = 0 ∧ cap = 0 ∧ zs = []) ∨
  ∃ x, a = some x ∧ len ≤ cap ∧ cap ≤ maxLen ∧ zs.length = cap ∧ (∀ i, i < zs.length → w.cell? (x.add i) = some (.int k (zs.getD i 0))) ∧ ∀ n ∈ zs, (Lit.int k n).wf = true

/-! ### the walk -/
open Go.Proofs.YtaegdiggmgifiaaDoor
set_option linter.unusedSimpArgs false
set_option maxRecDepth 100000 in
set_option maxHeartbeats 8000000 in
theorem walk (x0 : Tx) (vs0 : List Value) (x1 : Tx) (vs1 : List Value) (w : World) (w0 : Enc.rep (fun b => b < w.heap.size) w x0 vs0) (w1 : Enc.rep (fun b => b < w.heap.size) w x1 vs1) (hT : Tab w) :
    Calls Tryd.prog 7 #[.agg vs0.toArray, .agg vs1.toArray] w fun e w' => e = .returned (.bool true) ∧ Below w.heap.size w w' := by
  obtain ⟨rfl, hx⟩ := rep_tx w0
  obtain ⟨rfl, hy⟩ := rep_tx w1
  have hu := Tryd.underlying23
  have hux := Tryd.underlying26
  have h0 := BoxX.new w x0 26
  have b1 := ext_alloc (w.alloc (.cells (txC x0).toArray 26)) (.cells (txC x1).toArray 26)
  have h1 := rangeOf (heap_alloc_new (w.alloc (.cells (txC x0).toArray 26)) (.cells (txC x1).toArray 26))
  rw [World.size_alloc] at h1
  have P0 := hid (rangeBel2 b1 h0.all)
  have R0 := hid (rangeBel2 b1 h0.s)
  have Q0 := hid h1
  have W0 := hid (ext_trans (ext_alloc w (.cells (txC x0).toArray 26)) b1)
  have H0 := hid (hT.bel W0.out hT.low)
  have hlow := hid hT.low
  have hAl := hid (fun W hT => alive11_any W hT)
  have hSg := hid (fun W hT => PTxSign_any x0 hx W hT)
  have hS2 := hid (fun W hT => PTxSign_any (signX x0) (sign_ok hx) W hT)
  rw [sign_twice] at hS2
  have hBx := hid (fun W => PTxBody_any x0 hx W)
  have hBy := hid (fun W => PTxBody_any x1 hy W)
  have hYx := fun W => PTxBytes_any x0 hx W
  have hTk : (bytesX x0).take 88 = bodyX x0 := by unfold bytesX; exact List.take_left' (body_len x0)
  have hEs : ∀ W, (Op.equalIn 10000 26 (.agg (txC (signX x0)).toArray) (.agg (txC (signX x0)).toArray)).run Tryd.prog W = .ok true W := fun W => eqtx_is (signX x0) (signX x0) (sign_ok hx) (sign_ok hx) true (decide_eq_true rfl) W
  have hEx : ∀ W, (Op.equalIn 10000 26 (.agg (txC x0).toArray) (.agg (txC x0).toArray)).run Tryd.prog W = .ok true W := fun W => eqtx_is x0 x0 hx hx true (decide_eq_true rfl) W
  obtain ⟨eb, heb⟩ : ∃ eb, decide (({ x1 with s := x0.s } : Tx) = x0) = eb := ⟨_, rfl⟩
  have hEb : ∀ W, (Op.equalIn 10000 26 (.agg (txC { x1 with s := x0.s }).toArray) (.agg (txC x0).toArray)).run Tryd.prog W = .ok eb W := fun W => eqtx_is { x1 with s := x0.s } x0 hy hx eb heb W
  have hbi : bodyX x0 = bodyX x1 ↔ ({ x1 with s := x0.s } : Tx) = x0 := body_inj hx hy
  have hSb := hid (fun A D c d W (g1 : Rd W A (bodyX x0)) (g2 : Rd W D (bodyX x0)) => Same_yes A D 88 88 c d (bodyX x0) (bodyX x0) W g1 g2 (body_len x0).symm (body_len x0).symm rfl)
  have hSc : Hid (∀ A D c d W, Rd W A (bodyX x0) → Rd W D (bodyX x1) → Calls Tryd.prog 16 #[.slice A 88 c, .slice D 88 d] W fun e w' => e = .returned (.bool eb) ∧ W = w') := hid (fun A D c d W g1 g2 => by
    cases eb
    · exact Same_no A D 88 88 c d (bodyX x0) (bodyX x1) W g1 g2 (body_len x0).symm (body_len x1).symm (fun q => absurd (hbi.1 q) (of_decide_eq_false heb))
    · exact Same_yes A D 88 88 c d (bodyX x0) (bodyX x1) W g1 g2 (body_len x0).symm (body_len x1).symm (hbi.2 (of_decide_eq_true heb)))
  have A1 := hid (setA_sign (signX x0) x0.s)
  rw [show ({ signX x0 with s := x0.s } : Tx) = x0 from rfl] at A1
  have A2 := hid (setA_sign x1 x0.s)
  have jx0 := hid (sizeTx x0)
  have jx1 := hid (sizeTx x1)
  have nx1 := hid (one_tx x1)
  have ax1 := hid (sizeTxA x1)
  have zx1 := hid (zSizeTx x1)
  have jd := hid (sizeDxL x0.s)
  have od := hid (oneDx x0.s)
  have f1 := hid (show 67 + (x0.s.1.map bv).length ≤ (txC (signX x0)).toArray.size from by rw [len_dgv, List.size_toArray, len_tx]; decide)
  have f2 := hid (show 67 + (x0.s.1.map bv).length ≤ (txC x1).toArray.size from by rw [len_dgv, List.size_toArray, len_tx]; decide)
  have lvx := hid (bytesX_len x0)
  obtain ⟨bx, hbx⟩ : ∃ y, ({ x1 with s := x0.s } : Tx) = y := ⟨_, rfl⟩
  rw [hbx] at hEb A2
  have jbx := hid (sizeTx bx)
  clear heb hbi hbx h0 h1 b1 hT w0 w1
  have nsx := hid (one_tx (signX x0))
  have jsx := hid (sizeTx (signX x0))
  have asx := hid (sizeTxA (signX x0))
  have zsx := hid (zSizeTx (signX x0))
  obtain ⟨sx, hsx⟩ : ∃ y, signX x0 = y := ⟨_, rfl⟩
  rw [hsx] at nsx jsx asx zsx
  rw [hsx] at hSg hS2 hEs A1 f1
  clear hsx
  have hTk2 : Hid ((bytesX x0).take 88 = bodyX x0) := hid hTk
  clear hTk
  replace hYx := hid hYx
  generalize bodyX x0 = vb at *
  generalize bodyX x1 = vy at *
  generalize bytesX x0 = vx at *
  generalize x0.s.1.map bv = dS at *
  clear hx hy
  cases eb
  all_goals
    go_enter Tryd.func7, Tryd.ntmps7
    go_wp2_with fail
    generalize (w.alloc (.cells (txC x0).toArray 26)).alloc (.cells (txC x1).toArray 26) = w0 at *
    refine (hAl.out _ H0.out).mono ?_
    rintro e w1 ⟨rfl, hb⟩
    have P1 := hid (rangeBel2 hb P0.out)
    have Q1 := hid (rangeBel2 hb Q0.out)
    have R1 := hid (rangeBel2 hb R0.out)
    have H1 := hid (H0.out.bel hb (Nat.lt_of_lt_of_le hlow.out W0.out.size))
    have W1 := hid (W0.out.trans (hb.mono W0.out.size))
    clear P0 Q0 R0 H0 W0
    clear hb 
    go_wp2_with (first
      | ((with_reducible refine wpList_load_rng rfl 26 (.tmp 2) rfl w.heap.size 0 rfl (txC x0) _ ?_ hux rfl jx0.out ?_); exact P1.out))
    refine (hSg.out _ H1.out).mono ?_
    rintro e w2 ⟨rfl, hb⟩
    have P2 := hid (rangeBel2 hb P1.out)
    have Q2 := hid (rangeBel2 hb Q1.out)
    have R2 := hid (rangeBel2 hb R1.out)
    have H2 := hid (H1.out.bel hb (Nat.lt_of_lt_of_le hlow.out W1.out.size))
    have W2 := hid (W1.out.trans (hb.mono W1.out.size))
    clear P1 Q1 R1 H1 W1
    clear hb 
    have e2 := hid (heap_alloc_new w2 (.cells zTxC 26))
    go_wp2_with (first
      | (with_reducible refine wpList_alloc_row rfl 26 rfl zTxC zInfoTx ?_)
      | ((with_reducible refine wpList_store_row rfl 26 (.tmp 6) (.tmp 13) rfl w2.heap.size _ rfl rfl 26 zTxC ?_ ?_ ?_ ?_ ?_); exact e2.out; exact asx.out; exact zsx.out; exact nsx.out; intro w3 hgS hbS hsS; have X3 := hid (xnewP rfl hbS); have S3 := hid (rangeOf (l := txC sx) hgS); clear hgS hbS hsS; have P3 := hid (rangeBel2 X3.out P2.out); have Q3 := hid (rangeBel2 X3.out Q2.out); have R3 := hid (rangeBel2 X3.out R2.out); have H3 := hid (H2.out.bel X3.out (Nat.lt_of_lt_of_le hlow.out W2.out.size)); have W3 := hid (W2.out.trans (X3.out.mono W2.out.size)); clear P2 Q2 R2 H2 W2; have e3 := hid (heap_alloc_new w3 (.cells zTxC 26)))
      | ((with_reducible refine wpList_load_rng rfl 26 (.tmp 6) rfl w2.heap.size 0 rfl (txC sx) _ ?_ hux rfl jsx.out ?_); exact S3.out)
      | (with_reducible refine wpList_alloc_row rfl 26 rfl zTxC zInfoTx ?_)
      | ((with_reducible refine wpList_store_row rfl 26 (.tmp 7) (.tmp 14) rfl w3.heap.size _ rfl rfl 26 zTxC ?_ ?_ ?_ ?_ ?_); exact e3.out; exact asx.out; exact zsx.out; exact nsx.out; intro w4 hgS hbS hsS; have X4 := hid (xnewP rfl hbS); have G4 := hid hgS; have RR := hid (rangeBel2 X4.out R3.out); clear hgS hbS hsS)
      | ((with_reducible refine wpList_load_rng rfl 23 (.tmp 15) rfl w.heap.size 67 rfl dS _ ?_ hu rfl jd.out ?_); exact RR.out)
      | ((with_reducible refine wpList_store_manyB rfl 23 (.tmp 17) (.tmp 16) rfl w3.heap.size 67 dS (txC sx).toArray 26 rfl rfl ?_ ?_ ?_ ?_ ?_); exact G4.out; exact f1.out; exact jd.out; exact od.out; intro w5 hgT hcT; rw [A1.out] at hgT; have X5 := hid (X4.out.trans (hcT.below X4.out.size (fun b hb e => by omega))); have B5 := hid (rangeOf (l := txC x0) hgT); clear hgT hcT RR G4 X4; have P5 := hid (rangeBel2 X5.out P3.out); have Q5 := hid (rangeBel2 X5.out Q3.out); have R5 := hid (rangeBel2 X5.out R3.out); have H5 := hid (H3.out.bel X5.out (Nat.lt_of_lt_of_le hlow.out W3.out.size)); have W5 := hid (W3.out.trans (X5.out.mono W3.out.size)); have S5 := hid (rangeBel2 X5.out S3.out); clear P3 Q3 R3 H3 W3 S3))
    refine wp_region_noPanic ?_
    refine wp_region_held_drew (S := fun w' => Below w5.heap.size w5 w') (by kernel_rfl) ?_ (fun hHeld => ?_)
    · exact bel_drew w5
    refine' wpAnyH_take (i := 0) (oi := _) (v := _) rfl (by kernel_rfl) (by kernel_rfl) (by kernel_rfl) (fun _ _ _ h => h) (yieldsIf_load_mid (by rfl) _ _ rfl _ _ rfl _ _ (fun _ h => rangeBel2 h P5.out) hux rfl jx0.out) (by assumption) ?_
    try simp only [Act.put, sQa, sQb, sQc, gQa, gQb, gQc]
    refine' wpAnyH_take (i := 2) (oi := _) (v := _) rfl (by kernel_rfl) (by kernel_rfl) (by kernel_rfl) (fun _ _ _ h => h) (yieldsIf_load_mid (by rfl) _ _ rfl _ _ rfl _ _ (fun _ h => rangeBel2 h Q5.out) hux rfl jx1.out) (by assumption) ?_
    try simp only [Act.put, sQa, sQb, sQc, gQa, gQb, gQc]
    refine wpAnyH_ready (rs := [1]) (by kernel_rfl) (by simp) ?_
    refine AllReadyH.cons (o := _) rfl (fun K hK => ?_) AllReadyH.nil
    go_simp
    refine (hBx.out _).mono ?_
    rintro e v6 ⟨A6, c6, rfl, o6, hB⟩
    have E6 := hid o6.rd
    go_wp2_with fail
    refine hK.out _ _ ?_ (fun hHeld => ?_)
    · exact hHeld.trans (hB.mono hHeld.size)
    clear hK K
    try simp only [Act.put, sQa, sQb, sQc, gQa, gQb, gQc]
    refine wpAnyH_ready (rs := [3]) (by kernel_rfl) (by simp) ?_
    refine AllReadyH.cons (o := _) rfl (fun K hK => ?_) AllReadyH.nil
    go_simp
    refine (hBy.out _).mono ?_
    rintro e w6 ⟨A7, c7, rfl, o7, hB⟩
    have F6 := hid o7.rd
    replace E6 := hid (E6.out.bel hB)
    go_wp2_with fail
    refine hK.out _ _ ?_ (fun hHeld => ?_)
    · exact hHeld.trans (hB.mono hHeld.size)
    clear hK K
    try simp only [Act.put, sQa, sQb, sQc, gQa, gQb, gQc]
    refine' wpAnyH_take (i := 4) (oi := _) (v := ?_) rfl (by kernel_rfl) (by kernel_rfl) (by kernel_rfl) (fun _ _ _ h => h) (Or.inl ⟨by rfl, ?_⟩) (by assumption) ?_
    rotate_left
    · intro W hSw
      go_simp
      first | done | (with_reducible rfl)
    try simp only [Act.put, sQa, sQb, sQc, gQa, gQb, gQc]
    refine' wpAnyH_take (i := 5) (oi := _) (v := ?_) rfl (by kernel_rfl) (by kernel_rfl) (by kernel_rfl) (fun _ _ _ h => h) (Or.inl ⟨by rfl, ?_⟩) (by assumption) ?_
    rotate_left
    · intro W hSw
      go_simp
      first | done | (with_reducible rfl)
    try simp only [Act.put, sQa, sQb, sQc, gQa, gQb, gQc]
    refine wpAnyH_done (by kernel_rfl) ?_ _
    refine NoPanic.normal ?_
    have P6 := hid (rangeBel2 hHeld P5.out)
    have Q6 := hid (rangeBel2 hHeld Q5.out)
    have R6 := hid (rangeBel2 hHeld R5.out)
    have H6 := hid (H5.out.bel hHeld (Nat.lt_of_lt_of_le hlow.out W5.out.size))
    have W6 := hid (W5.out.trans (hHeld.mono W5.out.size))
    have S6 := hid (rangeBel2 hHeld S5.out)
    have B6 := hid (rangeBel2 hHeld B5.out)
    clear P5 Q5 R5 H5 W5 S5 B5
    clear hHeld o6 o7
    have e6 := hid (heap_alloc_new w6 (.cells zTxC 26))
    go_wp2_with (first
      | ((with_reducible refine wpList_load_rng rfl 26 (.tmp 3) rfl (w.heap.size + 1) 0 rfl (txC x1) _ ?_ hux rfl jx1.out ?_); exact Q6.out)
      | (with_reducible refine wpList_alloc_row rfl 26 rfl zTxC zInfoTx ?_)
      | ((with_reducible refine wpList_store_row rfl 26 (.tmp 10) (.tmp 22) rfl w6.heap.size _ rfl rfl 26 zTxC ?_ ?_ ?_ ?_ ?_); exact e6.out; exact ax1.out; exact zx1.out; exact nx1.out; intro w7 hgS hbS hsS; have X7 := hid (xnewP rfl hbS); have G7 := hid hgS; have RR := hid (rangeBel2 X7.out R6.out); clear hgS hbS hsS)
      | ((with_reducible refine wpList_load_rng rfl 23 (.tmp 23) rfl w.heap.size 67 rfl dS _ ?_ hu rfl jd.out ?_); exact RR.out)
      | ((with_reducible refine wpList_store_manyB rfl 23 (.tmp 25) (.tmp 24) rfl w6.heap.size 67 dS (txC x1).toArray 26 rfl rfl ?_ ?_ ?_ ?_ ?_); exact G7.out; exact f2.out; exact jd.out; exact od.out; intro w8 hgT hcT; rw [A2.out] at hgT; have X8 := hid (X7.out.trans (hcT.below X7.out.size (fun b hb e => by omega))); have C8 := hid (rangeOf (l := txC bx) hgT); clear hgT hcT RR G7 X7; have P8 := hid (rangeBel2 X8.out P6.out); have Q8 := hid (rangeBel2 X8.out Q6.out); have R8 := hid (rangeBel2 X8.out R6.out); have H8 := hid (H6.out.bel X8.out (Nat.lt_of_lt_of_le hlow.out W6.out.size)); have W8 := hid (W6.out.trans (X8.out.mono W6.out.size)); have S8 := hid (rangeBel2 X8.out S6.out); have B8 := hid (rangeBel2 X8.out B6.out); have E8 := hid (E6.out.bel X8.out); have F8 := hid (F6.out.bel X8.out); clear P6 Q6 R6 H6 W6 S6 B6 E6 F6))
    refine wp_region_noPanic ?_
    refine wp_region_held_drew (S := fun w' => Below w8.heap.size w8 w') (by kernel_rfl) ?_ (fun hHeld => ?_)
    · exact bel_drew w8
    refine' wpAnyH_take (i := 0) (oi := _) (v := ?_) rfl (by kernel_rfl) (by kernel_rfl) (by kernel_rfl) (fun _ _ _ h => h) (Or.inl ⟨by rfl, ?_⟩) (by assumption) ?_
    rotate_left
    · intro W hSw
      go_simp
      first | done | (with_reducible rfl)
    try simp only [Act.put, sQa, sQb, sQc, gQa, gQb, gQc]
    refine' wpAnyH_take (i := 1) (oi := _) (v := ?_) rfl (by kernel_rfl) (by kernel_rfl) (by kernel_rfl) (fun _ _ _ h => h) (Or.inl ⟨by rfl, ?_⟩) (by assumption) ?_
    rotate_left
    · intro W hSw
      go_simp
      first | done | (with_reducible rfl)
    try simp only [Act.put, sQa, sQb, sQc, gQa, gQb, gQc]
    refine' wpAnyH_take (i := 2) (oi := _) (v := _) rfl (by kernel_rfl) (by kernel_rfl) (by kernel_rfl) (fun _ _ _ h => h) (yieldsIf_load_mid (by rfl) _ _ rfl _ _ rfl _ _ (fun _ h => rangeBel2 h B8.out) hux rfl jx0.out) (by assumption) ?_
    try simp only [Act.put, sQa, sQb, sQc, gQa, gQb, gQc]
    refine' wpAnyH_take (i := 3) (oi := _) (v := _) rfl (by kernel_rfl) (by kernel_rfl) (by kernel_rfl) (fun _ _ _ h => h) (yieldsIf_load_mid (by rfl) _ _ rfl _ _ rfl _ _ (fun _ h => rangeBel2 h P8.out) hux rfl jx0.out) (by assumption) ?_
    try simp only [Act.put, sQa, sQb, sQc, gQa, gQb, gQc]
    refine' wpAnyH_take (i := 4) (oi := _) (v := ?_) rfl (by kernel_rfl) (by kernel_rfl) (by kernel_rfl) (fun _ _ _ h => h) (Or.inl ⟨by rfl, ?_⟩) (by assumption) ?_
    rotate_left
    · intro W hSw
      go_simp
      first | done | (with_reducible rfl)
    try simp only [Act.put, sQa, sQb, sQc, gQa, gQb, gQc]
    refine' wpAnyH_take (i := 5) (oi := _) (v := ?_) rfl (by kernel_rfl) (by kernel_rfl) (by kernel_rfl) (fun _ _ _ h => h) (Or.inl ⟨by rfl, ?_⟩) (by assumption) ?_
    rotate_left
    · intro W hSw
      go_simp
      first | done | (with_reducible rfl)
    try simp only [Act.put, sQa, sQb, sQc, gQa, gQb, gQc]
    refine' wpAnyH_take (i := 6) (oi := _) (v := ?_) rfl (by kernel_rfl) (by kernel_rfl) (by kernel_rfl) (fun _ _ _ h => h) (Or.inl ⟨by rfl, ?_⟩) (by assumption) ?_
    rotate_left
    · intro W hSw
      go_simp
      first | done | (with_reducible rfl)
    try simp only [Act.put, sQa, sQb, sQc, gQa, gQb, gQc]
    refine' wpAnyH_take (i := 7) (oi := _) (v := _) rfl (by kernel_rfl) (by kernel_rfl) (by kernel_rfl) (fun _ _ _ h => h) (yieldsIf_load_mid (by rfl) _ _ rfl _ _ rfl _ _ (fun _ h => rangeBel2 h S8.out) hux rfl jsx.out) (by assumption) ?_
    try simp only [Act.put, sQa, sQb, sQc, gQa, gQb, gQc]
    refine' wpAnyH_take (i := 9) (oi := _) (v := _) rfl (by kernel_rfl) (by kernel_rfl) (by kernel_rfl) (fun _ _ _ h => h) (yieldsIf_load_mid (by rfl) _ _ rfl _ _ rfl _ _ (fun _ h => rangeBel2 h S8.out) hux rfl jsx.out) (by assumption) ?_
    try simp only [Act.put, sQa, sQb, sQc, gQa, gQb, gQc]
    refine wpAnyH_ready (rs := [8]) (by kernel_rfl) (by simp) ?_
    refine AllReadyH.cons (o := _) rfl (fun K hK => ?_) AllReadyH.nil
    go_simp
    refine (hS2.out _ (H8.out.bel hHeld (Nat.lt_of_lt_of_le hlow.out W8.out.size))).mono ?_
    rintro e v8 ⟨rfl, hB⟩
    go_wp2_with fail
    refine hK.out _ _ ?_ (fun hHeld => ?_)
    · exact hHeld.trans (hB.mono hHeld.size)
    clear hK K
    try simp only [Act.put, sQa, sQb, sQc, gQa, gQb, gQc]
    refine' wpAnyH_take (i := 10) (oi := _) (v := ?_) rfl (by kernel_rfl) (by kernel_rfl) (by kernel_rfl) (fun _ _ _ h => h) (Or.inl ⟨by rfl, ?_⟩) (by assumption) ?_
    rotate_left
    · intro W hSw
      go_simp
      first | done | (with_reducible rfl)
    try simp only [Act.put, sQa, sQb, sQc, gQa, gQb, gQc]
    refine' wpAnyH_take (i := 11) (oi := _) (v := ?_) rfl (by kernel_rfl) (by kernel_rfl) (by kernel_rfl) (fun _ _ _ h => h) (Or.inl ⟨by rfl, ?_⟩) (by assumption) ?_
    rotate_left
    · intro W hSw
      go_simp
      first | done | (with_reducible rfl)
    try simp only [Act.put, sQa, sQb, sQc, gQa, gQb, gQc]
    refine' wpAnyH_take (i := 12) (oi := _) (v := ?_) rfl (by kernel_rfl) (by kernel_rfl) (by kernel_rfl) (fun _ _ _ h => h) (Or.inl ⟨by rfl, ?_⟩) (by assumption) ?_
    rotate_left
    · intro W hSw
      go_simp
      first | done | (with_reducible rfl)
    try simp only [Act.put, sQa, sQb, sQc, gQa, gQb, gQc]
    refine' wpAnyH_take (i := 13) (oi := _) (v := ?_) rfl (by kernel_rfl) (by kernel_rfl) (by kernel_rfl) (fun _ _ _ h => h) (Or.inl ⟨by rfl, ?_⟩) (by assumption) ?_
    rotate_left
    · intro W hSw
      go_simp
      first | done | (with_reducible rfl)
    try simp only [Act.put, sQa, sQb, sQc, gQa, gQb, gQc]
    refine' wpAnyH_take (i := 14) (oi := _) (v := ?_) rfl (by kernel_rfl) (by kernel_rfl) (by kernel_rfl) (fun _ _ _ h => h) (Or.inl ⟨by rfl, ?_⟩) (by assumption) ?_
    rotate_left
    · intro W hSw
      go_simp
      first | done | (with_reducible rfl)
    try simp only [Act.put, sQa, sQb, sQc, gQa, gQb, gQc]
    refine' wpAnyH_take (i := 15) (oi := _) (v := ?_) rfl (by kernel_rfl) (by kernel_rfl) (by kernel_rfl) (fun _ _ _ h => h) (Or.inl ⟨by rfl, ?_⟩) (by assumption) ?_
    rotate_left
    · intro W hSw
      go_simp
      first | done | (with_reducible rfl)
    try simp only [Act.put, sQa, sQb, sQc, gQa, gQb, gQc]
    refine' wpAnyH_take (i := 16) (oi := _) (v := ?_) rfl (by kernel_rfl) (by kernel_rfl) (by kernel_rfl) (fun _ _ _ h => h) (Or.inl ⟨by rfl, ?_⟩) (by assumption) ?_
    rotate_left
    · intro W hSw
      go_simp
      first | done | (with_reducible rfl)
    try simp only [Act.put, sQa, sQb, sQc, gQa, gQb, gQc]
    refine' wpAnyH_take (i := 17) (oi := _) (v := ?_) rfl (by kernel_rfl) (by kernel_rfl) (by kernel_rfl) (fun _ _ _ h => h) (Or.inl ⟨by rfl, ?_⟩) (by assumption) ?_
    rotate_left
    · intro W hSw
      go_simp
      first | done | (with_reducible rfl)
    try simp only [Act.put, sQa, sQb, sQc, gQa, gQb, gQc]
    refine' wpAnyH_take (i := 18) (oi := _) (v := _) rfl (by kernel_rfl) (by kernel_rfl) (by kernel_rfl) (fun _ _ _ h => h) (yieldsIf_load_mid (by rfl) _ _ rfl _ _ rfl _ _ (fun _ h => rangeBel2 h P8.out) hux rfl jx0.out) (by assumption) ?_
    try simp only [Act.put, sQa, sQb, sQc, gQa, gQb, gQc]
    refine wpAnyH_ready (rs := [19]) (by kernel_rfl) (by simp) ?_
    refine AllReadyH.cons (o := _) rfl (fun K hK => ?_) AllReadyH.nil
    go_simp
    refine (hYx.out _).mono ?_
    rintro e v19 ⟨A19, c19, rfl, o19, hB⟩
    go_wp2_with fail
    refine hK.out _ _ ?_ (fun hHeld => ?_)
    · exact hHeld.trans (hB.mono hHeld.size)
    clear hK K
    try simp only [Act.put, sQa, sQb, sQc, gQa, gQb, gQc]
    refine' wpAnyH_take (i := 20) (oi := _) (v := ?_) rfl (by kernel_rfl) (by kernel_rfl) (by kernel_rfl) (fun _ _ _ h => h) (Or.inl ⟨by rfl, ?_⟩) (by assumption) ?_
    rotate_left
    · intro W hSw
      go_simp
      first | done | (with_reducible rfl)
    try simp only [Act.put, sQa, sQb, sQc, gQa, gQb, gQc]
    refine' wpAnyH_take (i := 21) (oi := _) (v := ?_) rfl (by kernel_rfl) (by kernel_rfl) (by kernel_rfl) (fun _ _ _ h => h) (Or.inl ⟨by rfl, ?_⟩) (by assumption) ?_
    rotate_left
    · intro W hSw
      go_simp
      first | done | (with_reducible rfl)
    try simp only [Act.put, sQa, sQb, sQc, gQa, gQb, gQc]
    refine' wpAnyH_take (i := 22) (oi := _) (v := ?_) rfl (by kernel_rfl) (by kernel_rfl) (by kernel_rfl) (fun _ _ _ h => h) (Or.inl ⟨by rfl, ?_⟩) (by assumption) ?_
    rotate_left
    · intro W hSw
      go_simp
      first | done | (with_reducible rfl)
    try simp only [Act.put, sQa, sQb, sQc, gQa, gQb, gQc]
    refine' wpAnyH_take (i := 23) (oi := _) (v := ?_) rfl (by kernel_rfl) (by kernel_rfl) (by kernel_rfl) (fun _ _ _ h => h) (Or.inl ⟨by rfl, ?_⟩) (by assumption) ?_
    rotate_left
    · intro W hSw
      go_simp
      first | done | (with_reducible rfl)
    try simp only [Act.put, sQa, sQb, sQc, gQa, gQb, gQc]
    refine' wpAnyH_take (i := 24) (oi := _) (v := _) rfl (by kernel_rfl) (by kernel_rfl) (by kernel_rfl) (fun _ _ _ h => h) (yieldsIf_load_mid (by rfl) _ _ rfl _ _ rfl _ _ (fun _ h => rangeBel2 h P8.out) hux rfl jx0.out) (by assumption) ?_
    try simp only [Act.put, sQa, sQb, sQc, gQa, gQb, gQc]
    refine' wpAnyH_take (i := 27) (oi := _) (v := ?_) rfl (by kernel_rfl) (by kernel_rfl) (by kernel_rfl) (fun _ _ _ h => h) (Or.inl ⟨by rfl, ?_⟩) (by assumption) ?_
    rotate_left
    · intro W hSw
      go_simp
      first | done | (with_reducible rfl)
    try simp only [Act.put, sQa, sQb, sQc, gQa, gQb, gQc]
    refine wpAnyH_ready (rs := [25]) (by kernel_rfl) (by simp) ?_
    refine AllReadyH.cons (o := _) rfl (fun K hK => ?_) AllReadyH.nil
    go_simp
    refine (hYx.out _).mono ?_
    rintro e v25 ⟨A25, c25, rfl, o25, hB⟩
    have k25 := hid (show 88 ≤ c25 from by have := o25.cap.1; have := lvx.out; omega)
    have r25 := hid (show Rd v25 A25 vb from by have := o25.rd.take 88; rw [hTk2.out] at this; exact this)
    go_wp2_with fail
    refine hK.out _ _ ?_ (fun hHeld => ?_)
    · exact hHeld.trans (hB.mono hHeld.size)
    clear hK K
    try simp only [Act.put, sQa, sQb, sQc, gQa, gQb, gQc]
    refine' wpAnyH_take (i := 26) (oi := _) (v := _) rfl (by kernel_rfl) (by kernel_rfl) (by kernel_rfl) (fun _ _ _ h => h) (yieldsIf_slice (by rfl) _ _ _ _ _ rfl _ _ _ _ _ (fun W => run_upto slotU8k A25 120 c25 88 k25.out W) rfl rfl rfl rfl) (by assumption) ?_
    try simp only [Act.put, sQa, sQb, sQc, gQa, gQb, gQc]
    refine wpAnyH_ready (rs := [28]) (by kernel_rfl) (by simp) ?_
    refine AllReadyH.cons (o := _) rfl (fun K hK => ?_) AllReadyH.nil
    go_simp
    refine (hSb.out _ _ _ _ _ r25.out (E8.out.bel hHeld)).mono ?_
    rintro e v28 ⟨rfl, rfl⟩
    go_wp2_with fail
    refine hK.out _ _ ?_ (fun hHeld => ?_)
    · exact hHeld
    clear hK K
    try simp only [Act.put, sQa, sQb, sQc, gQa, gQb, gQc]
    refine' wpAnyH_take (i := 29) (oi := _) (v := ?_) rfl (by kernel_rfl) (by kernel_rfl) (by kernel_rfl) (fun _ _ _ h => h) (Or.inl ⟨by rfl, ?_⟩) (by assumption) ?_
    rotate_left
    · intro W hSw
      go_simp
      first | done | (with_reducible rfl)
    try simp only [Act.put, sQa, sQb, sQc, gQa, gQb, gQc]
    refine' wpAnyH_take (i := 30) (oi := _) (v := ?_) rfl (by kernel_rfl) (by kernel_rfl) (by kernel_rfl) (fun _ _ _ h => h) (Or.inl ⟨by rfl, ?_⟩) (by assumption) ?_
    rotate_left
    · intro W hSw
      go_simp
      first | done | (with_reducible rfl)
    try simp only [Act.put, sQa, sQb, sQc, gQa, gQb, gQc]
    refine' wpAnyH_take (i := 31) (oi := _) (v := ?_) rfl (by kernel_rfl) (by kernel_rfl) (by kernel_rfl) (fun _ _ _ h => h) (Or.inl ⟨by rfl, ?_⟩) (by assumption) ?_
    rotate_left
    · intro W hSw
      go_simp
      first | done | (with_reducible rfl)
    try simp only [Act.put, sQa, sQb, sQc, gQa, gQb, gQc]
    refine' wpAnyH_take (i := 32) (oi := _) (v := ?_) rfl (by kernel_rfl) (by kernel_rfl) (by kernel_rfl) (fun _ _ _ h => h) (Or.inl ⟨by rfl, ?_⟩) (by assumption) ?_
    rotate_left
    · intro W hSw
      go_simp
      first | done | (with_reducible rfl)
    try simp only [Act.put, sQa, sQb, sQc, gQa, gQb, gQc]
    refine' wpAnyH_take (i := 34) (oi := _) (v := _) rfl (by kernel_rfl) (by kernel_rfl) (by kernel_rfl) (fun _ _ _ h => h) (yieldsIf_load_mid (by rfl) _ _ rfl _ _ rfl _ _ (fun _ h => rangeBel2 h C8.out) hux rfl jbx.out) (by assumption) ?_
    try simp only [Act.put, sQa, sQb, sQc, gQa, gQb, gQc]
    refine' wpAnyH_take (i := 35) (oi := _) (v := _) rfl (by kernel_rfl) (by kernel_rfl) (by kernel_rfl) (fun _ _ _ h => h) (yieldsIf_load_mid (by rfl) _ _ rfl _ _ rfl _ _ (fun _ h => rangeBel2 h P8.out) hux rfl jx0.out) (by assumption) ?_
    try simp only [Act.put, sQa, sQb, sQc, gQa, gQb, gQc]
    refine' wpAnyH_take (i := 36) (oi := _) (v := ?_) rfl (by kernel_rfl) (by kernel_rfl) (by kernel_rfl) (fun _ _ _ h => h) (Or.inl ⟨by rfl, ?_⟩) (by assumption) ?_
    rotate_left
    · intro W hSw
      go_simp
      first | done | (with_reducible rfl)
    try simp only [Act.put, sQa, sQb, sQc, gQa, gQb, gQc]
    refine wpAnyH_ready (rs := [33]) (by kernel_rfl) (by simp) ?_
    refine AllReadyH.cons (o := _) rfl (fun K hK => ?_) AllReadyH.nil
    go_simp
    refine (hSc.out _ _ _ _ _ (E8.out.bel hHeld) (F8.out.bel hHeld)).mono ?_
    rintro e v33 ⟨rfl, rfl⟩
    go_wp2_with fail
    refine hK.out _ _ ?_ (fun hHeld => ?_)
    · exact hHeld
    clear hK K
    try simp only [Act.put, sQa, sQb, sQc, gQa, gQb, gQc]
    refine' wpAnyH_take (i := 37) (oi := _) (v := ?_) rfl (by kernel_rfl) (by kernel_rfl) (by kernel_rfl) (fun _ _ _ h => h) (Or.inl ⟨by rfl, ?_⟩) (by assumption) ?_
    rotate_left
    · intro W hSw
      go_simp
      first | done | (with_reducible rfl)
    try simp only [Act.put, sQa, sQb, sQc, gQa, gQb, gQc]
    refine' wpAnyH_take (i := 38) (oi := _) (v := ?_) rfl (by kernel_rfl) (by kernel_rfl) (by kernel_rfl) (fun _ _ _ h => h) (Or.inl ⟨by rfl, ?_⟩) (by assumption) ?_
    rotate_left
    · intro W hSw
      go_simp
      first | done | (with_reducible rfl)
    try simp only [Act.put, sQa, sQb, sQc, gQa, gQb, gQc]
    refine' wpAnyH_take (i := 39) (oi := _) (v := ?_) rfl (by kernel_rfl) (by kernel_rfl) (by kernel_rfl) (fun _ _ _ h => h) (Or.inl ⟨by rfl, ?_⟩) (by assumption) ?_
    rotate_left
    · intro W hSw
      go_simp
      first | done | (with_reducible rfl)
    try simp only [Act.put, sQa, sQb, sQc, gQa, gQb, gQc]
    refine wpAnyH_done (by kernel_rfl) ?_ _
    refine NoPanic.normal ?_
    go_wp2
    go_ret
    exact ⟨rfl, W8.out.trans (hHeld.mono W8.out.size)⟩

/-! ### WHAT THE WALK GIVES, FOR EVERY ARGUMENT AND EVERY WORLD THAT HOLDS THE TABLE -/
set_option maxRecDepth 100000 in
theorem contract (H : Type) (enc : TypeId × Value → H) (W : World) (base : Nat) (args : Array Value) (ds gs : List (DataW H)) (before : List MemPlace)
    (hval0 : ∀ (j : Nat) t v, Tryd.f7.params[j]? = some t → args[j]? = some v → Value.okWide Tryd.prog W .any base t v)
    (hW : DataW.Whole enc Tryd.prog Tryd.f7.params.toList Rows.txSignsSpec.vars false W args.toList ds gs before) (hL : laidMetH Tryd.prog Rows.txSignsRow.laid W) :
    Calls Tryd.prog 7 args W fun e W' => ∃ v, e = .returned v ∧ Rows.txSignsSpec.post enc Tryd.prog Tryd.f7 false true false false W args v W' := by
  have hval : ∀ (j : Nat) t v, Tryd.f7.params[j]? = some t → args[j]? = some v → Value.okWide Tryd.prog W .any base t v := hval0
  have hW' := hW
  obtain ⟨p, q, hA0, hV, rfl, hfz, hnd⟩ := hW
  have hA : DataW.TrodAll enc Tryd.prog W 0 (fun _ => true) true Tryd.f7.params.toList args.toList ds p := hA0
  rw [Tryd.params7] at hA hval
  obtain ⟨v0, vs0, d0, ds0, p0, q0, hargs, rfl, rfl, h0, r0⟩ := trodAll_cons hA
  obtain ⟨v1, vs1, d1, ds1, p1, q1, rfl, rfl, rfl, h1, r1⟩ := trodAll_cons r0
  obtain ⟨rfl, rfl, rfl⟩ := trodAll_nil r1
  obtain rfl : args = #[v0, v1] := by cases args; simp_all
  obtain ⟨rfl, rfl⟩ := trodVars_none hV
  have k0 := h0
  have lt0 : ∀ x ∈ p0, x.block < W.heap.size := by obtain ⟨m, hm⟩ := k0; exact DataW.trod_lt m _ _ _ hm
  obtain ⟨x0, vs0, rfl, w0⟩ := open_struct opensTx Tryd.underlying26 (hval 0 26 v0 rfl rfl) h0
  have k1 := h1
  have lt1 : ∀ x ∈ p1, x.block < W.heap.size := by obtain ⟨m, hm⟩ := k1; exact DataW.trod_lt m _ _ _ hm
  obtain ⟨x1, vs1, rfl, w1⟩ := open_struct opensTx Tryd.underlying26 (hval 1 26 v1 rfl rfl) h1
  clear hA0 hval0
  refine (walk x0 vs0 x1 vs1 W w0 w1 (tab_of hL)).mono fun e W' ⟨he, bel⟩ => ?_
  subst he
  exact ⟨_, rfl, _, _, _, [], _, [], hW', trodAll_mk1 (shut_bool Tryd.underlying4 _), (trodAll_cons_mk (Below.trod laidOut (by kernel_rfl) (of_decide_eq_true (by kernel_rfl)) k0 bel lt0) (trodAll_cons_mk (Below.trod laidOut (by kernel_rfl) (of_decide_eq_true (by kernel_rfl)) k1 bel lt1) trodAll_mk0)), rfl, bel.frame _, fun h => by cases h⟩

theorem laid_met (os : Os) : laidMet Tryd.prog Rows.txSignsRow.laid ((laidWorld os).forCall (fun _ _ => 0) ⟨#[], #[.agg zTxC, .agg zTxC], []⟩).memory :=
  laidMet_of_run' 8 (by kernel_rfl) (by kernel_rfl)
theorem reads (os : Os) {H : Type} (enc : TypeId × Value → H) : ∃ places, DataW.whole enc Tryd.prog ((laidWorld os).forCall (fun _ _ => 0) ⟨#[], #[.agg zTxC, .agg zTxC], []⟩).memory Tryd.f7.params.toList Rows.txSignsSpec.vars false (#[.agg zTxC, .agg zTxC] : Array Value).toList 8 = some ([.agg [.agg (List.replicate 32 (.lit (.int .u8 0))), .agg (List.replicate 32 (.lit (.int .u8 0))), .lit (.int .u64 0), .lit (.int .u64 0), .lit (.int .u64 0), .agg (List.replicate 32 (.lit (.int .u8 0)))], .agg [.agg (List.replicate 32 (.lit (.int .u8 0))), .agg (List.replicate 32 (.lit (.int .u8 0))), .lit (.int .u64 0), .lit (.int .u64 0), .lit (.int .u64 0), .agg (List.replicate 32 (.lit (.int .u8 0)))]], [], places) :=
  ⟨[], by kernel_rfl⟩
set_option maxRecDepth 100000 in
theorem lifted (os : Os) (started : os.Started) (H : Type) (enc : TypeId × Value → H) (F : Stop.Interp) :
    ReturnsInHanded {} Tryd.checked os 7 .any ((OpenSpec.ofChange Rows.txSignsSpec).preRow enc Tryd.prog Tryd.f7 Rows.txSignsRow.domain false Rows.txSignsRow.laid) (((OpenSpec.ofChange Rows.txSignsSpec).at F).post enc Tryd.prog Tryd.f7 false true false false) := by
  obtain ⟨places, hx⟩ := reads os enc
  refine returnsInHanded_of_row (C := Tryd.checked) (s := OpenSpec.ofChange Rows.txSignsSpec) own started (by kernel_rfl) Tryd.func7
    (witness_row_at (enc := enc) (C := Tryd.checked) false (laidWorld os) #[.agg zTxC, .agg zTxC] rfl (by kernel_rfl) (by kernel_rfl) (by kernel_rfl)
      (OpenSpec.preRow_of_cond 8 hx (by kernel_rfl) (fun k hk => by cases hk) (by kernel_rfl) (laid_met os))) ?_
  intro W base args ds gs before hval hW _ _ _ hL _ _
  exact contract H enc W base args ds gs before hval hW hL
theorem said : Rows.TxSignsSaid :=
  OpenClaim.holds_of_cond 7 Tryd.f7 rfl rfl rfl rfl rfl rfl rfl ⟨rfl, rfl, rfl, rfl, rfl⟩ rfl rfl rfl rfl rfl (by kernel_rfl) Tryd.func7 (by kernel_rfl)
    (of_decide_eq_true (by kernel_rfl)) (by unfold Func.isWrapper; first | (rw [if_pos (by decide +kernel)]; kernel_rfl) | (rw [if_neg (by decide +kernel)]; exact ⟨rfl, rfl⟩))
    (fun os started H enc _ F => by rw [OpenClaim.pre_eq_preRow]; exact lifted os started H enc F)
set_option maxRecDepth 100000 in
/-- No parameter wants a stand-in; the program's own looks are off: what the card asks. -/
theorem plain (f : FuncId) (fn : Func) (hf : Tryd.pinned.checked.prog.funcNamed "beadroll/beadrolllaw11.TxSigns" = some f) (hfn : Tryd.pinned.checked.prog.funcs[f]? = some fn) :
    false = Tryd.pinned.checked.prog.looks [] ∧ ∀ (j : Nat) t, fn.params[j]? = some t → Tryd.pinned.checked.prog.wantsStandIn t = false := by
  obtain rfl : f = 7 := Option.some.inj ((show Tryd.prog.funcNamed "beadroll/beadrolllaw11.TxSigns" = some 7 by kernel_rfl).symm.trans hf) |>.symm
  obtain rfl : fn = Tryd.f7 := (Option.some.inj (Tryd.func7.symm.trans hfn)).symm
  refine ⟨by kernel_rfl, fun j t ht => ?_⟩
  rw [Tryd.params7] at ht
  have hm := Array.mem_of_getElem? ht
  simp only [List.mem_toArray, List.mem_cons, List.not_mem_nil, or_false] at hm
  rcases hm with rfl | rfl
  all_goals first | exact (show Tryd.prog.wantsStandIn 26 = false by kernel_rfl)
set_option maxRecDepth 100000 in
/-- ████ THE CARD ████ -/
theorem proved : Rows.TxSignsCardSaid :=
  Claim7.holds_tied_plain_at .later [] _ _ _ _ said (fun _ h => by cases h) (by kernel_rfl) (fun _ h => by cases h) txSigns_row_tie rfl ⟨rfl, rfl⟩ (by kernel_rfl) rfl plain (by kernel_rfl)
#print axioms proved
end Go.Proofs.YtaegdiggmgifiaaDoor.txSigns
