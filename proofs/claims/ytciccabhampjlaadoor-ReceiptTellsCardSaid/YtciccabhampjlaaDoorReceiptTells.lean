/-
  The Go function ReceiptTells returns true: a deposit's id, whether a receipt may be, its bytes, and the receipt of bytes, or the errors, are the document's: any deposit, receipt and bytes; its arguments read afterwards as before.
  Conditions: none. The frame around the walk was written by program (proof-skeleton.mjs).
-/
import Derived.Test.YtciccabhampjlaaDoorRows
import Derived.Test.YtciccabhampjlaaDoorDoor
import Derived.WalkKit
import Derived.ProofKit
import Derived.OpenShut
import Derived.ShutString
import Derived.ChangeOld
import Derived.Below
import Derived.Test.YtciccabhampjlaaDoorRpD
import Derived.Test.YtciccabhampjlaaDoorRpQ
import Derived.Test.YtciccabhampjlaaDoorRef12b
import Derived.Test.YtciccabhampjlaaDoorBits
namespace Go.Proofs.YtciccabhampjlaaDoor.receiptTells
open Go.ChangeShapes Go.WideShapes Go.ChangeAt Go.RowKit
open Go.ChangeMaps (open_string shut_string)
set_option linter.unusedVariables false

theorem own : ownKnob Tryd.prog.godebug = none := by kernel_rfl
theorem laidOut : laidOutB Tryd.prog = true := by kernel_rfl

/-- WHAT THE WALK IS TOLD OF A SLICE OF INTEGERS THAT CAME IN: it is nil; or it leads to a row of 'cap' cells, the numbers 'zs' (the first 'len' are its elements, the rest its spare room), each fitting its kind. -/
def IsRow (k : IntKind) (w : World) (a : Option Addr) (len cap : Nat) (zs : List Int) : Prop :=
  (a = none ∧ len = 0 ∧ cap = 0 ∧ zs = []) ∨
  ∃ x, a = some x ∧ len ≤ cap ∧ cap ≤ maxLen ∧ zs.length = cap ∧ (∀ i, i < zs.length → w.cell? (x.add i) = some (.int k (zs.getD i 0))) ∧ ∀ n ∈ zs, (Lit.int k n).wf = true

/-! ### the walk -/
open Go.Proofs.YtciccabhampjlaaDoor
set_option linter.unusedSimpArgs false
set_option maxRecDepth 100000 in
set_option maxHeartbeats 8000000 in
theorem walk (x0 : Dp) (vs0 : List Value) (x1 : Rc) (vs1 : List Value) (a2 : Option Addr) (len2 cap2 : Nat) (z2 : List Int) (w : World) (w0 : Enc.rep (fun b => b < w.heap.size) w x0 vs0) (w1 : Enc.rep (fun b => b < w.heap.size) w x1 vs1) (w2 : IsRow .u8 w a2 len2 cap2 z2) (hT : Tab w) :
    Calls Tryd.prog 4 #[.agg vs0.toArray, .agg vs1.toArray, .slice a2 len2 cap2] w fun e w' => e = .returned (.bool true) ∧ Below w.heap.size w w' := by
  obtain ⟨rfl, hx⟩ := rep_dp w0
  obtain ⟨rfl, hy⟩ := rep_rc w1
  obtain ⟨b, rfl, hv, hvd, hdm⟩ := rd_of_row w2
  have hur := Tryd.underlying26
  have hud := Tryd.underlying35
  have wa := ext_alloc w (.cells (dpC x0).toArray 35)
  have wb := ext_alloc (w.alloc (.cells (dpC x0).toArray 35)) (.cells (rcC x1).toArray 26)
  have D0 := hid (rangeBel2 wb (rangeOf (heap_alloc_new w (.cells (dpC x0).toArray 35))))
  have P0 := hid (rangeOf (heap_alloc_new (w.alloc (.cells (dpC x0).toArray 35)) (.cells (rcC x1).toArray 26)))
  rw [World.size_alloc] at P0
  have W0 := hid (wa.trans (wb.mono wa.size))
  have V0 := hid (hv.bel W0.out)
  have H0 := hid (hT.bel W0.out hT.low)
  have hlow := hid hT.low
  clear hv hT w0 w1 w2 wa wb
  by_cases h100 : 100 < b.length
  · have q1 : decide ((100 : Int) < (b.length : Int)) = true := decide_eq_true (by omega)
    generalize dpC x0 = cd at *
    generalize rcC x1 = cx at *
    go_enter Tryd.func4, Tryd.ntmps4
    go_wp2
    go_ret
    exact ⟨rfl, W0.out⟩
  have q1 : decide ((100 : Int) < (b.length : Int)) = false := decide_eq_false (by omega)
  have hTw := hid (fun W hW => Twin_any a2 b.length cap2 b W hW rfl (by omega))
  have hBp := hid (fun W => PRpBytes_any x1 W)
  have hBr := hid (fun W => RRcBytes_any x1 W)
  have hRp := hid (fun A c W (g1 : Rd W A b) (g2 : b.length ≤ c) (g3 : c ≤ maxLen) => PRpRead_any A c b W g1 g2 g3 (by omega))
  have hRr := hid (fun W (g1 : Rd W a2 b) => RRcRead_any a2 cap2 b W g1 hvd hdm (by omega))
  have hDp := hid (fun W hT => PRpDeposit_any x0 hx W hT)
  have hDr := hid (fun W => RDeposit_any x0 hx W)
  have hCp := hid (fun W => PRpCheck_any x1 W)
  have hCr := hid (fun W => RRcCheck_any x1 W)
  have hEd : ∀ W, (Op.equalIn 10000 23 (.agg ((idD x0).1.map bv).toArray) (.agg ((idD x0).1.map bv).toArray)).run Tryd.prog W = .ok true W := fun W => eqd_is (idD x0) (idD x0) true (decide_eq_true rfl) W
  have hEr : ∀ W, (Op.equalIn 10000 26 (.agg (rcC (readR b)).toArray) (.agg (rcC (readR b)).toArray)).run Tryd.prog W = .ok true W := fun W => eqrc_is (readR b) (readR b) (readR_ok b) (readR_ok b) true (decide_eq_true rfl) W
  have hSo := hid (fun A D c d W (g1 : Rd W A (rcO x1)) (g2 : Rd W D (rcO x1)) => Same_yes A D (rcO x1).length (rcO x1).length c d (rcO x1) (rcO x1) W g1 g2 rfl rfl rfl)
  have hSb := hid (fun A c W (g1 : Rd W A b) (g2 : Rd W a2 b) => Same_yes A a2 b.length b.length c cap2 b b W g1 g2 rfl rfl rfl)
  have jd := hid (sizeDp x0)
  have nx1 := hid (one_rc (x1))
  have jx1 := hid (sizeRc (x1))
  have ax1 := hid (sizeRcA (x1))
  have zx1 := hid (zSizeRc (x1))
  have ngx := hid (one_rc (readR b))
  have jgx := hid (sizeRc (readR b))
  have agx := hid (sizeRcA (readR b))
  have zgx := hid (zSizeRc (readR b))
  obtain ⟨gx, hgx⟩ : ∃ y, readR b = y := ⟨_, rfl⟩
  rw [hgx] at ngx jgx agx zgx
  rw [hgx] at hEr hRp hRr
  clear hgx
  obtain ⟨y, hy9⟩ : ∃ y, rcO x1 = y := ⟨_, rfl⟩
  rw [hy9] at hBp hBr hSo
  clear hy9
  generalize rcE x1 = ee at *
  generalize readRE b = ge at *
  generalize (idD x0).1.map bv = ci at *
  generalize dpC x0 = cd at *
  go_enter Tryd.func4, Tryd.ntmps4
  go_wp2_with fail
  generalize (w.alloc (.cells cd.toArray 35)).alloc (.cells (rcC x1).toArray 26) = w0 at *
  refine (hTw.out _ V0.out).mono ?_
  rintro e w1 ⟨A1, c1, rfl, hO, hb⟩
  have D1 := hid (rangeBel2 hb D0.out)
  have P1 := hid (rangeBel2 hb P0.out)
  have V1 := hid (V0.out.bel hb)
  have H1 := hid (H0.out.bel hb (Nat.lt_of_lt_of_le hlow.out W0.out.size))
  have W1 := hid (W0.out.trans (hb.mono W0.out.size))
  clear D0 P0 V0 H0 W0
  have O1 := hid hO.rd
  have o1 := hid hO.cap
  clear hb hO
  go_wp2_with (first
    | ((with_reducible refine wpList_load_rng rfl 26 (.tmp 4) rfl (w.heap.size + 1) 0 rfl (rcC x1) _ ?_ hur rfl jx1.out ?_); exact P1.out))
  refine (hBp.out _).mono ?_
  rintro e w2 ⟨A2, c2, rfl, hO, hb⟩
  have D2 := hid (rangeBel2 hb D1.out)
  have P2 := hid (rangeBel2 hb P1.out)
  have V2 := hid (V1.out.bel hb)
  have H2 := hid (H1.out.bel hb (Nat.lt_of_lt_of_le hlow.out W1.out.size))
  have W2 := hid (W1.out.trans (hb.mono W1.out.size))
  have O2 := hid (O1.out.bel hb)
  clear D1 P1 V1 H1 W1 O1
  have Y2 := hid hO.rd
  clear hb hO
  go_wp2_with (first
    | ((with_reducible refine wpList_load_rng rfl 26 (.tmp 4) rfl (w.heap.size + 1) 0 rfl (rcC x1) _ ?_ hur rfl jx1.out ?_); exact P2.out))
  refine (hBr.out _).mono ?_
  rintro e w3 ⟨A3, c3, rfl, hO, hb⟩
  have D3 := hid (rangeBel2 hb D2.out)
  have P3 := hid (rangeBel2 hb P2.out)
  have V3 := hid (V2.out.bel hb)
  have H3 := hid (H2.out.bel hb (Nat.lt_of_lt_of_le hlow.out W2.out.size))
  have W3 := hid (W2.out.trans (hb.mono W2.out.size))
  have O3 := hid (O2.out.bel hb)
  have Y3 := hid (Y2.out.bel hb)
  clear D2 P2 V2 H2 W2 O2 Y2
  have Z3 := hid hO.rd
  clear hb hO
  go_wp2_with fail
  refine (hRp.out _ _ _ O3.out o1.out.1 o1.out.2).mono ?_
  rintro e w4 ⟨rfl, hb⟩
  have D4 := hid (rangeBel2 hb D3.out)
  have P4 := hid (rangeBel2 hb P3.out)
  have V4 := hid (V3.out.bel hb)
  have H4 := hid (H3.out.bel hb (Nat.lt_of_lt_of_le hlow.out W3.out.size))
  have W4 := hid (W3.out.trans (hb.mono W3.out.size))
  have O4 := hid (O3.out.bel hb)
  have Y4 := hid (Y3.out.bel hb)
  have Z4 := hid (Z3.out.bel hb)
  clear D3 P3 V3 H3 W3 O3 Y3 Z3
  clear hb 
  have e4 := hid (heap_alloc_new w4 (.cells zRcC 26))
  go_wp2_with (first
    | (with_reducible refine wpList_alloc_row rfl 26 rfl zRcC zInfoRc ?_)
    | ((with_reducible refine wpList_store_row rfl 26 (.tmp 12) (.tmp 35) rfl _ _ rfl rfl 26 zRcC ?_ ?_ ?_ ?_ ?_); exact e4.out; exact agx.out; exact zgx.out; exact ngx.out; intro w5 hgS hbS hsS; have X5 := hid (xnewP rfl hbS); have Q5 := hid (rangeOf (l := rcC gx) hgS); clear hgS hbS hsS; have D5 := hid (rangeBel2 X5.out D4.out); have P5 := hid (rangeBel2 X5.out P4.out); have V5 := hid (V4.out.bel X5.out); have H5 := hid (H4.out.bel X5.out (Nat.lt_of_lt_of_le hlow.out W4.out.size)); have W5 := hid (W4.out.trans (X5.out.mono W4.out.size)); have O5 := hid (O4.out.bel X5.out); have Y5 := hid (Y4.out.bel X5.out); have Z5 := hid (Z4.out.bel X5.out); clear D4 P4 V4 H4 W4 O4 Y4 Z4))
  refine (hRr.out _ V5.out).mono ?_
  rintro e w6 ⟨rfl, hb⟩
  have D6 := hid (rangeBel2 hb D5.out)
  have P6 := hid (rangeBel2 hb P5.out)
  have V6 := hid (V5.out.bel hb)
  have H6 := hid (H5.out.bel hb (Nat.lt_of_lt_of_le hlow.out W5.out.size))
  have W6 := hid (W5.out.trans (hb.mono W5.out.size))
  have O6 := hid (O5.out.bel hb)
  have Y6 := hid (Y5.out.bel hb)
  have Z6 := hid (Z5.out.bel hb)
  have Q6 := hid (rangeBel2 hb Q5.out)
  clear D5 P5 V5 H5 W5 O5 Y5 Z5 Q5
  clear hb 
  have e6 := hid (heap_alloc_new w6 (.cells zRcC 26))
  go_wp2_with (first
    | (with_reducible refine wpList_alloc_row rfl 26 rfl zRcC zInfoRc ?_)
    | ((with_reducible refine wpList_store_row rfl 26 (.tmp 14) (.tmp 40) rfl _ _ rfl rfl 26 zRcC ?_ ?_ ?_ ?_ ?_); exact e6.out; exact agx.out; exact zgx.out; exact ngx.out; intro w7 hgS hbS hsS; have X7 := hid (xnewP rfl hbS); have U7 := hid (rangeOf (l := rcC gx) hgS); clear hgS hbS hsS; have D7 := hid (rangeBel2 X7.out D6.out); have P7 := hid (rangeBel2 X7.out P6.out); have V7 := hid (V6.out.bel X7.out); have H7 := hid (H6.out.bel X7.out (Nat.lt_of_lt_of_le hlow.out W6.out.size)); have W7 := hid (W6.out.trans (X7.out.mono W6.out.size)); have O7 := hid (O6.out.bel X7.out); have Y7 := hid (Y6.out.bel X7.out); have Z7 := hid (Z6.out.bel X7.out); have Q7 := hid (rangeBel2 X7.out Q6.out); clear D6 P6 V6 H6 W6 O6 Y6 Z6 Q6))
  refine wp_region_noPanic ?_
  refine wp_region_held_drew (S := fun w' => Below w7.heap.size w7 w') (by kernel_rfl) ?_ (fun hHeld => ?_)
  · exact bel_drew w7
  refine' wpAnyH_take (i := 0) (oi := _) (v := _) rfl (by kernel_rfl) (by kernel_rfl) (by kernel_rfl) (fun _ _ _ h => h) (yieldsIf_load_mid (by rfl) _ _ rfl _ _ rfl _ _ (fun _ h => rangeBel2 h D7.out) hud rfl jd.out) (by assumption) ?_
  try simp only [Act.put, sQa, sQb, sQc, gQa, gQb, gQc]
  refine' wpAnyH_take (i := 2) (oi := _) (v := _) rfl (by kernel_rfl) (by kernel_rfl) (by kernel_rfl) (fun _ _ _ h => h) (yieldsIf_load_mid (by rfl) _ _ rfl _ _ rfl _ _ (fun _ h => rangeBel2 h D7.out) hud rfl jd.out) (by assumption) ?_
  try simp only [Act.put, sQa, sQb, sQc, gQa, gQb, gQc]
  refine wpAnyH_ready (rs := [1]) (by kernel_rfl) (by simp) ?_
  refine AllReadyH.cons (o := _) rfl (fun K hK => ?_) AllReadyH.nil
  go_simp
  refine (hDp.out _ (H7.out.bel hHeld (Nat.lt_of_lt_of_le hlow.out W7.out.size))).mono ?_
  rintro e v1 ⟨rfl, hB⟩
  go_wp2_with fail
  refine hK.out _ _ ?_ (fun hHeld => ?_)
  · exact hHeld.trans (hB.mono hHeld.size)
  clear hK K
  try simp only [Act.put, sQa, sQb, sQc, gQa, gQb, gQc]
  refine wpAnyH_ready (rs := [3]) (by kernel_rfl) (by simp) ?_
  refine AllReadyH.cons (o := _) rfl (fun K hK => ?_) AllReadyH.nil
  go_simp
  refine (hDr.out _).mono ?_
  rintro e v3 ⟨rfl, hB⟩
  go_wp2_with fail
  refine hK.out _ _ ?_ (fun hHeld => ?_)
  · exact hHeld.trans (hB.mono hHeld.size)
  clear hK K
  try simp only [Act.put, sQa, sQb, sQc, gQa, gQb, gQc]
  refine' wpAnyH_take (i := 4) (oi := _) (v := ?_) rfl (by kernel_rfl) (by kernel_rfl) (by kernel_rfl) (fun _ _ _ h => h) (Or.inl ⟨by rfl, ?_⟩) (by assumption) ?_
  rotate_left
  · intro W hSw
    go_simp
    first | done | (with_reducible rfl)
  try simp only [Act.put, sQa, sQb, sQc, gQa, gQb, gQc]
  refine' wpAnyH_take (i := 5) (oi := _) (v := ?_) rfl (by kernel_rfl) (by kernel_rfl) (by kernel_rfl) (fun _ _ _ h => h) (Or.inl ⟨by rfl, ?_⟩) (by assumption) ?_
  rotate_left
  · intro W hSw
    go_simp
    first | done | (with_reducible rfl)
  try simp only [Act.put, sQa, sQb, sQc, gQa, gQb, gQc]
  refine' wpAnyH_take (i := 6) (oi := _) (v := _) rfl (by kernel_rfl) (by kernel_rfl) (by kernel_rfl) (fun _ _ _ h => h) (yieldsIf_load_mid (by rfl) _ _ rfl _ _ rfl _ _ (fun _ h => rangeBel2 h P7.out) hur rfl jx1.out) (by assumption) ?_
  try simp only [Act.put, sQa, sQb, sQc, gQa, gQb, gQc]
  refine' wpAnyH_take (i := 8) (oi := _) (v := _) rfl (by kernel_rfl) (by kernel_rfl) (by kernel_rfl) (fun _ _ _ h => h) (yieldsIf_load_mid (by rfl) _ _ rfl _ _ rfl _ _ (fun _ h => rangeBel2 h P7.out) hur rfl jx1.out) (by assumption) ?_
  try simp only [Act.put, sQa, sQb, sQc, gQa, gQb, gQc]
  refine wpAnyH_ready (rs := [7]) (by kernel_rfl) (by simp) ?_
  refine AllReadyH.cons (o := _) rfl (fun K hK => ?_) AllReadyH.nil
  go_simp
  refine (hCp.out _).mono ?_
  rintro e v7 ⟨rfl, hB⟩
  go_wp2_with fail
  refine hK.out _ _ ?_ (fun hHeld => ?_)
  · exact hHeld.trans (hB.mono hHeld.size)
  clear hK K
  try simp only [Act.put, sQa, sQb, sQc, gQa, gQb, gQc]
  refine wpAnyH_ready (rs := [9]) (by kernel_rfl) (by simp) ?_
  refine AllReadyH.cons (o := _) rfl (fun K hK => ?_) AllReadyH.nil
  go_simp
  refine (hCr.out _).mono ?_
  rintro e v9 ⟨rfl, hB⟩
  go_wp2_with fail
  refine hK.out _ _ ?_ (fun hHeld => ?_)
  · exact hHeld.trans (hB.mono hHeld.size)
  clear hK K
  try simp only [Act.put, sQa, sQb, sQc, gQa, gQb, gQc]
  refine' wpAnyH_take (i := 10) (oi := _) (v := ?_) rfl (by kernel_rfl) (by kernel_rfl) (by kernel_rfl) (fun _ _ _ h => h) (Or.inl ⟨by rfl, ?_⟩) (by assumption) ?_
  rotate_left
  · intro W hSw
    go_simp
    first | done | (with_reducible rfl)
  try simp only [Act.put, sQa, sQb, sQc, gQa, gQb, gQc]
  refine' wpAnyH_take (i := 11) (oi := _) (v := ?_) rfl (by kernel_rfl) (by kernel_rfl) (by kernel_rfl) (fun _ _ _ h => h) (Or.inl ⟨by rfl, ?_⟩) (by assumption) ?_
  rotate_left
  · intro W hSw
    go_simp
    first | done | (with_reducible rfl)
  try simp only [Act.put, sQa, sQb, sQc, gQa, gQb, gQc]
  refine' wpAnyH_take (i := 12) (oi := _) (v := ?_) rfl (by kernel_rfl) (by kernel_rfl) (by kernel_rfl) (fun _ _ _ h => h) (Or.inl ⟨by rfl, ?_⟩) (by assumption) ?_
  rotate_left
  · intro W hSw
    go_simp
    first | done | (with_reducible rfl)
  try simp only [Act.put, sQa, sQb, sQc, gQa, gQb, gQc]
  refine wpAnyH_done (by kernel_rfl) ?_ _
  refine NoPanic.normal ?_
  rename World => w8
  have D8 := hid (rangeBel2 hHeld D7.out)
  have P8 := hid (rangeBel2 hHeld P7.out)
  have V8 := hid (V7.out.bel hHeld)
  have H8 := hid (H7.out.bel hHeld (Nat.lt_of_lt_of_le hlow.out W7.out.size))
  have W8 := hid (W7.out.trans (hHeld.mono W7.out.size))
  have O8 := hid (O7.out.bel hHeld)
  have Y8 := hid (Y7.out.bel hHeld)
  have Z8 := hid (Z7.out.bel hHeld)
  have Q8 := hid (rangeBel2 hHeld Q7.out)
  have U8 := hid (rangeBel2 hHeld U7.out)
  clear D7 P7 V7 H7 W7 O7 Y7 Z7 Q7 U7
  clear hHeld
  go_wp2_with fail
  refine (hSo.out _ _ _ _ _ Y8.out Z8.out).mono ?_
  rintro e w9 ⟨rfl, rfl⟩
  go_wp2_with (first
    | ((with_reducible refine wpList_load_rng ?_ 26 (.tmp 12) rfl _ 0 rfl (rcC gx) _ ?_ hur rfl jgx.out ?_); rfl; exact Q8.out)
    | ((with_reducible refine wpList_load_rng ?_ 26 (.tmp 14) rfl _ 0 rfl (rcC gx) _ ?_ hur rfl jgx.out ?_); rfl; exact U8.out))
  refine (hSb.out _ _ _ O8.out V8.out).mono ?_
  rintro e w9 ⟨rfl, rfl⟩
  go_wp2
  go_ret
  exact ⟨rfl, W8.out⟩

/-! ### WHAT THE WALK GIVES, FOR EVERY ARGUMENT AND EVERY WORLD THAT HOLDS THE TABLE -/
set_option maxRecDepth 100000 in
theorem contract (H : Type) (enc : TypeId × Value → H) (W : World) (base : Nat) (args : Array Value) (ds gs : List (DataW H)) (before : List MemPlace)
    (hval0 : ∀ (j : Nat) t v, Tryd.f4.params[j]? = some t → args[j]? = some v → Value.okWide Tryd.prog W .any base t v)
    (hW : DataW.Whole enc Tryd.prog Tryd.f4.params.toList Rows.receiptTellsSpec.vars false W args.toList ds gs before) (hL : laidMetH Tryd.prog Rows.receiptTellsRow.laid W) :
    Calls Tryd.prog 4 args W fun e W' => ∃ v, e = .returned v ∧ Rows.receiptTellsSpec.post enc Tryd.prog Tryd.f4 false true false false W args v W' := by
  have hval : ∀ (j : Nat) t v, Tryd.f4.params[j]? = some t → args[j]? = some v → Value.okWide Tryd.prog W .any base t v := hval0
  have hW' := hW
  obtain ⟨p, q, hA0, hV, rfl, hfz, hnd⟩ := hW
  have hA : DataW.TrodAll enc Tryd.prog W 0 (fun _ => true) true Tryd.f4.params.toList args.toList ds p := hA0
  rw [Tryd.params4] at hA hval
  obtain ⟨v0, vs0, d0, ds0, p0, q0, hargs, rfl, rfl, h0, r0⟩ := trodAll_cons hA
  obtain ⟨v1, vs1, d1, ds1, p1, q1, rfl, rfl, rfl, h1, r1⟩ := trodAll_cons r0
  obtain ⟨v2, vs2, d2, ds2, p2, q2, rfl, rfl, rfl, h2, r2⟩ := trodAll_cons r1
  obtain ⟨rfl, rfl, rfl⟩ := trodAll_nil r2
  obtain rfl : args = #[v0, v1, v2] := by cases args; simp_all
  obtain ⟨rfl, rfl⟩ := trodVars_none hV
  have k0 := h0
  have lt0 : ∀ x ∈ p0, x.block < W.heap.size := by obtain ⟨m, hm⟩ := k0; exact DataW.trod_lt m _ _ _ hm
  obtain ⟨x0, vs0, rfl, w0⟩ := open_struct opensDp Tryd.underlying35 (hval 0 35 v0 rfl rfl) h0
  have k1 := h1
  have lt1 : ∀ x ∈ p1, x.block < W.heap.size := by obtain ⟨m, hm⟩ := k1; exact DataW.trod_lt m _ _ _ hm
  obtain ⟨x1, vs1, rfl, w1⟩ := open_struct opensRc Tryd.underlying26 (hval 1 26 v1 rfl rfl) h1
  obtain ⟨a2, len2, cap2, rfl⟩ := okWide_slice Tryd.underlying29 (hval 2 29 v2 rfl rfl)
  have k2 := h2
  have lt2 : ∀ x ∈ p2, x.block < W.heap.size := by obtain ⟨m, hm⟩ := k2; exact DataW.trod_lt m _ _ _ hm
  obtain ⟨z2, w2⟩ : ∃ zs, IsRow .u8 W a2 len2 cap2 zs := by
    obtain ⟨fuel, hf⟩ := h2
    rcases open_ints Tryd.underlying29 Tryd.underlying5 (by kernel_rfl) hf with ⟨hcs, _⟩ | ⟨x, l, c, zs, hcs, _, hl, hm, hz, _, hcell, hwz⟩
    · simp [Value.cells] at hcs
      obtain ⟨rfl, rfl, rfl⟩ := hcs
      exact ⟨[], .inl ⟨rfl, rfl, rfl, rfl⟩⟩
    · simp [Value.cells] at hcs
      obtain ⟨rfl, rfl, rfl⟩ := hcs
      exact ⟨zs, .inr ⟨_, rfl, hl, hm, by simpa using hz, hcell, hwz⟩⟩
  clear hA0 hval0
  refine (walk x0 vs0 x1 vs1 a2 len2 cap2 z2 W w0 w1 w2 (tab_of hL)).mono fun e W' ⟨he, bel⟩ => ?_
  subst he
  exact ⟨_, rfl, _, _, _, [], _, [], hW', trodAll_mk1 (shut_bool Tryd.underlying4 _), (trodAll_cons_mk (Below.trod laidOut (by kernel_rfl) (of_decide_eq_true (by kernel_rfl)) k0 bel lt0) (trodAll_cons_mk (Below.trod laidOut (by kernel_rfl) (of_decide_eq_true (by kernel_rfl)) k1 bel lt1) (trodAll_cons_mk (Below.trod laidOut (by kernel_rfl) (of_decide_eq_true (by kernel_rfl)) k2 bel lt2) trodAll_mk0))), rfl, bel.frame _, fun h => by cases h⟩

theorem laid_met (os : Os) : laidMet Tryd.prog Rows.receiptTellsRow.laid ((laidWorld os).forCall (fun _ _ => 0) ⟨#[], #[.agg (dpC ⟨0, z0, 0⟩).toArray, .agg zRcC, .slice none 0 0], []⟩).memory :=
  laidMet_of_run' 8 (by kernel_rfl) (by kernel_rfl)
theorem reads (os : Os) {H : Type} (enc : TypeId × Value → H) : ∃ places, DataW.whole enc Tryd.prog ((laidWorld os).forCall (fun _ _ => 0) ⟨#[], #[.agg (dpC ⟨0, z0, 0⟩).toArray, .agg zRcC, .slice none 0 0], []⟩).memory Tryd.f4.params.toList Rows.receiptTellsSpec.vars false (#[.agg (dpC ⟨0, z0, 0⟩).toArray, .agg zRcC, .slice none 0 0] : Array Value).toList 8 = some ([.agg [.lit (.int .u64 0), .agg (List.replicate 32 (.lit (.int .u8 0))), .lit (.int .u64 0)], .agg [.lit (.int .u8 0), .agg (List.replicate 32 (.lit (.int .u8 0))), .lit (.int .i64 0)], .nil], [], places) :=
  ⟨[], by kernel_rfl⟩
set_option maxRecDepth 100000 in
theorem lifted (os : Os) (started : os.Started) (H : Type) (enc : TypeId × Value → H) (F : Stop.Interp) :
    ReturnsInHanded {} Tryd.checked os 4 .any ((OpenSpec.ofChange Rows.receiptTellsSpec).preRow enc Tryd.prog Tryd.f4 Rows.receiptTellsRow.domain false Rows.receiptTellsRow.laid) (((OpenSpec.ofChange Rows.receiptTellsSpec).at F).post enc Tryd.prog Tryd.f4 false true false false) := by
  obtain ⟨places, hx⟩ := reads os enc
  refine returnsInHanded_of_row (C := Tryd.checked) (s := OpenSpec.ofChange Rows.receiptTellsSpec) own started (by kernel_rfl) Tryd.func4
    (witness_row_at (enc := enc) (C := Tryd.checked) false (laidWorld os) #[.agg (dpC ⟨0, z0, 0⟩).toArray, .agg zRcC, .slice none 0 0] rfl (by kernel_rfl) (by kernel_rfl) (by kernel_rfl)
      (OpenSpec.preRow_of_cond 8 hx (by kernel_rfl) (fun k hk => by cases hk) (by kernel_rfl) (laid_met os))) ?_
  intro W base args ds gs before hval hW _ _ _ hL _ _
  exact contract H enc W base args ds gs before hval hW hL
theorem said : Rows.ReceiptTellsSaid :=
  OpenClaim.holds_of_cond 4 Tryd.f4 rfl rfl rfl rfl rfl rfl rfl ⟨rfl, rfl, rfl, rfl, rfl⟩ rfl rfl rfl rfl rfl (by kernel_rfl) Tryd.func4 (by kernel_rfl)
    (of_decide_eq_true (by kernel_rfl)) (by unfold Func.isWrapper; first | (rw [if_pos (by decide +kernel)]; kernel_rfl) | (rw [if_neg (by decide +kernel)]; exact ⟨rfl, rfl⟩))
    (fun os started H enc _ F => by rw [OpenClaim.pre_eq_preRow]; exact lifted os started H enc F)
set_option maxRecDepth 100000 in
/-- No parameter wants a stand-in; the program's own looks are off: what the card asks. -/
theorem plain (f : FuncId) (fn : Func) (hf : Tryd.pinned.checked.prog.funcNamed "beadroll/beadrolllaw12.ReceiptTells" = some f) (hfn : Tryd.pinned.checked.prog.funcs[f]? = some fn) :
    false = Tryd.pinned.checked.prog.looks [] ∧ ∀ (j : Nat) t, fn.params[j]? = some t → Tryd.pinned.checked.prog.wantsStandIn t = false := by
  obtain rfl : f = 4 := Option.some.inj ((show Tryd.prog.funcNamed "beadroll/beadrolllaw12.ReceiptTells" = some 4 by kernel_rfl).symm.trans hf) |>.symm
  obtain rfl : fn = Tryd.f4 := (Option.some.inj (Tryd.func4.symm.trans hfn)).symm
  refine ⟨by kernel_rfl, fun j t ht => ?_⟩
  rw [Tryd.params4] at ht
  have hm := Array.mem_of_getElem? ht
  simp only [List.mem_toArray, List.mem_cons, List.not_mem_nil, or_false] at hm
  rcases hm with rfl | rfl | rfl
  all_goals first | exact (show Tryd.prog.wantsStandIn 35 = false by kernel_rfl) | exact (show Tryd.prog.wantsStandIn 26 = false by kernel_rfl) | exact (show Tryd.prog.wantsStandIn 29 = false by kernel_rfl)
set_option maxRecDepth 100000 in
/-- ████ THE CARD ████ -/
theorem proved : Rows.ReceiptTellsCardSaid :=
  Claim7.holds_tied_plain_at .later [] _ _ _ _ said (fun _ h => by cases h) (by kernel_rfl) (fun _ h => by cases h) receiptTells_row_tie rfl ⟨rfl, rfl⟩ (by kernel_rfl) rfl plain (by kernel_rfl)
#print axioms proved
end Go.Proofs.YtciccabhampjlaaDoor.receiptTells
