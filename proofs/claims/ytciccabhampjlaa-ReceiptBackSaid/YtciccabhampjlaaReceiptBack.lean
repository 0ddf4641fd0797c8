/-
  The Go function ReceiptBack returns true: a receipt's bytes tell it; what is read has these bytes: any one, and bytes; its arguments read afterwards as before.
  Conditions: none. The frame around the walk was written by program (proof-skeleton.mjs).
-/
import Derived.Test.YtciccabhampjlaaRows
import Derived.WalkKit
import Derived.ProofKit
import Derived.OpenShut
import Derived.ShutString
import Derived.ChangeOld
import Derived.Below
import Derived.Test.YtciccabhampjlaaAlive12
namespace Go.Proofs.Ytciccabhampjlaa.receiptBack
open Go.ChangeShapes Go.WideShapes Go.ChangeAt Go.RowKit
open Go.ChangeMaps (open_string shut_string)
set_option linter.unusedVariables false

theorem own : ownKnob Try.prog.godebug = none := by kernel_rfl
theorem laidOut : laidOutB Try.prog = true := by kernel_rfl

/-- WHAT THE WALK IS TOLD OF A SLICE OF INTEGERS THAT CAME IN: it is nil; or it leads to a row of 'cap' cells, the numbers 'zs' (the first 'len' are its elements, the rest its spare room), each fitting its kind. -/
def IsRow (k : IntKind) (w : World) (a : Option Addr) (len cap : Nat) (zs : List Int) : Prop :=
  (a = none ∧ len = 0 ∧ cap = 0 ∧ zs = []) ∨
  ∃ x, a = some x ∧ len ≤ cap ∧ cap ≤ maxLen ∧ zs.length = cap ∧ (∀ i, i < zs.length → w.cell? (x.add i) = some (.int k (zs.getD i 0))) ∧ ∀ n ∈ zs, (Lit.int k n).wf = true

/-! ### the walk -/
open Go.Proofs.Ytciccabhampjlaa
theorem read_nilR : readRE [] = 10 ∧ readR [] = zR := by
  have e : readRE [] = 10 := by unfold readRE; rw [if_pos (by decide)]
  exact ⟨e, readR_err (by rw [e]; decide)⟩
set_option linter.unusedSimpArgs false
set_option maxRecDepth 100000 in
set_option maxHeartbeats 8000000 in
theorem walk (x0 : Rc) (vs0 : List Value) (a1 : Option Addr) (len1 cap1 : Nat) (z1 : List Int) (w : World) (w0 : Enc.rep (fun b => b < w.heap.size) w x0 vs0) (w1 : IsRow .u8 w a1 len1 cap1 z1) :
    Calls Try.prog 3 #[.agg vs0.toArray, .slice a1 len1 cap1] w fun e w' => e = .returned (.bool true) ∧ Below w.heap.size w w' := by
  obtain ⟨rfl, hx⟩ := rep_rc w0
  obtain ⟨b, rfl, hv, hvd, hdm⟩ := rd_of_row w1
  have hur := Try.underlying26
  have P0 := hid (rangeOf (heap_alloc_new w (.cells (rcC x0).toArray 26)))
  have W0 := hid (ext_alloc w (.cells (rcC x0).toArray 26))
  have V0 := hid (hv.bel W0.out)
  have hAl := hid (fun W => alive12_any W)
  clear hv w0 w1
  by_cases h100 : 100 < b.length
  · have q1 : decide ((100 : Int) < (b.length : Int)) = true := decide_eq_true (by omega)
    generalize rcC x0 = cx at *
    go_enter Try.func3, Try.ntmps3
    go_wp2_with fail
    refine (hAl.out _).mono ?_
    rintro e w1 ⟨rfl, hb⟩
    have W1 := hid (W0.out.trans (hb.mono W0.out.size))
    go_wp2
    go_ret
    exact ⟨rfl, W1.out⟩
  have q1 : decide ((100 : Int) < (b.length : Int)) = false := decide_eq_false (by omega)
  have hBx := fun W => PRpBytes_any x0 W
  have hCx := fun W => PRpCheck_any x0 W
  have hRb := hid (fun W (g1 : Rd W a1 b) => PRpRead_any a1 cap1 b W g1 hvd hdm (by omega))
  have hEx : ∀ W, (Op.equalIn 10000 26 (.agg (rcC x0).toArray) (.agg (rcC x0).toArray)).run Try.prog W = .ok true W := fun W => eqrc_is x0 x0 hx hx true (decide_eq_true rfl) W
  have hZ := hid (fun h => readR_zero (l := b) h)
  have hE := hid (fun h => readR_err (l := b) h)
  have hok := hid (readR_ok b)
  have ngx := hid (one_rc (readR b))
  have jgx := hid (sizeRc (readR b))
  have agx := hid (sizeRcA (readR b))
  have zgx := hid (zSizeRc (readR b))
  obtain ⟨gx, hgx⟩ : ∃ y, readR b = y := ⟨_, rfl⟩
  rw [hgx] at ngx jgx agx zgx
  have nx0 := hid (one_rc (x0))
  have jx0 := hid (sizeRc (x0))
  have ax0 := hid (sizeRcA (x0))
  have zx0 := hid (zSizeRc (x0))
  rw [hgx] at hRb hZ hE hok
  clear hgx
  have nzz := hid (one_rc zR)
  have azz := hid (sizeRcA zR)
  have zzz := hid (zSizeRc zR)
  generalize readRE b = ge at *
  obtain ⟨m, hm⟩ : ∃ m, mayR x0 = m := ⟨_, rfl⟩
  have f1 : rcO x0 = if m = true then rcB x0 else [] := by unfold rcO; rw [hm]
  have f2 : rcE x0 = if m = true then 0 else 8 := by unfold rcE; rw [hm]
  rw [f2] at hCx
  rw [f1, f2] at hBx
  cases m
  · simp only [Bool.false_eq_true, if_false, List.length_nil] at hBx hCx
    have hRx := fun A c W (g1 : Rd W A ([] : List UInt8)) (g2 : 0 ≤ c) (g3 : c ≤ maxLen) => PRpRead_any A c [] W g1 g2 g3 (by decide)
    rw [read_nilR.1, read_nilR.2, List.length_nil] at hRx
    replace hRx := hid hRx
    replace hBx := hid hBx
    replace hCx := hid hCx
    clear f1 f2 hm hEx
    by_cases hg : ge = 0
    · obtain ⟨h35, hmg, hby⟩ := hZ.out hg
      subst hg
      have hBq := fun W => PRpBytes_any gx W
      have f1 : rcO gx = b := by unfold rcO; rw [if_pos hmg]; exact hby
      have f2 : rcE gx = 0 := by unfold rcE; rw [if_pos hmg]
      rw [f1, f2] at hBq
      replace hBq := hid hBq
      have hSq := hid (fun A D c d W (g1 : Rd W A b) (g2 : Rd W D b) => Same_yes A D b.length b.length c d b b W g1 g2 rfl rfl rfl)
      clear hZ hE hby h35 hok hmg f1 f2
      go_enter Try.func3, Try.ntmps3
      go_wp2_with fail
      generalize w.alloc (.cells (rcC x0).toArray 26) = w0 at *
      refine (hAl.out _).mono ?_
      rintro e w1 ⟨rfl, hb⟩
      have P1 := hid (rangeBel2 hb P0.out)
      have V1 := hid (V0.out.bel hb)
      have W1 := hid (W0.out.trans (hb.mono W0.out.size))
      clear P0 V0 W0
      clear hb 
      go_wp2_with (first
        | ((with_reducible refine wpList_load_rng rfl 26 (.tmp 2) rfl w.heap.size 0 rfl (rcC x0) _ ?_ hur rfl jx0.out ?_); exact P1.out))
      refine (hBx.out _).mono ?_
      rintro e w2 ⟨A2, c2, rfl, hO, hb⟩
      have P2 := hid (rangeBel2 hb P1.out)
      have V2 := hid (V1.out.bel hb)
      have W2 := hid (W1.out.trans (hb.mono W1.out.size))
      clear P1 V1 W1
      have O2 := hid hO.rd
      have o2 := hid hO.cap
      have l2 := hid (Nat.zero_le c2)
      clear hb hO
      go_wp2_with fail
      refine (hRx.out _ _ _ O2.out l2.out o2.out.2).mono ?_
      rintro e w3 ⟨rfl, hb⟩
      have P3 := hid (rangeBel2 hb P2.out)
      have V3 := hid (V2.out.bel hb)
      have W3 := hid (W2.out.trans (hb.mono W2.out.size))
      clear P2 V2 W2
      clear hb O2 o2 l2
      have e3 := hid (heap_alloc_new w3 (.cells zRcC 26))
      go_wp2_with (first
        | (with_reducible refine wpList_alloc_row rfl 26 rfl zRcC zInfoRc ?_)
        | ((with_reducible refine wpList_store_row rfl 26 (.tmp 8) (.tmp 31) rfl _ _ rfl rfl 26 zRcC ?_ ?_ ?_ ?_ ?_); exact e3.out; exact azz.out; exact zzz.out; exact nzz.out; intro w4 hgS hbS hsS; have X4 := hid (xnewP rfl hbS); clear hgS hbS hsS; have P4 := hid (rangeBel2 X4.out P3.out); have V4 := hid (V3.out.bel X4.out); have W4 := hid (W3.out.trans (X4.out.mono W3.out.size)); clear P3 V3 W3)
        | ((with_reducible refine wpList_load_rng ?_ 26 (.tmp 2) rfl w.heap.size 0 rfl (rcC x0) _ ?_ hur rfl jx0.out ?_); rfl; exact P4.out))
      refine (hCx.out _).mono ?_
      rintro e w5 ⟨rfl, hb⟩
      have P5 := hid (rangeBel2 hb P4.out)
      have V5 := hid (V4.out.bel hb)
      have W5 := hid (W4.out.trans (hb.mono W4.out.size))
      clear P4 V4 W4
      clear hb 
      go_wp2_with fail
      refine (hRb.out _ V5.out).mono ?_
      rintro e w6 ⟨rfl, hb⟩
      have P6 := hid (rangeBel2 hb P5.out)
      have V6 := hid (V5.out.bel hb)
      have W6 := hid (W5.out.trans (hb.mono W5.out.size))
      clear P5 V5 W5
      clear hb 
      have e6 := hid (heap_alloc_new w6 (.cells zRcC 26))
      go_wp2_with (first
        | (with_reducible refine wpList_alloc_row rfl 26 rfl zRcC zInfoRc ?_)
        | ((with_reducible refine wpList_store_row rfl 26 (.tmp 10) (.tmp 67) rfl _ _ rfl rfl 26 zRcC ?_ ?_ ?_ ?_ ?_); exact e6.out; exact agx.out; exact zgx.out; exact ngx.out; intro w7 hgS hbS hsS; have X7 := hid (xnewP rfl hbS); have Q7 := hid (rangeOf (l := rcC gx) hgS); clear hgS hbS hsS; have P7 := hid (rangeBel2 X7.out P6.out); have V7 := hid (V6.out.bel X7.out); have W7 := hid (W6.out.trans (X7.out.mono W6.out.size)); clear P6 V6 W6)
        | ((with_reducible refine wpList_load_rng rfl 26 (.tmp 10) rfl _ 0 rfl (rcC gx) _ ?_ hur rfl jgx.out ?_); exact Q7.out))
      refine (hBq.out _).mono ?_
      rintro e w8 ⟨A9, c9, rfl, hO, hb⟩
      have P8 := hid (rangeBel2 hb P7.out)
      have V8 := hid (V7.out.bel hb)
      have W8 := hid (W7.out.trans (hb.mono W7.out.size))
      have Q8 := hid (rangeBel2 hb Q7.out)
      clear P7 V7 W7 Q7
      have O9 := hid hO.rd
      clear hb hO
      go_wp2_with fail
      refine (hSq.out _ _ _ _ _ O9.out V8.out).mono ?_
      rintro e w19 ⟨rfl, rfl⟩
      go_wp2
      go_ret
      exact ⟨rfl, W8.out⟩
    · have hge : (ge != 0) = true := bne_iff_ne.2 hg
      have hgz := hE.out hg
      have hEg : ∀ W, (Op.equalIn 10000 26 (.agg (rcC gx).toArray) (.agg zRcC)).run Try.prog W = .ok true W := fun W => eqrc_is gx zR hok.out zR_okq true (decide_eq_true hgz) W
      clear hZ hE hok hgz hg
      go_enter Try.func3, Try.ntmps3
      go_wp2_with fail
      generalize w.alloc (.cells (rcC x0).toArray 26) = w0 at *
      refine (hAl.out _).mono ?_
      rintro e w1 ⟨rfl, hb⟩
      have P1 := hid (rangeBel2 hb P0.out)
      have V1 := hid (V0.out.bel hb)
      have W1 := hid (W0.out.trans (hb.mono W0.out.size))
      clear P0 V0 W0
      clear hb 
      go_wp2_with (first
        | ((with_reducible refine wpList_load_rng rfl 26 (.tmp 2) rfl w.heap.size 0 rfl (rcC x0) _ ?_ hur rfl jx0.out ?_); exact P1.out))
      refine (hBx.out _).mono ?_
      rintro e w2 ⟨A2, c2, rfl, hO, hb⟩
      have P2 := hid (rangeBel2 hb P1.out)
      have V2 := hid (V1.out.bel hb)
      have W2 := hid (W1.out.trans (hb.mono W1.out.size))
      clear P1 V1 W1
      have O2 := hid hO.rd
      have o2 := hid hO.cap
      have l2 := hid (Nat.zero_le c2)
      clear hb hO
      go_wp2_with fail
      refine (hRx.out _ _ _ O2.out l2.out o2.out.2).mono ?_
      rintro e w3 ⟨rfl, hb⟩
      have P3 := hid (rangeBel2 hb P2.out)
      have V3 := hid (V2.out.bel hb)
      have W3 := hid (W2.out.trans (hb.mono W2.out.size))
      clear P2 V2 W2
      clear hb O2 o2 l2
      have e3 := hid (heap_alloc_new w3 (.cells zRcC 26))
      go_wp2_with (first
        | (with_reducible refine wpList_alloc_row rfl 26 rfl zRcC zInfoRc ?_)
        | ((with_reducible refine wpList_store_row rfl 26 (.tmp 8) (.tmp 31) rfl _ _ rfl rfl 26 zRcC ?_ ?_ ?_ ?_ ?_); exact e3.out; exact azz.out; exact zzz.out; exact nzz.out; intro w4 hgS hbS hsS; have X4 := hid (xnewP rfl hbS); clear hgS hbS hsS; have P4 := hid (rangeBel2 X4.out P3.out); have V4 := hid (V3.out.bel X4.out); have W4 := hid (W3.out.trans (X4.out.mono W3.out.size)); clear P3 V3 W3)
        | ((with_reducible refine wpList_load_rng ?_ 26 (.tmp 2) rfl w.heap.size 0 rfl (rcC x0) _ ?_ hur rfl jx0.out ?_); rfl; exact P4.out))
      refine (hCx.out _).mono ?_
      rintro e w5 ⟨rfl, hb⟩
      have P5 := hid (rangeBel2 hb P4.out)
      have V5 := hid (V4.out.bel hb)
      have W5 := hid (W4.out.trans (hb.mono W4.out.size))
      clear P4 V4 W4
      clear hb 
      go_wp2_with fail
      refine (hRb.out _ V5.out).mono ?_
      rintro e w6 ⟨rfl, hb⟩
      have P6 := hid (rangeBel2 hb P5.out)
      have V6 := hid (V5.out.bel hb)
      have W6 := hid (W5.out.trans (hb.mono W5.out.size))
      clear P5 V5 W5
      clear hb 
      have e6 := hid (heap_alloc_new w6 (.cells zRcC 26))
      go_wp2_with (first
        | (with_reducible refine wpList_alloc_row rfl 26 rfl zRcC zInfoRc ?_)
        | ((with_reducible refine wpList_store_row rfl 26 (.tmp 10) (.tmp 67) rfl _ _ rfl rfl 26 zRcC ?_ ?_ ?_ ?_ ?_); exact e6.out; exact agx.out; exact zgx.out; exact ngx.out; intro w7 hgS hbS hsS; have X7 := hid (xnewP rfl hbS); have Q7 := hid (rangeOf (l := rcC gx) hgS); clear hgS hbS hsS; have P7 := hid (rangeBel2 X7.out P6.out); have V7 := hid (V6.out.bel X7.out); have W7 := hid (W6.out.trans (X7.out.mono W6.out.size)); clear P6 V6 W6)
        | ((with_reducible refine wpList_load_rng ?_ 26 (.tmp 10) rfl _ 0 rfl (rcC gx) _ ?_ hur rfl jgx.out ?_); rfl; exact Q7.out)
        | ((with_reducible refine wpList_built ?_ 26 _ rfl zRcC [] ?_ ?_ ?_); rfl; exact built_rc0; rfl))
      go_ret
      exact ⟨rfl, W7.out⟩
  · simp only [if_true] at hBx hCx
    obtain ⟨k1, k2⟩ := readR_any hm
    have lyx := hid (rcB_len x0)
    have hRx := fun A c W (g1 : Rd W A (rcB x0)) (g2 : (rcB x0).length ≤ c) (g3 : c ≤ maxLen) => PRpRead_any A c (rcB x0) W g1 g2 g3 (by rw [rcB_len]; decide)
    rw [k1, k2, rcB_len] at hRx
    rw [rcB_len] at hBx
    generalize rcB x0 = vx at *
    replace hRx := hid hRx
    replace hBx := hid hBx
    replace hCx := hid hCx
    clear f1 f2 hm k1 k2
    by_cases hg : ge = 0
    · obtain ⟨h35, hmg, hby⟩ := hZ.out hg
      subst hg
      have hBq := fun W => PRpBytes_any gx W
      have f1 : rcO gx = b := by unfold rcO; rw [if_pos hmg]; exact hby
      have f2 : rcE gx = 0 := by unfold rcE; rw [if_pos hmg]
      rw [f1, f2] at hBq
      replace hBq := hid hBq
      have hSq := hid (fun A D c d W (g1 : Rd W A b) (g2 : Rd W D b) => Same_yes A D b.length b.length c d b b W g1 g2 rfl rfl rfl)
      clear hZ hE hby h35 hok hmg f1 f2
      go_enter Try.func3, Try.ntmps3
      go_wp2_with fail
      generalize w.alloc (.cells (rcC x0).toArray 26) = w0 at *
      refine (hAl.out _).mono ?_
      rintro e w1 ⟨rfl, hb⟩
      have P1 := hid (rangeBel2 hb P0.out)
      have V1 := hid (V0.out.bel hb)
      have W1 := hid (W0.out.trans (hb.mono W0.out.size))
      clear P0 V0 W0
      clear hb 
      go_wp2_with (first
        | ((with_reducible refine wpList_load_rng rfl 26 (.tmp 2) rfl w.heap.size 0 rfl (rcC x0) _ ?_ hur rfl jx0.out ?_); exact P1.out))
      refine (hBx.out _).mono ?_
      rintro e w2 ⟨A2, c2, rfl, hO, hb⟩
      have P2 := hid (rangeBel2 hb P1.out)
      have V2 := hid (V1.out.bel hb)
      have W2 := hid (W1.out.trans (hb.mono W1.out.size))
      clear P1 V1 W1
      have O2 := hid hO.rd
      have o2 := hid hO.cap
      have l2 := hid (show 35 ≤ c2 from by have := hO.cap.1; have l := lyx.out; omega)
      clear hb hO
      go_wp2_with fail
      refine (hRx.out _ _ _ O2.out l2.out o2.out.2).mono ?_
      rintro e w3 ⟨rfl, hb⟩
      have P3 := hid (rangeBel2 hb P2.out)
      have V3 := hid (V2.out.bel hb)
      have W3 := hid (W2.out.trans (hb.mono W2.out.size))
      clear P2 V2 W2
      clear hb O2 o2 l2
      have e3 := hid (heap_alloc_new w3 (.cells zRcC 26))
      go_wp2_with (first
        | (with_reducible refine wpList_alloc_row rfl 26 rfl zRcC zInfoRc ?_)
        | ((with_reducible refine wpList_store_row rfl 26 (.tmp 8) (.tmp 31) rfl _ _ rfl rfl 26 zRcC ?_ ?_ ?_ ?_ ?_); exact e3.out; exact ax0.out; exact zx0.out; exact nx0.out; intro w4 hgS hbS hsS; have X4 := hid (xnewP rfl hbS); have Y4 := hid (rangeOf (l := rcC x0) hgS); clear hgS hbS hsS; have P4 := hid (rangeBel2 X4.out P3.out); have V4 := hid (V3.out.bel X4.out); have W4 := hid (W3.out.trans (X4.out.mono W3.out.size)); clear P3 V3 W3)
        | ((with_reducible refine wpList_load_rng ?_ 26 (.tmp 8) rfl _ 0 rfl (rcC x0) _ ?_ hur rfl jx0.out ?_); rfl; exact Y4.out)
        | ((with_reducible refine wpList_load_rng ?_ 26 (.tmp 2) rfl w.heap.size 0 rfl (rcC x0) _ ?_ hur rfl jx0.out ?_); rfl; exact P4.out))
      refine (hRb.out _ V4.out).mono ?_
      rintro e w5 ⟨rfl, hb⟩
      have P5 := hid (rangeBel2 hb P4.out)
      have V5 := hid (V4.out.bel hb)
      have W5 := hid (W4.out.trans (hb.mono W4.out.size))
      have Y5 := hid (rangeBel2 hb Y4.out)
      clear P4 V4 W4 Y4
      clear hb 
      have e5 := hid (heap_alloc_new w5 (.cells zRcC 26))
      go_wp2_with (first
        | (with_reducible refine wpList_alloc_row rfl 26 rfl zRcC zInfoRc ?_)
        | ((with_reducible refine wpList_store_row rfl 26 (.tmp 10) (.tmp 67) rfl _ _ rfl rfl 26 zRcC ?_ ?_ ?_ ?_ ?_); exact e5.out; exact agx.out; exact zgx.out; exact ngx.out; intro w6 hgS hbS hsS; have X6 := hid (xnewP rfl hbS); have Q6 := hid (rangeOf (l := rcC gx) hgS); clear hgS hbS hsS; have P6 := hid (rangeBel2 X6.out P5.out); have V6 := hid (V5.out.bel X6.out); have W6 := hid (W5.out.trans (X6.out.mono W5.out.size)); have Y6 := hid (rangeBel2 X6.out Y5.out); clear P5 V5 W5 Y5)
        | ((with_reducible refine wpList_load_rng rfl 26 (.tmp 10) rfl _ 0 rfl (rcC gx) _ ?_ hur rfl jgx.out ?_); exact Q6.out))
      refine (hBq.out _).mono ?_
      rintro e w7 ⟨A9, c9, rfl, hO, hb⟩
      have P7 := hid (rangeBel2 hb P6.out)
      have V7 := hid (V6.out.bel hb)
      have W7 := hid (W6.out.trans (hb.mono W6.out.size))
      have Y7 := hid (rangeBel2 hb Y6.out)
      have Q7 := hid (rangeBel2 hb Q6.out)
      clear P6 V6 W6 Y6 Q6
      have O9 := hid hO.rd
      clear hb hO
      go_wp2_with fail
      refine (hSq.out _ _ _ _ _ O9.out V7.out).mono ?_
      rintro e w19 ⟨rfl, rfl⟩
      go_wp2
      go_ret
      exact ⟨rfl, W7.out⟩
    · have hge : (ge != 0) = true := bne_iff_ne.2 hg
      have hgz := hE.out hg
      have hEg : ∀ W, (Op.equalIn 10000 26 (.agg (rcC gx).toArray) (.agg zRcC)).run Try.prog W = .ok true W := fun W => eqrc_is gx zR hok.out zR_okq true (decide_eq_true hgz) W
      clear hZ hE hok hgz hg
      go_enter Try.func3, Try.ntmps3
      go_wp2_with fail
      generalize w.alloc (.cells (rcC x0).toArray 26) = w0 at *
      refine (hAl.out _).mono ?_
      rintro e w1 ⟨rfl, hb⟩
      have P1 := hid (rangeBel2 hb P0.out)
      have V1 := hid (V0.out.bel hb)
      have W1 := hid (W0.out.trans (hb.mono W0.out.size))
      clear P0 V0 W0
      clear hb 
      go_wp2_with (first
        | ((with_reducible refine wpList_load_rng rfl 26 (.tmp 2) rfl w.heap.size 0 rfl (rcC x0) _ ?_ hur rfl jx0.out ?_); exact P1.out))
      refine (hBx.out _).mono ?_
      rintro e w2 ⟨A2, c2, rfl, hO, hb⟩
      have P2 := hid (rangeBel2 hb P1.out)
      have V2 := hid (V1.out.bel hb)
      have W2 := hid (W1.out.trans (hb.mono W1.out.size))
      clear P1 V1 W1
      have O2 := hid hO.rd
      have o2 := hid hO.cap
      have l2 := hid (show 35 ≤ c2 from by have := hO.cap.1; have l := lyx.out; omega)
      clear hb hO
      go_wp2_with fail
      refine (hRx.out _ _ _ O2.out l2.out o2.out.2).mono ?_
      rintro e w3 ⟨rfl, hb⟩
      have P3 := hid (rangeBel2 hb P2.out)
      have V3 := hid (V2.out.bel hb)
      have W3 := hid (W2.out.trans (hb.mono W2.out.size))
      clear P2 V2 W2
      clear hb O2 o2 l2
      have e3 := hid (heap_alloc_new w3 (.cells zRcC 26))
      go_wp2_with (first
        | (with_reducible refine wpList_alloc_row rfl 26 rfl zRcC zInfoRc ?_)
        | ((with_reducible refine wpList_store_row rfl 26 (.tmp 8) (.tmp 31) rfl _ _ rfl rfl 26 zRcC ?_ ?_ ?_ ?_ ?_); exact e3.out; exact ax0.out; exact zx0.out; exact nx0.out; intro w4 hgS hbS hsS; have X4 := hid (xnewP rfl hbS); have Y4 := hid (rangeOf (l := rcC x0) hgS); clear hgS hbS hsS; have P4 := hid (rangeBel2 X4.out P3.out); have V4 := hid (V3.out.bel X4.out); have W4 := hid (W3.out.trans (X4.out.mono W3.out.size)); clear P3 V3 W3)
        | ((with_reducible refine wpList_load_rng ?_ 26 (.tmp 8) rfl _ 0 rfl (rcC x0) _ ?_ hur rfl jx0.out ?_); rfl; exact Y4.out)
        | ((with_reducible refine wpList_load_rng ?_ 26 (.tmp 2) rfl w.heap.size 0 rfl (rcC x0) _ ?_ hur rfl jx0.out ?_); rfl; exact P4.out))
      refine (hRb.out _ V4.out).mono ?_
      rintro e w5 ⟨rfl, hb⟩
      have P5 := hid (rangeBel2 hb P4.out)
      have V5 := hid (V4.out.bel hb)
      have W5 := hid (W4.out.trans (hb.mono W4.out.size))
      have Y5 := hid (rangeBel2 hb Y4.out)
      clear P4 V4 W4 Y4
      clear hb 
      have e5 := hid (heap_alloc_new w5 (.cells zRcC 26))
      go_wp2_with (first
        | (with_reducible refine wpList_alloc_row rfl 26 rfl zRcC zInfoRc ?_)
        | ((with_reducible refine wpList_store_row rfl 26 (.tmp 10) (.tmp 67) rfl _ _ rfl rfl 26 zRcC ?_ ?_ ?_ ?_ ?_); exact e5.out; exact agx.out; exact zgx.out; exact ngx.out; intro w6 hgS hbS hsS; have X6 := hid (xnewP rfl hbS); have Q6 := hid (rangeOf (l := rcC gx) hgS); clear hgS hbS hsS; have P6 := hid (rangeBel2 X6.out P5.out); have V6 := hid (V5.out.bel X6.out); have W6 := hid (W5.out.trans (X6.out.mono W5.out.size)); have Y6 := hid (rangeBel2 X6.out Y5.out); clear P5 V5 W5 Y5)
        | ((with_reducible refine wpList_load_rng ?_ 26 (.tmp 10) rfl _ 0 rfl (rcC gx) _ ?_ hur rfl jgx.out ?_); rfl; exact Q6.out)
        | ((with_reducible refine wpList_built ?_ 26 _ rfl zRcC [] ?_ ?_ ?_); rfl; exact built_rc0; rfl))
      go_ret
      exact ⟨rfl, W6.out⟩

/-! ### THE ROW's STEP: WRITTEN OUT: LEAVE IT -/
set_option maxRecDepth 100000 in
theorem lifted (os : Os) (started : os.Started) (H : Type) (enc : TypeId × Value → H) :
    ReturnsInHanded {} Try.checked os 3 .any (Rows.receiptBackSpec.pre6 enc Try.prog Try.f3 Rows.receiptBackRow.domain false) (Rows.receiptBackSpec.post enc Try.prog Try.f3 false true false false) := by
  refine returnsInHanded_of_change (C := Try.checked) own started (by kernel_rfl) Try.func3
    (ChangeSpec.witness6 (enc := enc) (C := Try.checked) false ⟨#[], #[.agg zRcC, .slice none 0 0], []⟩ 8 (by kernel_rfl) (by kernel_rfl) (by kernel_rfl) (by kernel_rfl)) ?_
  intro W base args ds gs before hval0 hW hcnd _
  have hval : ∀ (j : Nat) t v, Try.f3.params[j]? = some t → args[j]? = some v → Value.okWide Try.prog W .any base t v := hval0
  have hW' := hW
  obtain ⟨p, q, hA0, hV, rfl, hfz, hnd⟩ := hW
  have hA : DataW.TrodAll enc Try.prog W 0 (fun _ => true) true Try.f3.params.toList args.toList ds p := hA0
  rw [Try.params3] at hA hval
  obtain ⟨v0, vs0, d0, ds0, p0, q0, hargs, rfl, rfl, h0, r0⟩ := trodAll_cons hA
  obtain ⟨v1, vs1, d1, ds1, p1, q1, rfl, rfl, rfl, h1, r1⟩ := trodAll_cons r0
  obtain ⟨rfl, rfl, rfl⟩ := trodAll_nil r1
  obtain rfl : args = #[v0, v1] := by cases args; simp_all
  obtain ⟨rfl, rfl⟩ := trodVars_none hV
  have k0 := h0
  have lt0 : ∀ x ∈ p0, x.block < W.heap.size := by obtain ⟨m, hm⟩ := k0; exact DataW.trod_lt m _ _ _ hm
  obtain ⟨x0, vs0, rfl, w0⟩ := open_struct opensRc Try.underlying26 (hval 0 26 v0 rfl rfl) h0
  obtain ⟨a1, len1, cap1, rfl⟩ := okWide_slice Try.underlying27 (hval 1 27 v1 rfl rfl)
  have k1 := h1
  have lt1 : ∀ x ∈ p1, x.block < W.heap.size := by obtain ⟨m, hm⟩ := k1; exact DataW.trod_lt m _ _ _ hm
  obtain ⟨z1, w1⟩ : ∃ zs, IsRow .u8 W a1 len1 cap1 zs := by
    obtain ⟨fuel, hf⟩ := h1
    rcases open_ints Try.underlying27 Try.underlying5 (by kernel_rfl) hf with ⟨hcs, _⟩ | ⟨x, l, c, zs, hcs, _, hl, hm, hz, _, hcell, hwz⟩
    · simp [Value.cells] at hcs
      obtain ⟨rfl, rfl, rfl⟩ := hcs
      exact ⟨[], .inl ⟨rfl, rfl, rfl, rfl⟩⟩
    · simp [Value.cells] at hcs
      obtain ⟨rfl, rfl, rfl⟩ := hcs
      exact ⟨zs, .inr ⟨_, rfl, hl, hm, by simpa using hz, hcell, hwz⟩⟩
  clear hA0 hval0
  refine (walk x0 vs0 a1 len1 cap1 z1 W w0 w1).mono fun e W' ⟨he, bel⟩ => ?_
  subst he
  exact ⟨_, rfl, _, _, _, [], _, [], hW', trodAll_mk1 (shut_bool Try.underlying4 _), (trodAll_cons_mk (Below.trod laidOut (by kernel_rfl) (of_decide_eq_true (by kernel_rfl)) k0 bel lt0) (trodAll_cons_mk (Below.trod laidOut (by kernel_rfl) (of_decide_eq_true (by kernel_rfl)) k1 bel lt1) trodAll_mk0)), rfl, bel.frame _, fun h => by cases h⟩

theorem over : Rows.receiptBackRow.holds Try.pinned (OpenSpec.ofChange Rows.receiptBackSpec) :=
  OpenClaim.holds_of_wide 3 Try.f3 rfl rfl rfl rfl rfl rfl rfl ⟨rfl, rfl, rfl, rfl, rfl⟩ rfl rfl rfl rfl rfl (by kernel_rfl) Try.func3 (by kernel_rfl)
    (of_decide_eq_true (by kernel_rfl)) (by unfold Func.isWrapper; first | (rw [if_pos (by decide +kernel)]; kernel_rfl) | (rw [if_neg (by decide +kernel)]; exact ⟨rfl, rfl⟩))
    (fun os started H enc _ => lifted os started H enc)

/-- ████ THE STATEMENT ████ -/
theorem proved : Rows.ReceiptBackSaid := over
#print axioms proved
end Go.Proofs.Ytciccabhampjlaa.receiptBack
