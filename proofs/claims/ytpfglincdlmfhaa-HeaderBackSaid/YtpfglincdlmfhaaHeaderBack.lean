/-
  The Go function HeaderBack returns true: a header's bytes tell it; what is read has these bytes: any one, and bytes; its arguments read afterwards as before.
  Conditions: none. The frame around the walk was written by program (proof-skeleton.mjs).
-/
import Derived.Test.YtpfglincdlmfhaaRows
import Derived.WalkKit
import Derived.ProofKit
import Derived.OpenShut
import Derived.ShutString
import Derived.ChangeOld
import Derived.Below
import Derived.Test.YtpfglincdlmfhaaAlive14
namespace Go.Proofs.Ytpfglincdlmfhaa.headerBack
open Go.ChangeShapes Go.WideShapes Go.ChangeAt Go.RowKit
open Go.ChangeMaps (open_string shut_string)
set_option linter.unusedVariables false

theorem own : ownKnob Try.prog.godebug = none := by kernel_rfl
theorem laidOut : laidOutB Try.prog = true := by kernel_rfl

/-- WHAT THE WALK IS TOLD OF A SLICE OF INTEGERS THAT CAME IN: it is nil; or it leads to a row of 'cap' cells, the numbers 'zs' (the first 'len' are its elements, the rest its spare room), each fitting its kind. -/
def IsRow (k : IntKind) (w : World) (a : Option Addr) (len cap : Nat) (zs : List Int) : Prop :=
  (a = none ∧ len = 0 ∧ cap = 0 ∧ zs = []) ∨
  ∃ x, a = some x ∧ len ≤ cap ∧ cap ≤ maxLen ∧ zs.length = cap ∧ (∀ i, i < zs.length → w.cell? (x.add i) = some (.int k (zs.getD i 0))) ∧ ∀ n ∈ zs, (Lit.int k n).wf = true

/-! ### the walk -/
open Go.Proofs.Ytpfglincdlmfhaa
theorem read_nilH : readHE [] = 10 ∧ readH [] = zH := by
  have e : readHE [] = 10 := by unfold readHE; rw [if_pos (by decide)]
  exact ⟨e, readH_err (by rw [e]; decide)⟩
set_option linter.unusedSimpArgs false
set_option maxRecDepth 100000 in
set_option maxHeartbeats 8000000 in
theorem walk (x0 : Hd) (vs0 : List Value) (a1 : Option Addr) (len1 cap1 : Nat) (z1 : List Int) (w : World) (w0 : Enc.rep (fun b => b < w.heap.size) w x0 vs0) (w1 : IsRow .u8 w a1 len1 cap1 z1) :
    Calls Try.prog 4 #[.agg vs0.toArray, .slice a1 len1 cap1] w fun e w' => e = .returned (.bool true) ∧ Below w.heap.size w w' := by
  obtain ⟨rfl, hx⟩ := rep_hd w0
  obtain ⟨b, rfl, hv, hvd, hdm⟩ := rd_of_row w1
  have huh := Try.underlying27
  have P0 := hid (rangeOf (heap_alloc_new w (.cells (hdC x0).toArray 27)))
  have W0 := hid (ext_alloc w (.cells (hdC x0).toArray 27))
  have V0 := hid (hv.bel W0.out)
  have hAl := hid (fun W => alive14_any W)
  clear hv w0 w1
  by_cases h100 : 300 < b.length
  · have q1 : decide ((300 : Int) < (b.length : Int)) = true := decide_eq_true (by omega)
    generalize hdC x0 = cx at *
    go_enter Try.func4, Try.ntmps4
    go_wp2_with fail
    refine (hAl.out _).mono ?_
    rintro e w1 ⟨rfl, hb⟩
    have W1 := hid (W0.out.trans (hb.mono W0.out.size))
    go_wp2
    go_ret
    exact ⟨rfl, W1.out⟩
  have q1 : decide ((300 : Int) < (b.length : Int)) = false := decide_eq_false (by omega)
  have hBx := fun W => PHdBytes_any x0 hx W
  have hCx := fun W => PHdCheck_any x0 hx W
  have hRb := hid (fun W (g1 : Rd W a1 b) => PHdRead_any a1 cap1 b W g1 hvd hdm (by omega))
  have hEx : ∀ W, (Op.equalIn 10000 27 (.agg (hdC x0).toArray) (.agg (hdC x0).toArray)).run Try.prog W = .ok true W := fun W => eqhd_is x0 x0 hx hx true (decide_eq_true rfl) W
  have hZ := hid (fun h => readH_zero (l := b) h)
  have hE := hid (fun h => readH_err (l := b) h)
  have hok := hid (readH_ok b)
  have ngx := hid (one_hd (readH b))
  have jgx := hid (sizeHd (readH b))
  have agx := hid (sizeHdA (readH b))
  have zgx := hid (zSizeHd (readH b))
  obtain ⟨gx, hgx⟩ : ∃ y, readH b = y := ⟨_, rfl⟩
  rw [hgx] at ngx jgx agx zgx
  have nx0 := hid (one_hd (x0))
  have jx0 := hid (sizeHd (x0))
  have ax0 := hid (sizeHdA (x0))
  have zx0 := hid (zSizeHd (x0))
  rw [hgx] at hRb hZ hE hok
  clear hgx
  have nzz := hid (one_hd zH)
  have azz := hid (sizeHdA zH)
  have zzz := hid (zSizeHd zH)
  generalize readHE b = ge at *
  obtain ⟨m, hm⟩ : ∃ m, mayH x0 = m := ⟨_, rfl⟩
  have f1 : hdO x0 = if m = true then hdB x0 else [] := by unfold hdO; rw [hm]
  have f2 : hdE x0 = if m = true then 0 else 8 := by unfold hdE; rw [hm]
  rw [f2] at hCx
  rw [f1, f2] at hBx
  cases m
  · simp only [Bool.false_eq_true, if_false, List.length_nil] at hBx hCx
    have hRx := fun A c W (g1 : Rd W A ([] : List UInt8)) (g2 : 0 ≤ c) (g3 : c ≤ maxLen) => PHdRead_any A c [] W g1 g2 g3 (by decide)
    rw [read_nilH.1, read_nilH.2, List.length_nil] at hRx
    replace hRx := hid hRx
    replace hBx := hid hBx
    replace hCx := hid hCx
    clear f1 f2 hm hEx
    by_cases hg : ge = 0
    · obtain ⟨h108, hmg, hby⟩ := hZ.out hg
      subst hg
      have hBq := fun W => PHdBytes_any gx hok.out W
      have f1 : hdO gx = b := by unfold hdO; rw [if_pos hmg]; exact hby
      have f2 : hdE gx = 0 := by unfold hdE; rw [if_pos hmg]
      rw [f1, f2] at hBq
      replace hBq := hid hBq
      have hSq := hid (fun A D c d W (g1 : Rd W A b) (g2 : Rd W D b) => Same_yes A D b.length b.length c d b b W g1 g2 rfl rfl rfl)
      clear hZ hE hby h108 hok hmg f1 f2
      go_enter Try.func4, Try.ntmps4
      go_wp2_with fail
      generalize w.alloc (.cells (hdC x0).toArray 27) = w0 at *
      refine (hAl.out _).mono ?_
      rintro e w1 ⟨rfl, hb⟩
      have P1 := hid (rangeBel2 hb P0.out)
      have V1 := hid (V0.out.bel hb)
      have W1 := hid (W0.out.trans (hb.mono W0.out.size))
      clear P0 V0 W0
      clear hb 
      go_wp2_with (first
        | ((with_reducible refine wpList_load_rng rfl 27 (.tmp 2) rfl w.heap.size 0 rfl (hdC x0) _ ?_ huh rfl jx0.out ?_); exact P1.out))
      refine (hBx.out _).mono ?_
      rintro e w2 ⟨A2, c2, rfl, hO, hb⟩
      have P2 := hid (rangeBel2 hb P1.out)
      have V2 := hid (V1.out.bel hb)
      have W2 := hid (W1.out.trans (hb.mono W1.out.size))
      clear P1 V1 W1
      have O2 := hid hO.rd
      have o2 := hid hO.cap
      have l2 := hid (Nat.zero_le c2)
      clear hb hO
      go_wp2_with fail
      refine (hRx.out _ _ _ O2.out l2.out o2.out.2).mono ?_
      rintro e w3 ⟨rfl, hb⟩
      have P3 := hid (rangeBel2 hb P2.out)
      have V3 := hid (V2.out.bel hb)
      have W3 := hid (W2.out.trans (hb.mono W2.out.size))
      clear P2 V2 W2
      clear hb O2 o2 l2
      have e3 := hid (heap_alloc_new w3 (.cells zHdC 27))
      go_wp2_with (first
        | (with_reducible refine wpList_alloc_row rfl 27 rfl zHdC zInfoHd ?_)
        | ((with_reducible refine wpList_store_row rfl 27 (.tmp 8) (.tmp 31) rfl _ _ rfl rfl 27 zHdC ?_ ?_ ?_ ?_ ?_); exact e3.out; exact azz.out; exact zzz.out; exact nzz.out; intro w4 hgS hbS hsS; have X4 := hid (xnewP rfl hbS); clear hgS hbS hsS; have P4 := hid (rangeBel2 X4.out P3.out); have V4 := hid (V3.out.bel X4.out); have W4 := hid (W3.out.trans (X4.out.mono W3.out.size)); clear P3 V3 W3)
        | ((with_reducible refine wpList_load_rng ?_ 27 (.tmp 2) rfl w.heap.size 0 rfl (hdC x0) _ ?_ huh rfl jx0.out ?_); rfl; exact P4.out))
      refine (hCx.out _).mono ?_
      rintro e w5 ⟨rfl, hb⟩
      have P5 := hid (rangeBel2 hb P4.out)
      have V5 := hid (V4.out.bel hb)
      have W5 := hid (W4.out.trans (hb.mono W4.out.size))
      clear P4 V4 W4
      clear hb 
      go_wp2_with fail
      refine (hRb.out _ V5.out).mono ?_
      rintro e w6 ⟨rfl, hb⟩
      have P6 := hid (rangeBel2 hb P5.out)
      have V6 := hid (V5.out.bel hb)
      have W6 := hid (W5.out.trans (hb.mono W5.out.size))
      clear P5 V5 W5
      clear hb 
      have e6 := hid (heap_alloc_new w6 (.cells zHdC 27))
      go_wp2_with (first
        | (with_reducible refine wpList_alloc_row rfl 27 rfl zHdC zInfoHd ?_)
        | ((with_reducible refine wpList_store_row rfl 27 (.tmp 10) (.tmp 67) rfl _ _ rfl rfl 27 zHdC ?_ ?_ ?_ ?_ ?_); exact e6.out; exact agx.out; exact zgx.out; exact ngx.out; intro w7 hgS hbS hsS; have X7 := hid (xnewP rfl hbS); have Q7 := hid (rangeOf (l := hdC gx) hgS); clear hgS hbS hsS; have P7 := hid (rangeBel2 X7.out P6.out); have V7 := hid (V6.out.bel X7.out); have W7 := hid (W6.out.trans (X7.out.mono W6.out.size)); clear P6 V6 W6)
        | ((with_reducible refine wpList_load_rng rfl 27 (.tmp 10) rfl _ 0 rfl (hdC gx) _ ?_ huh rfl jgx.out ?_); exact Q7.out))
      refine (hBq.out _).mono ?_
      rintro e w8 ⟨A9, c9, rfl, hO, hb⟩
      have P8 := hid (rangeBel2 hb P7.out)
      have V8 := hid (V7.out.bel hb)
      have W8 := hid (W7.out.trans (hb.mono W7.out.size))
      have Q8 := hid (rangeBel2 hb Q7.out)
      clear P7 V7 W7 Q7
      have O9 := hid hO.rd
      clear hb hO
      go_wp2_with fail
      refine (hSq.out _ _ _ _ _ O9.out V8.out).mono ?_
      rintro e w19 ⟨rfl, rfl⟩
      go_wp2
      go_ret
      exact ⟨rfl, W8.out⟩
    · have hge : (ge != 0) = true := bne_iff_ne.2 hg
      have hgz := hE.out hg
      have hEg : ∀ W, (Op.equalIn 10000 27 (.agg (hdC gx).toArray) (.agg zHdC)).run Try.prog W = .ok true W := fun W => eqhd_is gx zH hok.out zH_okq true (decide_eq_true hgz) W
      clear hZ hE hok hgz hg
      go_enter Try.func4, Try.ntmps4
      go_wp2_with fail
      generalize w.alloc (.cells (hdC x0).toArray 27) = w0 at *
      refine (hAl.out _).mono ?_
      rintro e w1 ⟨rfl, hb⟩
      have P1 := hid (rangeBel2 hb P0.out)
      have V1 := hid (V0.out.bel hb)
      have W1 := hid (W0.out.trans (hb.mono W0.out.size))
      clear P0 V0 W0
      clear hb 
      go_wp2_with (first
        | ((with_reducible refine wpList_load_rng rfl 27 (.tmp 2) rfl w.heap.size 0 rfl (hdC x0) _ ?_ huh rfl jx0.out ?_); exact P1.out))
      refine (hBx.out _).mono ?_
      rintro e w2 ⟨A2, c2, rfl, hO, hb⟩
      have P2 := hid (rangeBel2 hb P1.out)
      have V2 := hid (V1.out.bel hb)
      have W2 := hid (W1.out.trans (hb.mono W1.out.size))
      clear P1 V1 W1
      have O2 := hid hO.rd
      have o2 := hid hO.cap
      have l2 := hid (Nat.zero_le c2)
      clear hb hO
      go_wp2_with fail
      refine (hRx.out _ _ _ O2.out l2.out o2.out.2).mono ?_
      rintro e w3 ⟨rfl, hb⟩
      have P3 := hid (rangeBel2 hb P2.out)
      have V3 := hid (V2.out.bel hb)
      have W3 := hid (W2.out.trans (hb.mono W2.out.size))
      clear P2 V2 W2
      clear hb O2 o2 l2
      have e3 := hid (heap_alloc_new w3 (.cells zHdC 27))
      go_wp2_with (first
        | (with_reducible refine wpList_alloc_row rfl 27 rfl zHdC zInfoHd ?_)
        | ((with_reducible refine wpList_store_row rfl 27 (.tmp 8) (.tmp 31) rfl _ _ rfl rfl 27 zHdC ?_ ?_ ?_ ?_ ?_); exact e3.out; exact azz.out; exact zzz.out; exact nzz.out; intro w4 hgS hbS hsS; have X4 := hid (xnewP rfl hbS); clear hgS hbS hsS; have P4 := hid (rangeBel2 X4.out P3.out); have V4 := hid (V3.out.bel X4.out); have W4 := hid (W3.out.trans (X4.out.mono W3.out.size)); clear P3 V3 W3)
        | ((with_reducible refine wpList_load_rng ?_ 27 (.tmp 2) rfl w.heap.size 0 rfl (hdC x0) _ ?_ huh rfl jx0.out ?_); rfl; exact P4.out))
      refine (hCx.out _).mono ?_
      rintro e w5 ⟨rfl, hb⟩
      have P5 := hid (rangeBel2 hb P4.out)
      have V5 := hid (V4.out.bel hb)
      have W5 := hid (W4.out.trans (hb.mono W4.out.size))
      clear P4 V4 W4
      clear hb 
      go_wp2_with fail
      refine (hRb.out _ V5.out).mono ?_
      rintro e w6 ⟨rfl, hb⟩
      have P6 := hid (rangeBel2 hb P5.out)
      have V6 := hid (V5.out.bel hb)
      have W6 := hid (W5.out.trans (hb.mono W5.out.size))
      clear P5 V5 W5
      clear hb 
      have e6 := hid (heap_alloc_new w6 (.cells zHdC 27))
      go_wp2_with (first
        | (with_reducible refine wpList_alloc_row rfl 27 rfl zHdC zInfoHd ?_)
        | ((with_reducible refine wpList_store_row rfl 27 (.tmp 10) (.tmp 67) rfl _ _ rfl rfl 27 zHdC ?_ ?_ ?_ ?_ ?_); exact e6.out; exact agx.out; exact zgx.out; exact ngx.out; intro w7 hgS hbS hsS; have X7 := hid (xnewP rfl hbS); have Q7 := hid (rangeOf (l := hdC gx) hgS); clear hgS hbS hsS; have P7 := hid (rangeBel2 X7.out P6.out); have V7 := hid (V6.out.bel X7.out); have W7 := hid (W6.out.trans (X7.out.mono W6.out.size)); clear P6 V6 W6)
        | ((with_reducible refine wpList_load_rng ?_ 27 (.tmp 10) rfl _ 0 rfl (hdC gx) _ ?_ huh rfl jgx.out ?_); rfl; exact Q7.out)
        | ((with_reducible refine wpList_built ?_ 27 _ rfl zHdC [] ?_ ?_ ?_); rfl; exact built_hd0; rfl))
      go_ret
      exact ⟨rfl, W7.out⟩
  · simp only [if_true] at hBx hCx
    obtain ⟨k1, k2⟩ := readH_any hm
    have lyx := hid (hdB_len x0)
    have hRx := fun A c W (g1 : Rd W A (hdB x0)) (g2 : (hdB x0).length ≤ c) (g3 : c ≤ maxLen) => PHdRead_any A c (hdB x0) W g1 g2 g3 (by rw [hdB_len]; decide)
    rw [k1, k2, hdB_len] at hRx
    rw [hdB_len] at hBx
    generalize hdB x0 = vx at *
    replace hRx := hid hRx
    replace hBx := hid hBx
    replace hCx := hid hCx
    clear f1 f2 hm k1 k2
    by_cases hg : ge = 0
    · obtain ⟨h108, hmg, hby⟩ := hZ.out hg
      subst hg
      have hBq := fun W => PHdBytes_any gx hok.out W
      have f1 : hdO gx = b := by unfold hdO; rw [if_pos hmg]; exact hby
      have f2 : hdE gx = 0 := by unfold hdE; rw [if_pos hmg]
      rw [f1, f2] at hBq
      replace hBq := hid hBq
      have hSq := hid (fun A D c d W (g1 : Rd W A b) (g2 : Rd W D b) => Same_yes A D b.length b.length c d b b W g1 g2 rfl rfl rfl)
      clear hZ hE hby h108 hok hmg f1 f2
      go_enter Try.func4, Try.ntmps4
      go_wp2_with fail
      generalize w.alloc (.cells (hdC x0).toArray 27) = w0 at *
      refine (hAl.out _).mono ?_
      rintro e w1 ⟨rfl, hb⟩
      have P1 := hid (rangeBel2 hb P0.out)
      have V1 := hid (V0.out.bel hb)
      have W1 := hid (W0.out.trans (hb.mono W0.out.size))
      clear P0 V0 W0
      clear hb 
      go_wp2_with (first
        | ((with_reducible refine wpList_load_rng rfl 27 (.tmp 2) rfl w.heap.size 0 rfl (hdC x0) _ ?_ huh rfl jx0.out ?_); exact P1.out))
      refine (hBx.out _).mono ?_
      rintro e w2 ⟨A2, c2, rfl, hO, hb⟩
      have P2 := hid (rangeBel2 hb P1.out)
      have V2 := hid (V1.out.bel hb)
      have W2 := hid (W1.out.trans (hb.mono W1.out.size))
      clear P1 V1 W1
      have O2 := hid hO.rd
      have o2 := hid hO.cap
      have l2 := hid (show 108 ≤ c2 from by have := hO.cap.1; have l := lyx.out; omega)
      clear hb hO
      go_wp2_with fail
      refine (hRx.out _ _ _ O2.out l2.out o2.out.2).mono ?_
      rintro e w3 ⟨rfl, hb⟩
      have P3 := hid (rangeBel2 hb P2.out)
      have V3 := hid (V2.out.bel hb)
      have W3 := hid (W2.out.trans (hb.mono W2.out.size))
      clear P2 V2 W2
      clear hb O2 o2 l2
      have e3 := hid (heap_alloc_new w3 (.cells zHdC 27))
      go_wp2_with (first
        | (with_reducible refine wpList_alloc_row rfl 27 rfl zHdC zInfoHd ?_)
        | ((with_reducible refine wpList_store_row rfl 27 (.tmp 8) (.tmp 31) rfl _ _ rfl rfl 27 zHdC ?_ ?_ ?_ ?_ ?_); exact e3.out; exact ax0.out; exact zx0.out; exact nx0.out; intro w4 hgS hbS hsS; have X4 := hid (xnewP rfl hbS); have Y4 := hid (rangeOf (l := hdC x0) hgS); clear hgS hbS hsS; have P4 := hid (rangeBel2 X4.out P3.out); have V4 := hid (V3.out.bel X4.out); have W4 := hid (W3.out.trans (X4.out.mono W3.out.size)); clear P3 V3 W3)
        | ((with_reducible refine wpList_load_rng ?_ 27 (.tmp 8) rfl _ 0 rfl (hdC x0) _ ?_ huh rfl jx0.out ?_); rfl; exact Y4.out)
        | ((with_reducible refine wpList_load_rng ?_ 27 (.tmp 2) rfl w.heap.size 0 rfl (hdC x0) _ ?_ huh rfl jx0.out ?_); rfl; exact P4.out))
      refine (hRb.out _ V4.out).mono ?_
      rintro e w5 ⟨rfl, hb⟩
      have P5 := hid (rangeBel2 hb P4.out)
      have V5 := hid (V4.out.bel hb)
      have W5 := hid (W4.out.trans (hb.mono W4.out.size))
      have Y5 := hid (rangeBel2 hb Y4.out)
      clear P4 V4 W4 Y4
      clear hb 
      have e5 := hid (heap_alloc_new w5 (.cells zHdC 27))
      go_wp2_with (first
        | (with_reducible refine wpList_alloc_row rfl 27 rfl zHdC zInfoHd ?_)
        | ((with_reducible refine wpList_store_row rfl 27 (.tmp 10) (.tmp 67) rfl _ _ rfl rfl 27 zHdC ?_ ?_ ?_ ?_ ?_); exact e5.out; exact agx.out; exact zgx.out; exact ngx.out; intro w6 hgS hbS hsS; have X6 := hid (xnewP rfl hbS); have Q6 := hid (rangeOf (l := hdC gx) hgS); clear hgS hbS hsS; have P6 := hid (rangeBel2 X6.out P5.out); have V6 := hid (V5.out.bel X6.out); have W6 := hid (W5.out.trans (X6.out.mono W5.out.size)); have Y6 := hid (rangeBel2 X6.out Y5.out); clear P5 V5 W5 Y5)
        | ((with_reducible refine wpList_load_rng rfl 27 (.tmp 10) rfl _ 0 rfl (hdC gx) _ ?_ huh rfl jgx.out ?_); exact Q6.out))
      refine (hBq.out _).mono ?_
      rintro e w7 ⟨A9, c9, rfl, hO, hb⟩
      have P7 := hid (rangeBel2 hb P6.out)
      have V7 := hid (V6.out.bel hb)
      have W7 := hid (W6.out.trans (hb.mono W6.out.size))
      have Y7 := hid (rangeBel2 hb Y6.out)
      have Q7 := hid (rangeBel2 hb Q6.out)
      clear P6 V6 W6 Y6 Q6
      have O9 := hid hO.rd
      clear hb hO
      go_wp2_with fail
      refine (hSq.out _ _ _ _ _ O9.out V7.out).mono ?_
      rintro e w19 ⟨rfl, rfl⟩
      go_wp2
      go_ret
      exact ⟨rfl, W7.out⟩
    · have hge : (ge != 0) = true := bne_iff_ne.2 hg
      have hgz := hE.out hg
      have hEg : ∀ W, (Op.equalIn 10000 27 (.agg (hdC gx).toArray) (.agg zHdC)).run Try.prog W = .ok true W := fun W => eqhd_is gx zH hok.out zH_okq true (decide_eq_true hgz) W
      clear hZ hE hok hgz hg
      go_enter Try.func4, Try.ntmps4
      go_wp2_with fail
      generalize w.alloc (.cells (hdC x0).toArray 27) = w0 at *
      refine (hAl.out _).mono ?_
      rintro e w1 ⟨rfl, hb⟩
      have P1 := hid (rangeBel2 hb P0.out)
      have V1 := hid (V0.out.bel hb)
      have W1 := hid (W0.out.trans (hb.mono W0.out.size))
      clear P0 V0 W0
      clear hb 
      go_wp2_with (first
        | ((with_reducible refine wpList_load_rng rfl 27 (.tmp 2) rfl w.heap.size 0 rfl (hdC x0) _ ?_ huh rfl jx0.out ?_); exact P1.out))
      refine (hBx.out _).mono ?_
      rintro e w2 ⟨A2, c2, rfl, hO, hb⟩
      have P2 := hid (rangeBel2 hb P1.out)
      have V2 := hid (V1.out.bel hb)
      have W2 := hid (W1.out.trans (hb.mono W1.out.size))
      clear P1 V1 W1
      have O2 := hid hO.rd
      have o2 := hid hO.cap
      have l2 := hid (show 108 ≤ c2 from by have := hO.cap.1; have l := lyx.out; omega)
      clear hb hO
      go_wp2_with fail
      refine (hRx.out _ _ _ O2.out l2.out o2.out.2).mono ?_
      rintro e w3 ⟨rfl, hb⟩
      have P3 := hid (rangeBel2 hb P2.out)
      have V3 := hid (V2.out.bel hb)
      have W3 := hid (W2.out.trans (hb.mono W2.out.size))
      clear P2 V2 W2
      clear hb O2 o2 l2
      have e3 := hid (heap_alloc_new w3 (.cells zHdC 27))
      go_wp2_with (first
        | (with_reducible refine wpList_alloc_row rfl 27 rfl zHdC zInfoHd ?_)
        | ((with_reducible refine wpList_store_row rfl 27 (.tmp 8) (.tmp 31) rfl _ _ rfl rfl 27 zHdC ?_ ?_ ?_ ?_ ?_); exact e3.out; exact ax0.out; exact zx0.out; exact nx0.out; intro w4 hgS hbS hsS; have X4 := hid (xnewP rfl hbS); have Y4 := hid (rangeOf (l := hdC x0) hgS); clear hgS hbS hsS; have P4 := hid (rangeBel2 X4.out P3.out); have V4 := hid (V3.out.bel X4.out); have W4 := hid (W3.out.trans (X4.out.mono W3.out.size)); clear P3 V3 W3)
        | ((with_reducible refine wpList_load_rng ?_ 27 (.tmp 8) rfl _ 0 rfl (hdC x0) _ ?_ huh rfl jx0.out ?_); rfl; exact Y4.out)
        | ((with_reducible refine wpList_load_rng ?_ 27 (.tmp 2) rfl w.heap.size 0 rfl (hdC x0) _ ?_ huh rfl jx0.out ?_); rfl; exact P4.out))
      refine (hRb.out _ V4.out).mono ?_
      rintro e w5 ⟨rfl, hb⟩
      have P5 := hid (rangeBel2 hb P4.out)
      have V5 := hid (V4.out.bel hb)
      have W5 := hid (W4.out.trans (hb.mono W4.out.size))
      have Y5 := hid (rangeBel2 hb Y4.out)
      clear P4 V4 W4 Y4
      clear hb 
      have e5 := hid (heap_alloc_new w5 (.cells zHdC 27))
      go_wp2_with (first
        | (with_reducible refine wpList_alloc_row rfl 27 rfl zHdC zInfoHd ?_)
        | ((with_reducible refine wpList_store_row rfl 27 (.tmp 10) (.tmp 67) rfl _ _ rfl rfl 27 zHdC ?_ ?_ ?_ ?_ ?_); exact e5.out; exact agx.out; exact zgx.out; exact ngx.out; intro w6 hgS hbS hsS; have X6 := hid (xnewP rfl hbS); have Q6 := hid (rangeOf (l := hdC gx) hgS); clear hgS hbS hsS; have P6 := hid (rangeBel2 X6.out P5.out); have V6 := hid (V5.out.bel X6.out); have W6 := hid (W5.out.trans (X6.out.mono W5.out.size)); have Y6 := hid (rangeBel2 X6.out Y5.out); clear P5 V5 W5 Y5)
        | ((with_reducible refine wpList_load_rng ?_ 27 (.tmp 10) rfl _ 0 rfl (hdC gx) _ ?_ huh rfl jgx.out ?_); rfl; exact Q6.out)
        | ((with_reducible refine wpList_built ?_ 27 _ rfl zHdC [] ?_ ?_ ?_); rfl; exact built_hd0; rfl))
      go_ret
      exact ⟨rfl, W6.out⟩

/-! ### THE ROW's STEP: WRITTEN OUT: LEAVE IT -/
set_option maxRecDepth 100000 in
theorem lifted (os : Os) (started : os.Started) (H : Type) (enc : TypeId × Value → H) :
    ReturnsInHanded {} Try.checked os 4 .any (Rows.headerBackSpec.pre6 enc Try.prog Try.f4 Rows.headerBackRow.domain false) (Rows.headerBackSpec.post enc Try.prog Try.f4 false true false false) := by
  refine returnsInHanded_of_change (C := Try.checked) own started (by kernel_rfl) Try.func4
    (ChangeSpec.witness6 (enc := enc) (C := Try.checked) false ⟨#[], #[.agg zHdC, .slice none 0 0], []⟩ 8 (by kernel_rfl) (by kernel_rfl) (by kernel_rfl) (by kernel_rfl)) ?_
  intro W base args ds gs before hval0 hW hcnd _
  have hval : ∀ (j : Nat) t v, Try.f4.params[j]? = some t → args[j]? = some v → Value.okWide Try.prog W .any base t v := hval0
  have hW' := hW
  obtain ⟨p, q, hA0, hV, rfl, hfz, hnd⟩ := hW
  have hA : DataW.TrodAll enc Try.prog W 0 (fun _ => true) true Try.f4.params.toList args.toList ds p := hA0
  rw [Try.params4] at hA hval
  obtain ⟨v0, vs0, d0, ds0, p0, q0, hargs, rfl, rfl, h0, r0⟩ := trodAll_cons hA
  obtain ⟨v1, vs1, d1, ds1, p1, q1, rfl, rfl, rfl, h1, r1⟩ := trodAll_cons r0
  obtain ⟨rfl, rfl, rfl⟩ := trodAll_nil r1
  obtain rfl : args = #[v0, v1] := by cases args; simp_all
  obtain ⟨rfl, rfl⟩ := trodVars_none hV
  have k0 := h0
  have lt0 : ∀ x ∈ p0, x.block < W.heap.size := by obtain ⟨m, hm⟩ := k0; exact DataW.trod_lt m _ _ _ hm
  obtain ⟨x0, vs0, rfl, w0⟩ := open_struct opensHd Try.underlying27 (hval 0 27 v0 rfl rfl) h0
  obtain ⟨a1, len1, cap1, rfl⟩ := okWide_slice Try.underlying22 (hval 1 22 v1 rfl rfl)
  have k1 := h1
  have lt1 : ∀ x ∈ p1, x.block < W.heap.size := by obtain ⟨m, hm⟩ := k1; exact DataW.trod_lt m _ _ _ hm
  obtain ⟨z1, w1⟩ : ∃ zs, IsRow .u8 W a1 len1 cap1 zs := by
    obtain ⟨fuel, hf⟩ := h1
    rcases open_ints Try.underlying22 Try.underlying5 (by kernel_rfl) hf with ⟨hcs, _⟩ | ⟨x, l, c, zs, hcs, _, hl, hm, hz, _, hcell, hwz⟩
    · simp [Value.cells] at hcs
      obtain ⟨rfl, rfl, rfl⟩ := hcs
      exact ⟨[], .inl ⟨rfl, rfl, rfl, rfl⟩⟩
    · simp [Value.cells] at hcs
      obtain ⟨rfl, rfl, rfl⟩ := hcs
      exact ⟨zs, .inr ⟨_, rfl, hl, hm, by simpa using hz, hcell, hwz⟩⟩
  clear hA0 hval0
  refine (walk x0 vs0 a1 len1 cap1 z1 W w0 w1).mono fun e W' ⟨he, bel⟩ => ?_
  subst he
  exact ⟨_, rfl, _, _, _, [], _, [], hW', trodAll_mk1 (shut_bool Try.underlying4 _), (trodAll_cons_mk (Below.trod laidOut (by kernel_rfl) (of_decide_eq_true (by kernel_rfl)) k0 bel lt0) (trodAll_cons_mk (Below.trod laidOut (by kernel_rfl) (of_decide_eq_true (by kernel_rfl)) k1 bel lt1) trodAll_mk0)), rfl, bel.frame _, fun h => by cases h⟩

theorem over : Rows.headerBackRow.holds Try.pinned (OpenSpec.ofChange Rows.headerBackSpec) :=
  OpenClaim.holds_of_wide 4 Try.f4 rfl rfl rfl rfl rfl rfl rfl ⟨rfl, rfl, rfl, rfl, rfl⟩ rfl rfl rfl rfl rfl (by kernel_rfl) Try.func4 (by kernel_rfl)
    (of_decide_eq_true (by kernel_rfl)) (by unfold Func.isWrapper; first | (rw [if_pos (by decide +kernel)]; kernel_rfl) | (rw [if_neg (by decide +kernel)]; exact ⟨rfl, rfl⟩))
    (fun os started H enc _ => lifted os started H enc)

/-- ████ THE STATEMENT ████ -/
theorem proved : Rows.HeaderBackSaid := over
#print axioms proved
end Go.Proofs.Ytpfglincdlmfhaa.headerBack
