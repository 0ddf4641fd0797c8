/-
  The Go function ProofTells returns true: what a proof is told to be, what it tells, whether two are the same, and its twin, are the document's: any two proofs; what was answered is written over, and the proof stays; its arguments read afterwards as before.
  Conditions: none. The frame around the walk was written by program (proof-skeleton.mjs).
-/
import Derived.Test.YtminmkmkaoocaaaRows
import Derived.WalkKit
import Derived.ProofKit
import Derived.OpenShut
import Derived.ShutString
import Derived.ChangeOld
import Derived.Below
import Derived.Test.YtminmkmkaoocaaaPfE
import Derived.Test.YtminmkmkaoocaaaPfF
import Derived.Test.YtminmkmkaoocaaaRef07a
import Derived.Test.YtminmkmkaoocaaaRef07b
import Derived.Test.YtminmkmkaoocaaaRef07d
import Derived.Test.YtminmkmkaoocaaaMutI
namespace Go.Proofs.Ytminmkmkaoocaaa.proofTells
open Go.ChangeShapes Go.WideShapes Go.ChangeAt Go.RowKit
open Go.ChangeMaps (open_string shut_string)
set_option linter.unusedVariables false

theorem own : ownKnob Try.prog.godebug = none := by kernel_rfl
theorem laidOut : laidOutB Try.prog = true := by kernel_rfl

/-- WHAT THE WALK IS TOLD OF A SLICE OF INTEGERS THAT CAME IN: it is nil; or it leads to a row of 'cap' cells, the numbers 'zs' (the first 'len' are its elements, the rest its spare room), each fitting its kind. -/
def IsRow (k : IntKind) (w : World) (a : Option Addr) (len cap : Nat) (zs : List Int) : Prop :=
  (a = none ∧ len = 0 ∧ cap = 0 ∧ zs = []) ∨
  ∃ x, a = some x ∧ len ≤ cap ∧ cap ≤ maxLen ∧ zs.length = cap ∧ (∀ i, i < zs.length → w.cell? (x.add i) = some (.int k (zs.getD i 0))) ∧ ∀ n ∈ zs, (Lit.int k n).wf = true

/-! ### the walk -/
open Go.Proofs.Ytminmkmkaoocaaa
set_option linter.unusedSimpArgs false
set_option maxRecDepth 100000 in
set_option maxHeartbeats 8000000 in
theorem walk (x0 : Pf) (vs0 : List Value) (x1 : Pf) (vs1 : List Value) (w : World) (w0 : Enc.rep (fun b => b < w.heap.size) w x0 vs0) (w1 : Enc.rep (fun b => b < w.heap.size) w x1 vs1) :
    Calls Try.prog 4 #[.agg vs0.toArray, .agg vs1.toArray] w fun e w' => e = .returned (.bool true) ∧ Below w.heap.size w w' := by
  obtain ⟨A0, c0, D0, d0, rfl, ⟨hc0, hm0, hv0⟩, ⟨hd0, hn0, hs0⟩⟩ := rep_pf w0
  obtain ⟨B0, e0, E0, f0, rfl, ⟨hc1, hm1, hv1⟩, ⟨hd1, hn1, hs1⟩⟩ := rep_pf w1
  obtain ⟨X0, Y0, W0⟩ := boxesPP w x0 x1 A0 B0 c0 e0 D0 E0 d0 f0 44
  replace X0 := hid X0.all
  replace Y0 := hid Y0.all
  have V0 := hid (hv0.bel W0)
  have S0 := hid (hs0.bel W0)
  have U0 := hid (hv1.bel W0)
  have R0 := hid (hs1.bel W0)
  replace W0 := hid W0
  have hut := Try.underlying44
  have hi0 := hid (sizePfC x0 A0 c0 D0 d0)
  have hi1 := hid (sizePfC x1 B0 e0 E0 f0)
  obtain ⟨g1, hg1⟩ : ∃ g1, (decide (100 < x0.v.length) || decide (300 < x0.ss.length)) = g1 := ⟨_, rfl⟩
  obtain ⟨g2, hg2⟩ : ∃ g2, (decide (100 < x1.v.length) || decide (300 < x1.ss.length)) = g2 := ⟨_, rfl⟩
  have hG1 := fun W => RPfGreat_is x0 A0 c0 D0 d0 g1 W hg1
  have hG2 := fun W => RPfGreat_is x1 B0 e0 E0 f0 g2 W hg2
  have hTw := fun W (h1 : Row (fun b => b < w.heap.size) W A0 x0.v) (h2 : Row (fun b => b < w.heap.size) W D0 x0.ss) (k1 : x0.v.length ≤ 1000000) (k2 : x0.ss.length ≤ 1000000) => RPfTwin_any _ x0 A0 c0 D0 d0 W h1.rd k1 h2 k2
  obtain ⟨mb, hmb⟩ : ∃ mb, mayF x0 = mb := ⟨_, rfl⟩
  obtain ⟨tb, htb⟩ : ∃ tb, toldF x0 = tb := ⟨_, rfl⟩
  obtain ⟨sm, hsm⟩ : ∃ sm, decide (x0 = x1) = sm := ⟨_, rfl⟩
  have hT1 := fun A c D d W (h1 : Rd W A x0.v) (h2 : x0.v.length ≤ c) (h3 : c ≤ maxLen) (k1 : x0.v.length ≤ 1000000) => PfTold_is x0 A c D d tb W h1 h2 h3 k1 htb
  have hT2 := fun W (h1 : Row (fun b => b < w.heap.size) W A0 x0.v) (k1 : x0.v.length ≤ 1000000) => RPfTold_is x0 A0 c0 D0 d0 tb W h1.rd hc0 hm0 k1 htb
  have hTP := fun (F : Nat → Prop) A c D d W (h1 : Rd W A x0.v) (h2 : Row F W D x0.ss) (k1 : x0.v.length ≤ 1000000) (k2 : x0.ss.length ≤ 1000000) => PfTwin_any F x0 A c D d W h1 k1 h2 k2
  have hC1 := fun A c D d W (h1 : Rd W A x0.v) (h2 : x0.v.length ≤ c) (h3 : c ≤ maxLen) => PfCheck_is x0 A c D d mb W h1 h2 h3 hmb
  have hC2 := fun W (h1 : Row (fun b => b < w.heap.size) W A0 x0.v) => RPfCheck_is x0 A0 c0 D0 d0 mb W h1.rd hc0 hm0 hmb
  have hS1 := fun (F : Nat → Prop) A c D d W (h1 : Rd W A x0.v) (h2 : Row F W D x0.ss) (h3 : Row (fun b => b < w.heap.size) W B0 x1.v) (h4 : Row (fun b => b < w.heap.size) W E0 x1.ss) (k1 : x0.v.length ≤ 1000000) (k2 : x1.v.length ≤ 1000000) (k3 : x0.ss.length ≤ 1000000) (k4 : x1.ss.length ≤ 1000000) => PfSame_is F _ x0 x1 A B0 c e0 D E0 d f0 sm W h1 h3.rd h2 h4 k1 k2 k3 k4 hsm
  have hS2 := fun W (h1 : Row (fun b => b < w.heap.size) W A0 x0.v) (h2 : Row (fun b => b < w.heap.size) W D0 x0.ss) (h3 : Row (fun b => b < w.heap.size) W B0 x1.v) (h4 : Row (fun b => b < w.heap.size) W E0 x1.ss) (k1 : x0.v.length ≤ 1000000) (k2 : x1.v.length ≤ 1000000) (k3 : x0.ss.length ≤ 1000000) (k4 : x1.ss.length ≤ 1000000) => RPfSame_is _ _ x0 x1 A0 B0 c0 e0 D0 E0 d0 f0 sm W h1.rd h3.rd h2 h4 k1 k2 k3 k4 hsm
  have hS3 := fun (F : Nat → Prop) A c D d W (h1 : Rd W A x0.v) (h2 : Row F W D x0.ss) (h3 : Row (fun b => b < w.heap.size) W A0 x0.v) (h4 : Row (fun b => b < w.heap.size) W D0 x0.ss) (k1 : x0.v.length ≤ 1000000) (k3 : x0.ss.length ≤ 1000000) => PfSame_is F _ x0 x0 A A0 c c0 D D0 d d0 true W h1 h3.rd h2 h4 k1 k1 k3 k3 (decide_eq_true rfl)
  have hS4 := fun (F : Nat → Prop) A c D d W (h1 : Rd W A x0.v) (h2 : Row F W D x0.ss) (h3 : Row (fun b => b < w.heap.size) W A0 x0.v) (h4 : Row (fun b => b < w.heap.size) W D0 x0.ss) (k1 : x0.v.length ≤ 1000000) (k3 : x0.ss.length ≤ 1000000) => RPfSame_is F _ x0 x0 A A0 c c0 D D0 d d0 true W h1 h3.rd h2 h4 k1 k1 k3 k3 (decide_eq_true rfl)
  have k0 : g1 = false → x0.v.length ≤ 100 ∧ x0.ss.length ≤ 300 := fun h => by rw [← hg1] at h; simp at h; exact h
  have k1 : g2 = false → x1.v.length ≤ 100 ∧ x1.ss.length ≤ 300 := fun h => by rw [← hg2] at h; simp at h; exact h
  have hpl := fun A c D d => hid (sizePfC x0 A c D d)
  have hps := fun A c D d => hid (sizePfS x0 A c D d)
  have hpz := fun A c D d => hid (show zPfC.size = (pfC x0 A c D d).toArray.size by rw [zSizePf, List.size_toArray, len_pf])
  have hp1 := fun A c D d => hid (one_pf x0 A c D d)
  have hBP := hid (fun (W : World) (g : Nat) A c D d (h : W.rangeAt g 0 (pfC x0 A c D d)) => BoxP.of h)
  clear hg1 hg2 hmb htb hsm w0 w1 hv0 hs0 hv1 hs1 hc0 hm0 hd0 hn0 hc1 hm1 hd1 hn1
  obtain ⟨cc, hcc⟩ : ∃ cc : Int, (if mb = true then 0 else 8) = cc := ⟨_, rfl⟩
  rw [hcc] at hC1 hC2
  obtain ⟨l, hl⟩ : ∃ l, (if tb = true then x0.v else []) = l := ⟨_, rfl⟩
  rw [hl] at hT1 hT2
  have hll : x0.v.length ≤ 100 → l.length ≤ 100 := fun h => by rw [← hl]; split <;> simp [h]
  clear hcc hl
  replace hG1 := hid hG1
  replace hG2 := hid hG2
  replace hTw := hid hTw
  replace hT1 := hid hT1
  replace hT2 := hid hT2
  replace hTP := hid hTP
  replace hC1 := hid hC1
  replace hC2 := hid hC2
  replace hS1 := hid hS1
  replace hS2 := hid hS2
  replace hS3 := hid hS3
  replace hS4 := hid hS4
  replace k0 := hid k0
  replace k1 := hid k1
  replace hll := hid hll
  generalize hcs0 : pfC x0 A0 c0 D0 d0 = cs0 at *
  generalize hcs1 : pfC x1 B0 e0 E0 f0 = cs1 at *
  replace hcs0 := hid hcs0
  replace hcs1 := hid hcs1
  have f1 : (cc != cc) = false := by simp
  have f2 : (tb != tb) = false := by simp
  have f3 : (sm != sm) = false := by simp
  go_enter Try.func4, Try.ntmps4
  go_wp2_with (first
    | ((with_reducible refine wpList_load_rng ?_ 44 (.tmp 2) rfl w.heap.size 0 rfl cs0 _ ?_ hut rfl hi0.out ?_); rfl; exact X0.out))
  generalize (w.alloc (.cells cs0.toArray 44)).alloc (.cells cs1.toArray 44) = w0 at *
  refine (hG1.out _).mono ?_
  rintro e w1 ⟨rfl, hb⟩
  have X1 := hid (rangeBel2 hb X0.out)
  have Y1 := hid (rangeBel2 hb Y0.out)
  have V1 := hid (V0.out.bel hb)
  have S1 := hid (S0.out.bel hb)
  have U1 := hid (U0.out.bel hb)
  have R1 := hid (R0.out.bel hb)
  have W1 := hid (W0.out.trans (hb.mono W0.out.size))
  clear X0 Y0 V0 S0 U0 R0 W0
  clear hb hG1
  cases g1 with
  | true =>
    go_wp2
    go_ret
    exact ⟨rfl, W1.out⟩
  | false =>
  have kA := hid (k0.out rfl)
  clear k0
  go_wp2_with (first
    | ((with_reducible refine wpList_load_rng ?_ 44 (.tmp 3) rfl (w.heap.size + 1) 0 rfl cs1 _ ?_ hut rfl hi1.out ?_); rfl; exact Y1.out))
  refine (hG2.out _).mono ?_
  rintro e w2 ⟨rfl, hb⟩
  have X2 := hid (rangeBel2 hb X1.out)
  have Y2 := hid (rangeBel2 hb Y1.out)
  have V2 := hid (V1.out.bel hb)
  have S2 := hid (S1.out.bel hb)
  have U2 := hid (U1.out.bel hb)
  have R2 := hid (R1.out.bel hb)
  have W2 := hid (W1.out.trans (hb.mono W1.out.size))
  clear X1 Y1 V1 S1 U1 R1 W1
  clear hb hG2
  cases g2 with
  | true =>
    go_wp2
    go_ret
    exact ⟨rfl, W2.out⟩
  | false =>
  have kB := hid (k1.out rfl)
  clear k1
  go_wp2_with (first
    | ((with_reducible refine wpList_load_rng ?_ 44 (.tmp 2) rfl w.heap.size 0 rfl cs0 _ ?_ hut rfl hi0.out ?_); rfl; exact X2.out))
  refine (hTw.out _ V2.out S2.out (by have := kA.out; omega) (by have := kA.out; omega)).mono ?_
  rintro e w3 ⟨A1, q1, D1, r1, M1, rfl, ho, hq, hM, hA1, hb⟩
  have X3 := hid (rangeBel2 hb X2.out)
  have Y3 := hid (rangeBel2 hb Y2.out)
  have V3 := hid (V2.out.bel hb)
  have S3 := hid (S2.out.bel hb)
  have U3 := hid (U2.out.bel hb)
  have R3 := hid (R2.out.bel hb)
  have W3 := hid (W2.out.trans (hb.mono W2.out.size))
  clear X2 Y2 V2 S2 U2 R2 W2
  have P3 := hid ((ho.rd).row (F := fun b => b < w3.heap.size) fun a ha _ => (ho.blk a ha).2)
  have Q3 := hid ((OwnR.row hq).mono (G := fun b => b < w3.heap.size) fun b _ h => h)
  have cp := hid ho.cap
  have s0 := hid (World.block_lt_of_cell? _ _ (hBP.out w3 w.heap.size A0 c0 D0 d0 (by rw [hcs0.out]; exact X3.out)).en)
  clear hb ho hq hM hA1 hTw
  have e3 := hid (heap_alloc_new w3 (.cells zPfC 44))
  have iO := hpl A1 q1 D1 r1
  have jO := hps A1 q1 D1 r1
  have zO := hpz A1 q1 D1 r1
  have oO := hp1 A1 q1 D1 r1
  replace hT1 := hid (hT1.out A1 q1 D1 r1)
  replace hTP := hid (fun F => hTP.out F A1 q1 D1 r1)
  replace hC1 := hid (hC1.out A1 q1 D1 r1)
  replace hS1 := hid (fun F => hS1.out F A1 q1 D1 r1)
  replace hS3 := hid (fun F => hS3.out F A1 q1 D1 r1)
  have hS5 := hid (fun F => hS4.out F A1 q1 D1 r1)
  generalize hcsO : pfC x0 A1 q1 D1 r1 = csO at *
  replace hcsO := hid hcsO
  go_wp2_with (first
    | (with_reducible refine wpList_alloc_row rfl 44 rfl zPfC zInfoPf ?_)
    | ((with_reducible refine wpList_store_row rfl 44 (.tmp 5) (.tmp 21) rfl _ _ rfl rfl 44 zPfC ?_ ?_ ?_ ?_ ?_); exact e3.out; exact jO.out; exact zO.out; exact oO.out; intro w4 hgS hbS hsS; have X_ := hid (xnew_ rfl hbS); have lt4 := hid (block_lt hgS); have O4 := hid (rangeOf hgS); clear hgS hbS hsS; have X4 := hid (rangeBel2 X_.out X3.out); have Y4 := hid (rangeBel2 X_.out Y3.out); have V4 := hid (V3.out.bel X_.out); have S4 := hid (S3.out.bel X_.out); have U4 := hid (U3.out.bel X_.out); have R4 := hid (R3.out.bel X_.out); have W4 := hid (W3.out.trans (X_.out.mono W3.out.size)); have P4 := hid (P3.out.bel X_.out); have Q4 := hid (Q3.out.bel X_.out); clear X3 Y3 V3 S3 U3 R3 W3 P3 Q3)
    | ((with_reducible refine wpList_load_rng ?_ 44 (.tmp 5) rfl w3.heap.size 0 rfl csO _ ?_ hut rfl iO.out ?_); rfl; exact O4.out))
  have lo := lt4
  refine (hT1.out _ P4.out.rd cp.out.1 cp.out.2 (by have := kA.out; omega)).mono ?_
  rintro e w5 ⟨A2, q2, rfl, ho, hb⟩
  have X5 := hid (rangeBel2 hb X4.out)
  have Y5 := hid (rangeBel2 hb Y4.out)
  have V5 := hid (V4.out.bel hb)
  have S5 := hid (S4.out.bel hb)
  have U5 := hid (U4.out.bel hb)
  have R5 := hid (R4.out.bel hb)
  have W5 := hid (W4.out.trans (hb.mono W4.out.size))
  have P5 := hid (P4.out.bel hb)
  have Q5 := hid (Q4.out.bel hb)
  have O5 := hid (rangeBel2 hb O4.out)
  clear X4 Y4 V4 S4 U4 R4 W4 P4 Q4 O4
  have a5 := hid ho
  have s45 := hid hb.size
  clear hb ho hT1
  go_wp2_with (first
    | ((with_reducible refine wpList_load_rng ?_ 44 (.tmp 2) rfl w.heap.size 0 rfl cs0 _ ?_ hut rfl hi0.out ?_); rfl; exact X5.out))
  refine (hT2.out _ V5.out (by have := kA.out; omega)).mono ?_
  rintro e w6 ⟨A3, q3, rfl, ho, hb⟩
  have X6 := hid (rangeBel2 hb X5.out)
  have Y6 := hid (rangeBel2 hb Y5.out)
  have V6 := hid (V5.out.bel hb)
  have S6 := hid (S5.out.bel hb)
  have U6 := hid (U5.out.bel hb)
  have R6 := hid (R5.out.bel hb)
  have W6 := hid (W5.out.trans (hb.mono W5.out.size))
  have P6 := hid (P5.out.bel hb)
  have Q6 := hid (Q5.out.bel hb)
  have O6 := hid (rangeBel2 hb O5.out)
  have a6 := hid (a5.out.bel hb)
  clear X5 Y5 V5 S5 U5 R5 W5 P5 Q5 O5 a5
  have b6 := hid ho
  have s56 := hid hb.size
  clear hb ho hT2
  go_wp2_with (first
    | ((with_reducible refine wpList_load_rng ?_ 44 (.tmp 5) rfl w3.heap.size 0 rfl csO _ ?_ hut rfl iO.out ?_); rfl; exact O6.out))
  refine (hTP.out _ _ P6.out.rd Q6.out (by have := kA.out; omega) (by have := kA.out; omega)).mono ?_
  rintro e w7 ⟨A4, q4, D4, r4, M4, rfl, ho, hq, hM, hA4, hb⟩
  have X7 := hid (rangeBel2 hb X6.out)
  have Y7 := hid (rangeBel2 hb Y6.out)
  have V7 := hid (V6.out.bel hb)
  have S7 := hid (S6.out.bel hb)
  have U7 := hid (U6.out.bel hb)
  have R7 := hid (R6.out.bel hb)
  have W7 := hid (W6.out.trans (hb.mono W6.out.size))
  have P7 := hid (P6.out.bel hb)
  have Q7 := hid (Q6.out.bel hb)
  have O7 := hid (rangeBel2 hb O6.out)
  have a7 := hid (a6.out.bel hb)
  have b7 := hid (b6.out.bel hb)
  clear X6 Y6 V6 S6 U6 R6 W6 P6 Q6 O6 a6 b6
  have p7 := hid (ho.base (show w4.heap.size ≤ w6.heap.size by have := s45.out; have := s56.out; omega))
  have q7 := hid (OwnR.base hq (show w4.heap.size ≤ M4 by have := s45.out; have := s56.out; omega))
  have s67 := hid hb.size
  clear hb ho hq hM hA4 hTP
  have e7 := hid (heap_alloc_new w7 (.cells zPfC 44))
  have iT := hpl A4 q4 D4 r4
  have jT := hps A4 q4 D4 r4
  have zT := hpz A4 q4 D4 r4
  have oT := hp1 A4 q4 D4 r4
  replace hS4 := hid (fun F => hS4.out F A4 q4 D4 r4)
  have hBT := hid (fun W g => hBP.out W g A4 q4 D4 r4)
  generalize hcsT : pfC x0 A4 q4 D4 r4 = csT at *
  replace hcsT := hid hcsT
  go_wp2_with (first
    | (with_reducible refine wpList_alloc_row rfl 44 rfl zPfC zInfoPf ?_)
    | ((with_reducible refine wpList_store_row rfl 44 (.tmp 10) (.tmp 33) rfl _ _ rfl rfl 44 zPfC ?_ ?_ ?_ ?_ ?_); exact e7.out; exact jT.out; exact zT.out; exact oT.out; intro w8 hgS hbS hsS; have X_ := hid (xnew_ rfl hbS); have T8 := hid (rangeOf hgS); have sT := hid (show Soft w8 w7.heap.size from ⟨_, _, hgS⟩); have s78 := hid (Nat.le_of_lt (block_lt hgS)); clear hgS hbS hsS; have X8 := hid (rangeBel2 X_.out X7.out); have Y8 := hid (rangeBel2 X_.out Y7.out); have V8 := hid (V7.out.bel X_.out); have S8 := hid (S7.out.bel X_.out); have U8 := hid (U7.out.bel X_.out); have R8 := hid (R7.out.bel X_.out); have W8 := hid (W7.out.trans (X_.out.mono W7.out.size)); have P8 := hid (P7.out.bel X_.out); have Q8 := hid (Q7.out.bel X_.out); have O8 := hid (rangeBel2 X_.out O7.out); have a8 := hid (a7.out.bel X_.out); have b8 := hid (b7.out.bel X_.out); have p8 := hid (p7.out.bel X_.out); have q8 := hid (q7.out.bel X_.out); clear X7 Y7 V7 S7 U7 R7 W7 P7 Q7 O7 a7 b7 p7 q7))
  have kk := hid (show x0.v.length ≤ 1000000 ∧ x1.v.length ≤ 1000000 ∧ x0.ss.length ≤ 1000000 ∧ x1.ss.length ≤ 1000000 ∧ l.length ≤ 100 by have := kA.out; have := kB.out; have := hll.out kA.out.1; omega)
  have hEq := hid (fun W (h1 : Rd W A2 l) (h2 : Rd W A3 l) => RSame01_is A2 A3 q2 q3 l l true W h1 h2 (decide_eq_true rfl))
  refine wp_region_noPanic ?_
  refine wp_region_held_drew (S := fun w' => Below w8.heap.size w8 w') (by kernel_rfl) ?_ (fun hHeld => ?_)
  · exact bel_drew w8
  refine' wpAnyH_take (i := 0) (oi := _) (v := _) rfl (by kernel_rfl) (by kernel_rfl) (by kernel_rfl) (fun _ _ _ h => h) (yieldsIf_load_mid (by rfl) _ _ rfl _ _ rfl _ _ (fun _ h => rangeBel2 h O8.out) hut rfl iO.out) (by assumption) ?_
  try simp only [Act.put, List.setIfInBounds_toArray, List.set_cons_zero, List.set_cons_succ, List.getElem_toArray, List.getElem_cons_succ, List.getElem_cons_zero]
  refine' wpAnyH_take (i := 2) (oi := _) (v := _) rfl (by kernel_rfl) (by kernel_rfl) (by kernel_rfl) (fun _ _ _ h => h) (yieldsIf_load_mid (by rfl) _ _ rfl _ _ rfl _ _ (fun _ h => rangeBel2 h X8.out) hut rfl hi0.out) (by assumption) ?_
  try simp only [Act.put, List.setIfInBounds_toArray, List.set_cons_zero, List.set_cons_succ, List.getElem_toArray, List.getElem_cons_succ, List.getElem_cons_zero]
  refine wpAnyH_ready (rs := [1]) (by kernel_rfl) (by simp) ?_
  refine AllReadyH.cons (o := _) rfl (fun K hK => ?_) AllReadyH.nil
  go_simp
  refine (hC1.out _ (P8.out.bel hHeld).rd cp.out.1 cp.out.2).mono ?_
  rintro e8 w9 ⟨rfl, hB⟩
  go_wp2_with fail
  refine hK.out _ _ ?_ (fun hHeld => ?_)
  · exact hHeld.trans (hB.mono hHeld.size)
  clear hK K
  try simp only [Act.put, List.setIfInBounds_toArray, List.set_cons_zero, List.set_cons_succ, List.getElem_toArray, List.getElem_cons_succ, List.getElem_cons_zero]
  refine wpAnyH_ready (rs := [3]) (by kernel_rfl) (by simp) ?_
  refine AllReadyH.cons (o := _) rfl (fun K hK => ?_) AllReadyH.nil
  go_simp
  refine (hC2.out _ (V8.out.bel hHeld)).mono ?_
  rintro e8 w9 ⟨rfl, hB⟩
  go_wp2_with fail
  refine hK.out _ _ ?_ (fun hHeld => ?_)
  · exact hHeld.trans (hB.mono hHeld.size)
  clear hK K
  try simp only [Act.put, List.setIfInBounds_toArray, List.set_cons_zero, List.set_cons_succ, List.getElem_toArray, List.getElem_cons_succ, List.getElem_cons_zero]
  refine' wpAnyH_take (i := 4) (oi := _) (v := ?_) rfl (by kernel_rfl) (by kernel_rfl) (by kernel_rfl) (fun _ _ _ h => h) (Or.inl ⟨by rfl, ?_⟩) (by assumption) ?_
  rotate_left
  · intro W hSw
    go_simp
    first | done | (with_reducible rfl)
  try simp only [Act.put, List.setIfInBounds_toArray, List.set_cons_zero, List.set_cons_succ, List.getElem_toArray, List.getElem_cons_succ, List.getElem_cons_zero]
  refine' wpAnyH_take (i := 5) (oi := _) (v := ?_) rfl (by kernel_rfl) (by kernel_rfl) (by kernel_rfl) (fun _ _ _ h => h) (Or.inl ⟨by rfl, ?_⟩) (by assumption) ?_
  rotate_left
  · intro W hSw
    go_simp
    first | done | (with_reducible rfl)
  try simp only [Act.put, List.setIfInBounds_toArray, List.set_cons_zero, List.set_cons_succ, List.getElem_toArray, List.getElem_cons_succ, List.getElem_cons_zero]
  refine' wpAnyH_take (i := 6) (oi := _) (v := ?_) rfl (by kernel_rfl) (by kernel_rfl) (by kernel_rfl) (fun _ _ _ h => h) (Or.inl ⟨by rfl, ?_⟩) (by assumption) ?_
  rotate_left
  · intro W hSw
    go_simp
    first | done | (with_reducible rfl)
  try simp only [Act.put, List.setIfInBounds_toArray, List.set_cons_zero, List.set_cons_succ, List.getElem_toArray, List.getElem_cons_succ, List.getElem_cons_zero]
  refine' wpAnyH_take (i := 7) (oi := _) (v := ?_) rfl (by kernel_rfl) (by kernel_rfl) (by kernel_rfl) (fun _ _ _ h => h) (Or.inl ⟨by rfl, ?_⟩) (by assumption) ?_
  rotate_left
  · intro W hSw
    go_simp
    first | done | (with_reducible rfl)
  try simp only [Act.put, List.setIfInBounds_toArray, List.set_cons_zero, List.set_cons_succ, List.getElem_toArray, List.getElem_cons_succ, List.getElem_cons_zero]
  refine wpAnyH_ready (rs := [8]) (by kernel_rfl) (by simp) ?_
  refine AllReadyH.cons (o := _) rfl (fun K hK => ?_) AllReadyH.nil
  go_simp
  refine (hEq.out _ (a8.out.bel hHeld).rd (b8.out.bel hHeld).rd).mono ?_
  rintro e8 w9 ⟨rfl, rfl⟩
  go_wp2_with fail
  refine hK.out _ _ ?_ (fun hHeld => ?_)
  · exact hHeld
  clear hK K
  try simp only [Act.put, List.setIfInBounds_toArray, List.set_cons_zero, List.set_cons_succ, List.getElem_toArray, List.getElem_cons_succ, List.getElem_cons_zero]
  refine' wpAnyH_take (i := 9) (oi := _) (v := ?_) rfl (by kernel_rfl) (by kernel_rfl) (by kernel_rfl) (fun _ _ _ h => h) (Or.inl ⟨by rfl, ?_⟩) (by assumption) ?_
  rotate_left
  · intro W hSw
    go_simp
    first | done | (with_reducible rfl)
  try simp only [Act.put, List.setIfInBounds_toArray, List.set_cons_zero, List.set_cons_succ, List.getElem_toArray, List.getElem_cons_succ, List.getElem_cons_zero]
  refine' wpAnyH_take (i := 10) (oi := _) (v := ?_) rfl (by kernel_rfl) (by kernel_rfl) (by kernel_rfl) (fun _ _ _ h => h) (Or.inl ⟨by rfl, ?_⟩) (by assumption) ?_
  rotate_left
  · intro W hSw
    go_simp
    first | done | (with_reducible rfl)
  try simp only [Act.put, List.setIfInBounds_toArray, List.set_cons_zero, List.set_cons_succ, List.getElem_toArray, List.getElem_cons_succ, List.getElem_cons_zero]
  refine' wpAnyH_take (i := 11) (oi := _) (v := ?_) rfl (by kernel_rfl) (by kernel_rfl) (by kernel_rfl) (fun _ _ _ h => h) (Or.inl ⟨by rfl, ?_⟩) (by assumption) ?_
  rotate_left
  · intro W hSw
    go_simp
    first | done | (with_reducible rfl)
  try simp only [Act.put, List.setIfInBounds_toArray, List.set_cons_zero, List.set_cons_succ, List.getElem_toArray, List.getElem_cons_succ, List.getElem_cons_zero]
  refine' wpAnyH_take (i := 12) (oi := _) (v := ?_) rfl (by kernel_rfl) (by kernel_rfl) (by kernel_rfl) (fun _ _ _ h => h) (Or.inl ⟨by rfl, ?_⟩) (by assumption) ?_
  rotate_left
  · intro W hSw
    go_simp
    first | done | (with_reducible rfl)
  try simp only [Act.put, List.setIfInBounds_toArray, List.set_cons_zero, List.set_cons_succ, List.getElem_toArray, List.getElem_cons_succ, List.getElem_cons_zero]
  refine' wpAnyH_take (i := 13) (oi := _) (v := ?_) rfl (by kernel_rfl) (by kernel_rfl) (by kernel_rfl) (fun _ _ _ h => h) (Or.inl ⟨by rfl, ?_⟩) (by assumption) ?_
  rotate_left
  · intro W hSw
    go_simp
    first | done | (with_reducible rfl)
  try simp only [Act.put, List.setIfInBounds_toArray, List.set_cons_zero, List.set_cons_succ, List.getElem_toArray, List.getElem_cons_succ, List.getElem_cons_zero]
  refine' wpAnyH_take (i := 14) (oi := _) (v := ?_) rfl (by kernel_rfl) (by kernel_rfl) (by kernel_rfl) (fun _ _ _ h => h) (Or.inl ⟨by rfl, ?_⟩) (by assumption) ?_
  rotate_left
  · intro W hSw
    go_simp
    first | done | (with_reducible rfl)
  try simp only [Act.put, List.setIfInBounds_toArray, List.set_cons_zero, List.set_cons_succ, List.getElem_toArray, List.getElem_cons_succ, List.getElem_cons_zero]
  refine' wpAnyH_take (i := 15) (oi := _) (v := ?_) rfl (by kernel_rfl) (by kernel_rfl) (by kernel_rfl) (fun _ _ _ h => h) (Or.inl ⟨by rfl, ?_⟩) (by assumption) ?_
  rotate_left
  · intro W hSw
    go_simp
    first | done | (with_reducible rfl)
  try simp only [Act.put, List.setIfInBounds_toArray, List.set_cons_zero, List.set_cons_succ, List.getElem_toArray, List.getElem_cons_succ, List.getElem_cons_zero]
  refine' wpAnyH_take (i := 16) (oi := _) (v := ?_) rfl (by kernel_rfl) (by kernel_rfl) (by kernel_rfl) (fun _ _ _ h => h) (Or.inl ⟨by rfl, ?_⟩) (by assumption) ?_
  rotate_left
  · intro W hSw
    go_simp
    first | done | (with_reducible rfl)
  try simp only [Act.put, List.setIfInBounds_toArray, List.set_cons_zero, List.set_cons_succ, List.getElem_toArray, List.getElem_cons_succ, List.getElem_cons_zero]
  refine' wpAnyH_take (i := 17) (oi := _) (v := _) rfl (by kernel_rfl) (by kernel_rfl) (by kernel_rfl) (fun _ _ _ h => h) (yieldsIf_load_mid (by rfl) _ _ rfl _ _ rfl _ _ (fun _ h => rangeBel2 h O8.out) hut rfl iO.out) (by assumption) ?_
  try simp only [Act.put, List.setIfInBounds_toArray, List.set_cons_zero, List.set_cons_succ, List.getElem_toArray, List.getElem_cons_succ, List.getElem_cons_zero]
  refine' wpAnyH_take (i := 18) (oi := _) (v := _) rfl (by kernel_rfl) (by kernel_rfl) (by kernel_rfl) (fun _ _ _ h => h) (yieldsIf_load_mid (by rfl) _ _ rfl _ _ rfl _ _ (fun _ h => rangeBel2 h Y8.out) hut rfl hi1.out) (by assumption) ?_
  try simp only [Act.put, List.setIfInBounds_toArray, List.set_cons_zero, List.set_cons_succ, List.getElem_toArray, List.getElem_cons_succ, List.getElem_cons_zero]
  refine' wpAnyH_take (i := 20) (oi := _) (v := _) rfl (by kernel_rfl) (by kernel_rfl) (by kernel_rfl) (fun _ _ _ h => h) (yieldsIf_load_mid (by rfl) _ _ rfl _ _ rfl _ _ (fun _ h => rangeBel2 h X8.out) hut rfl hi0.out) (by assumption) ?_
  try simp only [Act.put, List.setIfInBounds_toArray, List.set_cons_zero, List.set_cons_succ, List.getElem_toArray, List.getElem_cons_succ, List.getElem_cons_zero]
  refine' wpAnyH_take (i := 21) (oi := _) (v := _) rfl (by kernel_rfl) (by kernel_rfl) (by kernel_rfl) (fun _ _ _ h => h) (yieldsIf_load_mid (by rfl) _ _ rfl _ _ rfl _ _ (fun _ h => rangeBel2 h Y8.out) hut rfl hi1.out) (by assumption) ?_
  try simp only [Act.put, List.setIfInBounds_toArray, List.set_cons_zero, List.set_cons_succ, List.getElem_toArray, List.getElem_cons_succ, List.getElem_cons_zero]
  refine wpAnyH_ready (rs := [19]) (by kernel_rfl) (by simp) ?_
  refine AllReadyH.cons (o := _) rfl (fun K hK => ?_) AllReadyH.nil
  go_simp
  refine (hS1.out _ _ (P8.out.bel hHeld).rd (Q8.out.bel hHeld) (U8.out.bel hHeld) (R8.out.bel hHeld) kk.out.1 kk.out.2.1 kk.out.2.2.1 kk.out.2.2.2.1).mono ?_
  rintro e8 w9 ⟨rfl, hB⟩
  go_wp2_with fail
  refine hK.out _ _ ?_ (fun hHeld => ?_)
  · exact hHeld.trans (hB.mono hHeld.size)
  clear hK K
  try simp only [Act.put, List.setIfInBounds_toArray, List.set_cons_zero, List.set_cons_succ, List.getElem_toArray, List.getElem_cons_succ, List.getElem_cons_zero]
  refine wpAnyH_ready (rs := [22]) (by kernel_rfl) (by simp) ?_
  refine AllReadyH.cons (o := _) rfl (fun K hK => ?_) AllReadyH.nil
  go_simp
  refine (hS2.out _ (V8.out.bel hHeld) (S8.out.bel hHeld) (U8.out.bel hHeld) (R8.out.bel hHeld) kk.out.1 kk.out.2.1 kk.out.2.2.1 kk.out.2.2.2.1).mono ?_
  rintro e8 w9 ⟨rfl, hB⟩
  go_wp2_with fail
  refine hK.out _ _ ?_ (fun hHeld => ?_)
  · exact hHeld.trans (hB.mono hHeld.size)
  clear hK K
  try simp only [Act.put, List.setIfInBounds_toArray, List.set_cons_zero, List.set_cons_succ, List.getElem_toArray, List.getElem_cons_succ, List.getElem_cons_zero]
  refine' wpAnyH_take (i := 23) (oi := _) (v := ?_) rfl (by kernel_rfl) (by kernel_rfl) (by kernel_rfl) (fun _ _ _ h => h) (Or.inl ⟨by rfl, ?_⟩) (by assumption) ?_
  rotate_left
  · intro W hSw
    go_simp
    first | done | (with_reducible rfl)
  try simp only [Act.put, List.setIfInBounds_toArray, List.set_cons_zero, List.set_cons_succ, List.getElem_toArray, List.getElem_cons_succ, List.getElem_cons_zero]
  refine' wpAnyH_take (i := 24) (oi := _) (v := ?_) rfl (by kernel_rfl) (by kernel_rfl) (by kernel_rfl) (fun _ _ _ h => h) (Or.inl ⟨by rfl, ?_⟩) (by assumption) ?_
  rotate_left
  · intro W hSw
    go_simp
    first | done | (with_reducible rfl)
  try simp only [Act.put, List.setIfInBounds_toArray, List.set_cons_zero, List.set_cons_succ, List.getElem_toArray, List.getElem_cons_succ, List.getElem_cons_zero]
  refine' wpAnyH_take (i := 25) (oi := _) (v := ?_) rfl (by kernel_rfl) (by kernel_rfl) (by kernel_rfl) (fun _ _ _ h => h) (Or.inl ⟨by rfl, ?_⟩) (by assumption) ?_
  rotate_left
  · intro W hSw
    go_simp
    first | done | (with_reducible rfl)
  try simp only [Act.put, List.setIfInBounds_toArray, List.set_cons_zero, List.set_cons_succ, List.getElem_toArray, List.getElem_cons_succ, List.getElem_cons_zero]
  refine' wpAnyH_take (i := 26) (oi := _) (v := _) rfl (by kernel_rfl) (by kernel_rfl) (by kernel_rfl) (fun _ _ _ h => h) (yieldsIf_load_mid (by rfl) _ _ rfl _ _ rfl _ _ (fun _ h => rangeBel2 h O8.out) hut rfl iO.out) (by assumption) ?_
  try simp only [Act.put, List.setIfInBounds_toArray, List.set_cons_zero, List.set_cons_succ, List.getElem_toArray, List.getElem_cons_succ, List.getElem_cons_zero]
  refine' wpAnyH_take (i := 27) (oi := _) (v := _) rfl (by kernel_rfl) (by kernel_rfl) (by kernel_rfl) (fun _ _ _ h => h) (yieldsIf_load_mid (by rfl) _ _ rfl _ _ rfl _ _ (fun _ h => rangeBel2 h X8.out) hut rfl hi0.out) (by assumption) ?_
  try simp only [Act.put, List.setIfInBounds_toArray, List.set_cons_zero, List.set_cons_succ, List.getElem_toArray, List.getElem_cons_succ, List.getElem_cons_zero]
  refine wpAnyH_ready (rs := [28]) (by kernel_rfl) (by simp) ?_
  refine AllReadyH.cons (o := _) rfl (fun K hK => ?_) AllReadyH.nil
  go_simp
  refine (hS3.out _ _ (P8.out.bel hHeld).rd (Q8.out.bel hHeld) (V8.out.bel hHeld) (S8.out.bel hHeld) kk.out.1 kk.out.2.2.1).mono ?_
  rintro e8 w9 ⟨rfl, hB⟩
  go_wp2_with fail
  refine hK.out _ _ ?_ (fun hHeld => ?_)
  · exact hHeld.trans (hB.mono hHeld.size)
  clear hK K
  try simp only [Act.put, List.setIfInBounds_toArray, List.set_cons_zero, List.set_cons_succ, List.getElem_toArray, List.getElem_cons_succ, List.getElem_cons_zero]
  refine' wpAnyH_take (i := 29) (oi := _) (v := ?_) rfl (by kernel_rfl) (by kernel_rfl) (by kernel_rfl) (fun _ _ _ h => h) (Or.inl ⟨by rfl, ?_⟩) (by assumption) ?_
  rotate_left
  · intro W hSw
    go_simp
    first | done | (with_reducible rfl)
  try simp only [Act.put, List.setIfInBounds_toArray, List.set_cons_zero, List.set_cons_succ, List.getElem_toArray, List.getElem_cons_succ, List.getElem_cons_zero]
  refine' wpAnyH_take (i := 30) (oi := _) (v := ?_) rfl (by kernel_rfl) (by kernel_rfl) (by kernel_rfl) (fun _ _ _ h => h) (Or.inl ⟨by rfl, ?_⟩) (by assumption) ?_
  rotate_left
  · intro W hSw
    go_simp
    first | done | (with_reducible rfl)
  try simp only [Act.put, List.setIfInBounds_toArray, List.set_cons_zero, List.set_cons_succ, List.getElem_toArray, List.getElem_cons_succ, List.getElem_cons_zero]
  refine' wpAnyH_take (i := 31) (oi := _) (v := ?_) rfl (by kernel_rfl) (by kernel_rfl) (by kernel_rfl) (fun _ _ _ h => h) (Or.inl ⟨by rfl, ?_⟩) (by assumption) ?_
  rotate_left
  · intro W hSw
    go_simp
    first | done | (with_reducible rfl)
  try simp only [Act.put, List.setIfInBounds_toArray, List.set_cons_zero, List.set_cons_succ, List.getElem_toArray, List.getElem_cons_succ, List.getElem_cons_zero]
  refine' wpAnyH_take (i := 32) (oi := _) (v := _) rfl (by kernel_rfl) (by kernel_rfl) (by kernel_rfl) (fun _ _ _ h => h) (yieldsIf_load_mid (by rfl) _ _ rfl _ _ rfl _ _ (fun _ h => rangeBel2 h T8.out) hut rfl iT.out) (by assumption) ?_
  try simp only [Act.put, List.setIfInBounds_toArray, List.set_cons_zero, List.set_cons_succ, List.getElem_toArray, List.getElem_cons_succ, List.getElem_cons_zero]
  refine' wpAnyH_take (i := 33) (oi := _) (v := _) rfl (by kernel_rfl) (by kernel_rfl) (by kernel_rfl) (fun _ _ _ h => h) (yieldsIf_load_mid (by rfl) _ _ rfl _ _ rfl _ _ (fun _ h => rangeBel2 h X8.out) hut rfl hi0.out) (by assumption) ?_
  try simp only [Act.put, List.setIfInBounds_toArray, List.set_cons_zero, List.set_cons_succ, List.getElem_toArray, List.getElem_cons_succ, List.getElem_cons_zero]
  refine wpAnyH_ready (rs := [34]) (by kernel_rfl) (by simp) ?_
  refine AllReadyH.cons (o := _) rfl (fun K hK => ?_) AllReadyH.nil
  go_simp
  refine (hS4.out _ _ (p8.out.bel hHeld).rd (OwnR.row (q8.out.bel hHeld)) (V8.out.bel hHeld) (S8.out.bel hHeld) kk.out.1 kk.out.2.2.1).mono ?_
  rintro e8 w9 ⟨rfl, hB⟩
  go_wp2_with fail
  refine hK.out _ _ ?_ (fun hHeld => ?_)
  · exact hHeld.trans (hB.mono hHeld.size)
  clear hK K
  try simp only [Act.put, List.setIfInBounds_toArray, List.set_cons_zero, List.set_cons_succ, List.getElem_toArray, List.getElem_cons_succ, List.getElem_cons_zero]
  refine' wpAnyH_take (i := 35) (oi := _) (v := ?_) rfl (by kernel_rfl) (by kernel_rfl) (by kernel_rfl) (fun _ _ _ h => h) (Or.inl ⟨by rfl, ?_⟩) (by assumption) ?_
  rotate_left
  · intro W hSw
    go_simp
    first | done | (with_reducible rfl)
  try simp only [Act.put, List.setIfInBounds_toArray, List.set_cons_zero, List.set_cons_succ, List.getElem_toArray, List.getElem_cons_succ, List.getElem_cons_zero]
  refine' wpAnyH_take (i := 36) (oi := _) (v := ?_) rfl (by kernel_rfl) (by kernel_rfl) (by kernel_rfl) (fun _ _ _ h => h) (Or.inl ⟨by rfl, ?_⟩) (by assumption) ?_
  rotate_left
  · intro W hSw
    go_simp
    first | done | (with_reducible rfl)
  try simp only [Act.put, List.setIfInBounds_toArray, List.set_cons_zero, List.set_cons_succ, List.getElem_toArray, List.getElem_cons_succ, List.getElem_cons_zero]
  refine wpAnyH_done (by kernel_rfl) ?_ _
  refine NoPanic.normal ?_
  have X9 := hid (rangeBel2 hHeld X8.out)
  have Y9 := hid (rangeBel2 hHeld Y8.out)
  have V9 := hid (V8.out.bel hHeld)
  have S9 := hid (S8.out.bel hHeld)
  have U9 := hid (U8.out.bel hHeld)
  have R9 := hid (R8.out.bel hHeld)
  have W9 := hid (W8.out.trans (hHeld.mono W8.out.size))
  have P9 := hid (P8.out.bel hHeld)
  have Q9 := hid (Q8.out.bel hHeld)
  have O9 := hid (rangeBel2 hHeld O8.out)
  have a9 := hid (a8.out.bel hHeld)
  have p9 := hid (p8.out.bel hHeld)
  have q9 := hid (q8.out.bel hHeld)
  have T9 := hid (rangeBel2 hHeld T8.out)
  clear X8 Y8 V8 S8 U8 R8 W8 P8 Q8 O8 a8 p8 q8 T8
  have sT9 := hid (sT.out.kept (hHeld.block _ sT.out.lt))
  have s89 := hid hHeld.size
  clear hHeld sT b8 hC1 hC2 hEq hS1 hS2 hS3 hS4
  have bT := hBT.out _ _ T9.out
  obtain ⟨n1, n2, n3, n4, n5⟩ := kk.out
  have tv := bT.val
  have ts := bT.sd
  have sa := hid (Own.soft a9.out)
  have ra := hid a9.out.rd
  have sp := hid (Own.soft p9.out)
  have rp := hid p9.out.rd
  have sq := hid (OwnR.softRow q9.out)
  have Tv := hid tv
  have Ts := hid ts
  clear a9 p9 q9 T9 bT hBT tv ts
  go_wp2
  go_loopw [11] (fun i wr => ∃ j : Nat, j ≤ l.length ∧ i = .int .i64 j ∧ MutI (fun b => w4.heap.size ≤ b) w9 wr) (fun i _ => l.length - (intOf i).toNat)
  case atStart => exact ⟨0, Nat.zero_le _, rfl, MutI.refl _ _⟩
  case round =>
    obtain ⟨j, hj, rfl, hm⟩ := hrel
    by_cases hlt : j < l.length
    · obtain ⟨b, o, hA, hc⟩ := ra.out (by omega)
      obtain ⟨hb0, hs0⟩ := sa.out _ hA
      have hc1 := hc j _ (List.getElem?_eq_getElem hlt)
      obtain ⟨n, hn⟩ := hm.num hs0 hc1
      have hf := (hs0.mutI hm).free (o + j)
      subst hA
      have Hm := hid hm
      have Hn := hid hn
      have Hb := hid hb0
      clear hc hc1 hs0 hb0 hm
      go_wp2
      go_roundw
      case rel => exact ⟨j + 1, by omega, by go_num, Hm.out.store Hb.out Hn.out _⟩
      case measure => simp [intOf]; omega
    · obtain rfl : j = l.length := by omega
      go_wp2
      go_loopw [12] (fun i wr => ∃ j : Nat, j ≤ x0.v.length ∧ i = .int .i64 j ∧ MutI (fun b => w4.heap.size ≤ b) w9 wr) (fun i _ => x0.v.length - (intOf i).toNat)
      case atStart => exact ⟨0, Nat.zero_le _, rfl, hm⟩
      case round =>
        obtain ⟨j, hj, rfl, hm⟩ := hrel
        have y1 := hm.same sT9.out Tv.out (not_sameI_slice _ _ _)
        by_cases hlt : j < x0.v.length
        · obtain ⟨b, o, hA, hc⟩ := rp.out (by omega)
          obtain ⟨hb0, hs0⟩ := sp.out _ hA
          have hc1 := hc j _ (List.getElem?_eq_getElem hlt)
          obtain ⟨n, hn⟩ := hm.num hs0 hc1
          have hf := (hs0.mutI hm).free (o + j)
          subst hA
          have Hm := hid hm
          have Hn := hid hn
          have Hb := hid hb0
          clear hc hc1 hs0 hb0 hm
          go_wp2
          go_still_tail 10, (by kernel_rfl)
          go_wp2
          go_roundw
          case rel => exact ⟨j + 1, by omega, by go_num, (Hm.out.store Hb.out Hn.out _).drew⟩
          case measure => simp [intOf]; omega
        · obtain rfl : j = x0.v.length := by omega
          go_wp2
          go_loopw [13] (fun i wr => ∃ j : Nat, j ≤ x0.ss.length ∧ i = .int .i64 j ∧ MutI (fun b => w4.heap.size ≤ b) w9 wr) (fun i _ => x0.ss.length - (intOf i).toNat)
          case atStart => exact ⟨0, Nat.zero_le _, rfl, hm⟩
          case round =>
            obtain ⟨j, hj, rfl, hm⟩ := hrel
            have y1 := hm.same sT9.out Ts.out (not_sameI_slice _ _ _)
            by_cases hlt : j < x0.ss.length
            · obtain ⟨b, o, hA, ⟨hb0, hs0⟩, -, hc⟩ := sq.out (by omega)
              obtain ⟨vs, h1, h2⟩ := hc j _ (List.getElem?_eq_getElem hlt)
              have h1 : vs = x0.ss[j].1.map bv := h1
              subst h1
              obtain ⟨u, hu⟩ : ∃ u : UInt8, (x0.ss[j].1.map bv)[0]? = some (bv u) := by
                have := x0.ss[j].2
                exact ⟨x0.ss[j].1[0], by rw [List.getElem?_map, List.getElem?_eq_getElem (by omega)]; rfl⟩
              have h3 := h2 0 _ hu
              rw [show Enc.size Dg = 32 from rfl, Nat.add_zero] at h3
              obtain ⟨n, hn⟩ := hm.num hs0 h3
              have hf := (hs0.mutI hm).free (o + j * 32)
              subst hA
              have Hm := hid hm
              have Hn := hid hn
              have Hb := hid hb0
              clear hc h2 h3 hu hs0 hb0 hm
              go_wp2
              go_still_tail 12, (by kernel_rfl)
              go_wp2
              go_roundw
              case rel => exact ⟨j + 1, by omega, by go_num, (Hm.out.store Hb.out Hn.out _).drew⟩
              case measure => simp [intOf]; omega
            · obtain rfl : j = x0.ss.length := by omega
              have hc := hm.chg
              have hlo := lo.out
              have Xz := hid (rangeAt_kept X9.out fun hl => hc.block _ hl (by have := s0.out; omega))
              have Oz := hid (rangeAt_kept O9.out fun hl => hc.block _ hl (by omega))
              have Vz := hid (V9.out.chg hc (fun b hb _ => by have := s0.out; omega))
              have Sz := hid (S9.out.chg hc (fun b hb _ => by have := s0.out; omega))
              have Pz := hid (P9.out.chg hc (fun b hb _ => by omega))
              have Qz := hid (Q9.out.chg hc (fun b hb _ => by omega))
              have Wz := hid (W9.out.trans (hc.below (Nat.le_trans (Nat.le_of_lt (Nat.lt_trans s0.out (show w3.heap.size < w4.heap.size from hlo))) (by have := s45.out; have := s56.out; have := s67.out; have := s78.out; have := s89.out; omega)) (fun b hb => by have := s0.out; omega)))
              clear hm hc
              go_wp2_with (first
                | ((with_reducible refine wpList_load_rng ?_ 44 (.tmp 5) rfl w3.heap.size 0 rfl csO _ ?_ hut rfl iO.out ?_); rfl; exact Oz.out)
                | ((with_reducible refine wpList_load_rng ?_ 44 (.tmp 2) rfl w.heap.size 0 rfl cs0 _ ?_ hut rfl hi0.out ?_); rfl; exact Xz.out))
              refine (hS5.out _ _ Pz.out.rd Qz.out Vz.out Sz.out kk.out.1 kk.out.2.2.1).mono ?_
              rintro e wy ⟨rfl, hb⟩
              go_wp2
              go_ret
              exact ⟨rfl, Wz.out.trans (hb.mono Wz.out.size)⟩

/-! ### THE ROW's STEP: WRITTEN OUT: LEAVE IT -/
set_option maxRecDepth 100000 in
theorem lifted (os : Os) (started : os.Started) (H : Type) (enc : TypeId × Value → H) :
    ReturnsInHanded {} Try.checked os 4 .any (Rows.proofTellsSpec.pre6 enc Try.prog Try.f4 Rows.proofTellsRow.domain false) (Rows.proofTellsSpec.post enc Try.prog Try.f4 false true false false) := by
  refine returnsInHanded_of_change (C := Try.checked) own started (by kernel_rfl) Try.func4
    (ChangeSpec.witness6 (enc := enc) (C := Try.checked) false ⟨#[], #[.agg zPfC, .agg zPfC], []⟩ 8 (by kernel_rfl) (by kernel_rfl) (by kernel_rfl) (by kernel_rfl)) ?_
  intro W base args ds gs before hval0 hW hcnd _
  have hval : ∀ (j : Nat) t v, Try.f4.params[j]? = some t → args[j]? = some v → Value.okWide Try.prog W .any base t v := hval0
  have hW' := hW
  obtain ⟨p, q, hA0, hV, rfl, hfz, hnd⟩ := hW
  have hA : DataW.TrodAll enc Try.prog W 0 (fun _ => true) true Try.f4.params.toList args.toList ds p := hA0
  rw [Try.params4] at hA hval
  obtain ⟨v0, vs0, d0, ds0, p0, q0, hargs, rfl, rfl, h0, r0⟩ := trodAll_cons hA
  obtain ⟨v1, vs1, d1, ds1, p1, q1, rfl, rfl, rfl, h1, r1⟩ := trodAll_cons r0
  obtain ⟨rfl, rfl, rfl⟩ := trodAll_nil r1
  obtain rfl : args = #[v0, v1] := by cases args; simp_all
  obtain ⟨rfl, rfl⟩ := trodVars_none hV
  have k0 := h0
  have lt0 : ∀ x ∈ p0, x.block < W.heap.size := by obtain ⟨m, hm⟩ := k0; exact DataW.trod_lt m _ _ _ hm
  obtain ⟨x0, vs0, rfl, w0⟩ := open_struct opensPf Try.underlying44 (hval 0 44 v0 rfl rfl) h0
  have k1 := h1
  have lt1 : ∀ x ∈ p1, x.block < W.heap.size := by obtain ⟨m, hm⟩ := k1; exact DataW.trod_lt m _ _ _ hm
  obtain ⟨x1, vs1, rfl, w1⟩ := open_struct opensPf Try.underlying44 (hval 1 44 v1 rfl rfl) h1
  clear hA0 hval0
  refine (walk x0 vs0 x1 vs1 W w0 w1).mono fun e W' ⟨he, bel⟩ => ?_
  subst he
  exact ⟨_, rfl, _, _, _, [], _, [], hW', trodAll_mk1 (shut_bool Try.underlying4 _), (trodAll_cons_mk (Below.trod laidOut (by kernel_rfl) (of_decide_eq_true (by kernel_rfl)) k0 bel lt0) (trodAll_cons_mk (Below.trod laidOut (by kernel_rfl) (of_decide_eq_true (by kernel_rfl)) k1 bel lt1) trodAll_mk0)), rfl, bel.frame _, fun h => by cases h⟩

theorem over : Rows.proofTellsRow.holds Try.pinned (OpenSpec.ofChange Rows.proofTellsSpec) :=
  OpenClaim.holds_of_wide 4 Try.f4 rfl rfl rfl rfl rfl rfl rfl ⟨rfl, rfl, rfl, rfl, rfl⟩ rfl rfl rfl rfl rfl (by kernel_rfl) Try.func4 (by kernel_rfl)
    (of_decide_eq_true (by kernel_rfl)) (by unfold Func.isWrapper; first | (rw [if_pos (by decide +kernel)]; kernel_rfl) | (rw [if_neg (by decide +kernel)]; exact ⟨rfl, rfl⟩))
    (fun os started H enc _ => lifted os started H enc)

/-- ████ THE STATEMENT ████ -/
theorem proved : Rows.ProofTellsSaid := over
#print axioms proved
end Go.Proofs.Ytminmkmkaoocaaa.proofTells
