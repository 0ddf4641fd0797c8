/-
  The Go function VerifyTells returns true: what is digested on a proof's road, its root, and whether it fits one, or the errors, are the document's: any proof and root; its arguments read afterwards as before.
  Conditions: none. The frame around the walk was written by program (proof-skeleton.mjs).
-/
import Derived.Test.YtnoglodggchgpaaDoorRows
import Derived.Test.YtnoglodggchgpaaDoorDoor
import Derived.WalkKit
import Derived.ProofKit
import Derived.OpenShut
import Derived.ShutString
import Derived.ChangeOld
import Derived.Below
import Derived.Test.YtnoglodggchgpaaDoorVfX
import Derived.Test.YtnoglodggchgpaaDoorRef08b
import Derived.Test.YtnoglodggchgpaaDoorRef07a
import Derived.Test.YtnoglodggchgpaaDoorRef07b
import Derived.Test.YtnoglodggchgpaaDoorRef03a
namespace Go.Proofs.YtnoglodggchgpaaDoor.verifyTells
open Go.ChangeShapes Go.WideShapes Go.ChangeAt Go.RowKit
open Go.ChangeMaps (open_string shut_string)
set_option linter.unusedVariables false

theorem own : ownKnob Tryd.prog.godebug = none := by kernel_rfl
theorem laidOut : laidOutB Tryd.prog = true := by kernel_rfl

/-- WHAT THE WALK IS TOLD OF A SLICE OF INTEGERS THAT CAME IN: it is nil; or it leads to a row of 'cap' cells, the numbers 'zs' (the first 'len' are its elements, the rest its spare room), each fitting its kind. -/
def IsRow (k : IntKind) (w : World) (a : Option Addr) (len cap : Nat) (zs : List Int) : Prop :=
  (a = none ∧ len = 0 ∧ cap = 0 ∧ zs = []) ∨
  ∃ x, a = some x ∧ len ≤ cap ∧ cap ≤ maxLen ∧ zs.length = cap ∧ (∀ i, i < zs.length → w.cell? (x.add i) = some (.int k (zs.getD i 0))) ∧ ∀ n ∈ zs, (Lit.int k n).wf = true

/-! ### the walk -/
open Go.Proofs.YtnoglodggchgpaaDoor
set_option linter.unusedSimpArgs false
set_option maxRecDepth 100000 in
set_option maxHeartbeats 8000000 in
theorem walk (x0 : Pf) (vs0 : List Value) (l1 : List UInt8) (w : World) (w0 : Enc.rep (fun b => b < w.heap.size) w x0 vs0) (w1 : l1.length = 32) (hT : Tab w) :
    Calls Tryd.prog 13 #[.agg vs0.toArray, .agg (l1.map bv).toArray] w fun e w' => e = .returned (.bool true) ∧ Below w.heap.size w w' := by
  obtain ⟨A0, c0, D0, d0, rfl, ⟨hc0, hm0, hv0⟩, ⟨hd0, hn0, hs0⟩⟩ := rep_pf w0
  obtain ⟨k, rfl⟩ : ∃ k : Dg, l1 = k.1 := ⟨⟨l1, w1⟩, rfl⟩
  obtain ⟨X0, K0, W0⟩ := boxesPD w x0 A0 c0 D0 d0 k 72 23
  replace X0 := hid X0.all
  replace K0 := hid K0
  have V0 := hid (hv0.bel W0)
  have S0 := hid (hs0.bel W0)
  have T0 := hid (hT.bel W0 hT.low)
  have hlow := hid hT.low
  replace W0 := hid W0
  have hup := Tryd.underlying72
  have hu := Tryd.underlying23
  have hi0 := hid (sizePfC x0 A0 c0 D0 d0)
  have hir := hid (sizeDg k)
  have hiR := hid (sizeDg (rootM x0))
  obtain ⟨g1, hg1⟩ : ∃ g1, (decide (100 < x0.v.length) || decide (300 < x0.ss.length)) = g1 := ⟨_, rfl⟩
  obtain ⟨m, hm⟩ : ∃ m, mayF x0 = m := ⟨_, rfl⟩
  obtain ⟨fb, hfb⟩ : ∃ fb, fitsF x0 k = fb := ⟨_, rfl⟩
  have hG1 := fun W => RPfGreat_is x0 A0 c0 D0 d0 g1 W hg1
  have hTw := fun W (h1 : Row (fun b => b < w.heap.size) W A0 x0.v) (h2 : Row (fun b => b < w.heap.size) W D0 x0.ss) (k1 : x0.v.length ≤ 1000000) (k2 : x0.ss.length ≤ 1000000) => RPfTwin_any _ x0 A0 c0 D0 d0 W h1.rd k1 h2 k2
  obtain ⟨z, hz⟩ : ∃ z : Int, (if m = true then 0 else 8) = z := ⟨_, rfl⟩
  obtain ⟨ls, hls⟩ : ∃ ls, (if m = true then inP x0 else []) = ls := ⟨_, rfl⟩
  have hI1 := fun (F : Nat → Prop) A c D d W (h1 : Rd W A x0.v) (h2 : x0.v.length ≤ c) (h3 : c ≤ maxLen) (h4 : Row F W D x0.ss) (h5 : Tab W) => VfInputsE_any x0 A c D d F m W hm h1 h2 h3 h4 h5
  have hI2 := fun W (h1 : Row (fun b => b < w.heap.size) W A0 x0.v) (h4 : Row (fun b => b < w.heap.size) W D0 x0.ss) => RVfInputs_any x0 A0 c0 D0 d0 _ m W hm h1.rd hc0 hm0 h4
  have hR1 := fun (F : Nat → Prop) A c D d W (h1 : Rd W A x0.v) (h2 : x0.v.length ≤ c) (h3 : c ≤ maxLen) (h4 : Row F W D x0.ss) (h5 : Tab W) => VfRoot_any x0 A c D d F m W hm h1 h2 h3 h4 h5
  have hR2 := fun W (h1 : Row (fun b => b < w.heap.size) W A0 x0.v) (h4 : Row (fun b => b < w.heap.size) W D0 x0.ss) => RVfRoot_any x0 A0 c0 D0 d0 _ m W hm h1.rd hc0 hm0 h4
  rw [hz] at hI1 hI2 hR1 hR2
  rw [hls] at hI1 hI2
  have hF1 := fun (F : Nat → Prop) A c D d W (h1 : Rd W A x0.v) (h2 : x0.v.length ≤ c) (h3 : c ≤ maxLen) (h4 : Row F W D x0.ss) (h5 : Tab W) => VfFits_is x0 A c D d k F fb W hfb h1 h2 h3 h4 h5
  have hF2 := fun W (h1 : Row (fun b => b < w.heap.size) W A0 x0.v) (h4 : Row (fun b => b < w.heap.size) W D0 x0.ss) => RVfFits_is x0 A0 c0 D0 d0 k _ fb W hfb h1.rd hc0 hm0 h4
  have hft : m = true → fitsF x0 (rootM x0) = true := fun h => by
    rw [h] at hm
    unfold fitsF rootM
    rw [hm]
    simp
  have hF3 := fun (F : Nat → Prop) A c D d W (hb : fitsF x0 (rootM x0) = true) (h1 : Rd W A x0.v) (h2 : x0.v.length ≤ c) (h3 : c ≤ maxLen) (h4 : Row F W D x0.ss) (h5 : Tab W) => VfFits_is x0 A c D d (rootM x0) F true W hb h1 h2 h3 h4 h5
  have hS4 := fun (F : Nat → Prop) A c D d W (h1 : Rd W A x0.v) (h2 : Row F W D x0.ss) (h3 : Row (fun b => b < w.heap.size) W A0 x0.v) (h4 : Row (fun b => b < w.heap.size) W D0 x0.ss) (k1 : x0.v.length ≤ 1000000) (k3 : x0.ss.length ≤ 1000000) => RPfSame_is F _ x0 x0 A A0 c c0 D D0 d d0 true W h1 h3.rd h2 h4 k1 k1 k3 k3 (decide_eq_true rfl)
  have hSL := fun A B c d W (h1 : Rds W A ls) (h2 : Rds W B ls) (h3 : ls.length ≤ 9223372036854775807) => SameL_any A B ls.length ls.length c d ls ls W h1 h2 rfl rfl h3 h3
  rw [decide_eq_true rfl] at hSL
  have hE : ∀ W, (Op.equalIn 10000 23 (.agg ((rootM x0).1.map bv).toArray) (.agg ((rootM x0).1.map bv).toArray)).run Tryd.prog W = .ok true W := fun W => eqd_is (rootM x0) (rootM x0) true (by simp) W
  have zd : ((rootM x0).1.map bv).toArray.size = 32 := by simp [(rootM x0).2]
  have zo := bvs_all (rootM x0).1
  have zs : (Tryd.prog.info? 23).map (·.size) = some ((rootM x0).1.map bv).toArray.size := by rw [zd]; exact size32
  have zz : z32.size = ((rootM x0).1.map bv).toArray.size := by rw [zd]; exact z32_size
  have k0 : g1 = false → x0.v.length ≤ 1000000 ∧ x0.ss.length ≤ 1000000 ∧ ls.length ≤ 9223372036854775807 := fun h => by
    rw [← hg1] at h
    simp at h
    refine ⟨by omega, by omega, ?_⟩
    rw [← hls]
    split
    · unfold inP
      rw [inL_length]
      omega
    · simp
  have hpl := fun A c D d => hid (sizePfC x0 A c D d)
  have hps := fun A c D d => sizePfS x0 A c D d
  have hpz := fun A c D d => (show zPfC.size = (pfC x0 A c D d).toArray.size by rw [zSizePf, List.size_toArray, len_pf])
  have hp1 := fun A c D d => one_pf x0 A c D d
  clear hg1 hfb hls w0 w1 hv0 hs0 hc0 hm0 hd0 hn0 hT hm
  replace hz := hid hz
  replace hG1 := hid hG1
  replace hTw := hid hTw
  replace hI1 := hid hI1
  replace hI2 := hid hI2
  replace hR1 := hid hR1
  replace hR2 := hid hR2
  replace hF1 := hid hF1
  replace hF2 := hid hF2
  replace hF3 := hid hF3
  replace hft := hid hft
  replace hS4 := hid hS4
  replace hSL := hid hSL
  replace k0 := hid k0
  replace hps := hid hps
  replace hpz := hid hpz
  replace hp1 := hid hp1
  replace zs := hid zs
  replace zz := hid zz
  generalize hcs0 : pfC x0 A0 c0 D0 d0 = cs0 at *
  generalize (rootM x0).1.map bv = dR at *
  generalize k.1.map bv = dr at *
  replace hcs0 := hid hcs0
  have f1 : (z == z) = true := by simp
  have f2 : (fb == fb) = true := by simp
  go_enter Tryd.func13, Tryd.ntmps13
  go_wp2_with (first
    | ((with_reducible refine wpList_load_rng ?_ 72 (.tmp 2) rfl w.heap.size 0 rfl cs0 _ ?_ hup rfl hi0.out ?_); rfl; exact X0.out))
  generalize (w.alloc (.cells cs0.toArray 72)).alloc (.cells dr.toArray 23) = w0 at *
  refine (hG1.out _).mono ?_
  rintro e w1 ⟨rfl, hb⟩
  have X1 := hid (rangeBel2 hb X0.out)
  have K1 := hid (rangeBel2 hb K0.out)
  have V1 := hid (V0.out.bel hb)
  have S1 := hid (S0.out.bel hb)
  have T1 := hid (T0.out.bel hb (Nat.lt_of_lt_of_le hlow.out W0.out.size))
  have W1 := hid (W0.out.trans (hb.mono W0.out.size))
  clear X0 K0 V0 S0 T0 W0
  clear hb hG1
  cases g1 with
  | true =>
    go_wp2
    go_ret
    exact ⟨rfl, W1.out⟩
  | false =>
  obtain ⟨kA, kB, kC⟩ := k0.out rfl
  replace kA := hid kA
  replace kB := hid kB
  replace kC := hid kC
  clear k0
  go_wp2_with (first
    | ((with_reducible refine wpList_load_rng ?_ 72 (.tmp 2) rfl w.heap.size 0 rfl cs0 _ ?_ hup rfl hi0.out ?_); rfl; exact X1.out))
  refine (hTw.out _ V1.out S1.out kA.out kB.out).mono ?_
  rintro e w3 ⟨A1, q1, D1, r1, M1, rfl, ho, hq, hM, hA1, hb⟩
  have X3 := hid (rangeBel2 hb X1.out)
  have K3 := hid (rangeBel2 hb K1.out)
  have V3 := hid (V1.out.bel hb)
  have S3 := hid (S1.out.bel hb)
  have T3 := hid (T1.out.bel hb (Nat.lt_of_lt_of_le hlow.out W1.out.size))
  have W3 := hid (W1.out.trans (hb.mono W1.out.size))
  clear X1 K1 V1 S1 T1 W1
  have P3 := hid ((ho.rd).row (F := fun b => b < w3.heap.size) fun a ha _ => (ho.blk a ha).2)
  have Q3 := hid ((OwnR.row hq).mono (G := fun b => b < w3.heap.size) fun b _ h => h)
  have cp := hid ho.cap
  clear hb ho hq hM hA1 hTw
  have e3 := hid (heap_alloc_new w3 (.cells zPfC 72))
  have iO := hpl A1 q1 D1 r1
  have jO := hid (hps.out A1 q1 D1 r1)
  have zO := hid (hpz.out A1 q1 D1 r1)
  have oO := hid (hp1.out A1 q1 D1 r1)
  replace hI1 := hid (fun F => hI1.out F A1 q1 D1 r1)
  replace hR1 := hid (fun F => hR1.out F A1 q1 D1 r1)
  replace hF1 := hid (fun F => hF1.out F A1 q1 D1 r1)
  replace hF3 := hid (fun F => hF3.out F A1 q1 D1 r1)
  replace hS4 := hid (fun F => hS4.out F A1 q1 D1 r1)
  clear hpl hps hpz hp1
  generalize hcsO : pfC x0 A1 q1 D1 r1 = csO at *
  replace hcsO := hid hcsO
  go_wp2_with (first
    | (with_reducible refine wpList_alloc_row rfl 72 rfl zPfC zInfoPf ?_)
    | ((with_reducible refine wpList_store_row rfl 72 (.tmp 5) (.tmp 18) rfl _ _ rfl rfl 72 zPfC ?_ ?_ ?_ ?_ ?_); exact e3.out; exact jO.out; exact zO.out; exact oO.out; intro w4 hgS hbS hsS; have Z_ := hid (xnewP rfl hbS); have O4 := hid (rangeOf hgS); clear hgS hbS hsS; have X4 := hid (rangeBel2 Z_.out X3.out); have K4 := hid (rangeBel2 Z_.out K3.out); have V4 := hid (V3.out.bel Z_.out); have S4 := hid (S3.out.bel Z_.out); have T4 := hid (T3.out.bel Z_.out (Nat.lt_of_lt_of_le hlow.out W3.out.size)); have P4 := hid (P3.out.bel Z_.out); have Q4 := hid (Q3.out.bel Z_.out); have W4 := hid (W3.out.trans (Z_.out.mono W3.out.size)); clear X3 K3 V3 S3 T3 P3 Q3 W3)
    | ((with_reducible refine wpList_load_rng ?_ 72 (.tmp 5) rfl w3.heap.size 0 rfl csO _ ?_ hup rfl iO.out ?_); rfl; exact O4.out))
  refine (hI1.out _ _ P4.out.rd cp.out.1 cp.out.2 Q4.out T4.out).mono ?_
  rintro e w5 ⟨A2, q2, rfl, ho, hb⟩
  have X5 := hid (rangeBel2 hb X4.out)
  have K5 := hid (rangeBel2 hb K4.out)
  have V5 := hid (V4.out.bel hb)
  have S5 := hid (S4.out.bel hb)
  have T5 := hid (T4.out.bel hb (Nat.lt_of_lt_of_le hlow.out W4.out.size))
  have P5 := hid (P4.out.bel hb)
  have Q5 := hid (Q4.out.bel hb)
  have O5 := hid (rangeBel2 hb O4.out)
  have W5 := hid (W4.out.trans (hb.mono W4.out.size))
  clear X4 K4 V4 S4 T4 P4 Q4 O4 W4
  have a5 := hid (RowO.row ho).rds
  clear hb ho hI1
  go_wp2_with (first
    | ((with_reducible refine wpList_load_rng ?_ 72 (.tmp 2) rfl w.heap.size 0 rfl cs0 _ ?_ hup rfl hi0.out ?_); rfl; exact X5.out))
  refine (hI2.out _ V5.out S5.out).mono ?_
  rintro e w6 ⟨A3, q3, rfl, ho, hb⟩
  have X6 := hid (rangeBel2 hb X5.out)
  have K6 := hid (rangeBel2 hb K5.out)
  have V6 := hid (V5.out.bel hb)
  have S6 := hid (S5.out.bel hb)
  have T6 := hid (T5.out.bel hb (Nat.lt_of_lt_of_le hlow.out W5.out.size))
  have P6 := hid (P5.out.bel hb)
  have Q6 := hid (Q5.out.bel hb)
  have O6 := hid (rangeBel2 hb O5.out)
  have a6 := hid (a5.out.bel hb)
  have W6 := hid (W5.out.trans (hb.mono W5.out.size))
  clear X5 K5 V5 S5 T5 P5 Q5 O5 a5 W5
  have b6 := hid (Row.rds ho)
  clear hb ho hI2
  go_wp2_with (first
    | ((with_reducible refine wpList_load_rng ?_ 72 (.tmp 5) rfl w3.heap.size 0 rfl csO _ ?_ hup rfl iO.out ?_); rfl; exact O6.out))
  refine (hR1.out _ _ P6.out.rd cp.out.1 cp.out.2 Q6.out T6.out).mono ?_
  rintro e w7 ⟨rfl, hb⟩
  have X7 := hid (rangeBel2 hb X6.out)
  have K7 := hid (rangeBel2 hb K6.out)
  have V7 := hid (V6.out.bel hb)
  have S7 := hid (S6.out.bel hb)
  have T7 := hid (T6.out.bel hb (Nat.lt_of_lt_of_le hlow.out W6.out.size))
  have P7 := hid (P6.out.bel hb)
  have Q7 := hid (Q6.out.bel hb)
  have O7 := hid (rangeBel2 hb O6.out)
  have a7 := hid (a6.out.bel hb)
  have b7 := hid (b6.out.bel hb)
  have W7 := hid (W6.out.trans (hb.mono W6.out.size))
  clear X6 K6 V6 S6 T6 P6 Q6 O6 a6 b6 W6
  clear hb hR1
  have e7 := hid (heap_alloc_new w7 (.cells z32 23))
  go_wp2_with (first
    | (with_reducible refine wpList_alloc_row rfl 23 rfl z32 info32 ?_)
    | ((with_reducible refine wpList_store_row rfl 23 (.tmp 10) (.tmp 32) rfl _ _ rfl rfl 23 z32 ?_ ?_ ?_ ?_ ?_); exact e7.out; exact zs.out; exact zz.out; exact zo; intro w8 hgS hbS hsS; have Z_ := hid (xnewP rfl hbS); have E8 := hid (rangeOf hgS); clear hgS hbS hsS; have X8 := hid (rangeBel2 Z_.out X7.out); have K8 := hid (rangeBel2 Z_.out K7.out); have V8 := hid (V7.out.bel Z_.out); have S8 := hid (S7.out.bel Z_.out); have T8 := hid (T7.out.bel Z_.out (Nat.lt_of_lt_of_le hlow.out W7.out.size)); have P8 := hid (P7.out.bel Z_.out); have Q8 := hid (Q7.out.bel Z_.out); have O8 := hid (rangeBel2 Z_.out O7.out); have a8 := hid (a7.out.bel Z_.out); have b8 := hid (b7.out.bel Z_.out); have W8 := hid (W7.out.trans (Z_.out.mono W7.out.size)); clear X7 K7 V7 S7 T7 P7 Q7 O7 a7 b7 W7)
    | ((with_reducible refine wpList_load_rng ?_ 72 (.tmp 2) rfl w.heap.size 0 rfl cs0 _ ?_ hup rfl hi0.out ?_); rfl; exact X8.out))
  refine (hR2.out _ V8.out S8.out).mono ?_
  rintro e w9 ⟨rfl, hb⟩
  have X9 := hid (rangeBel2 hb X8.out)
  have K9 := hid (rangeBel2 hb K8.out)
  have V9 := hid (V8.out.bel hb)
  have S9 := hid (S8.out.bel hb)
  have T9 := hid (T8.out.bel hb (Nat.lt_of_lt_of_le hlow.out W8.out.size))
  have P9 := hid (P8.out.bel hb)
  have Q9 := hid (Q8.out.bel hb)
  have O9 := hid (rangeBel2 hb O8.out)
  have a9 := hid (a8.out.bel hb)
  have b9 := hid (b8.out.bel hb)
  have E9 := hid (rangeBel2 hb E8.out)
  have W9 := hid (W8.out.trans (hb.mono W8.out.size))
  clear X8 K8 V8 S8 T8 P8 Q8 O8 a8 b8 E8 W8
  clear hb hR2
  have e9 := hid (heap_alloc_new w9 (.cells z32 23))
  go_wp2_with (first
    | (with_reducible refine wpList_alloc_row rfl 23 rfl z32 info32 ?_)
    | ((with_reducible refine wpList_store_row rfl 23 (.tmp 12) (.tmp 37) rfl _ _ rfl rfl 23 z32 ?_ ?_ ?_ ?_ ?_); exact e9.out; exact zs.out; exact zz.out; exact zo; intro w10 hgS hbS hsS; have Z_ := hid (xnewP rfl hbS); have G10 := hid (rangeOf hgS); clear hgS hbS hsS; have X10 := hid (rangeBel2 Z_.out X9.out); have K10 := hid (rangeBel2 Z_.out K9.out); have V10 := hid (V9.out.bel Z_.out); have S10 := hid (S9.out.bel Z_.out); have T10 := hid (T9.out.bel Z_.out (Nat.lt_of_lt_of_le hlow.out W9.out.size)); have P10 := hid (P9.out.bel Z_.out); have Q10 := hid (Q9.out.bel Z_.out); have O10 := hid (rangeBel2 Z_.out O9.out); have a10 := hid (a9.out.bel Z_.out); have b10 := hid (b9.out.bel Z_.out); have E10 := hid (rangeBel2 Z_.out E9.out); have W10 := hid (W9.out.trans (Z_.out.mono W9.out.size)); clear X9 K9 V9 S9 T9 P9 Q9 O9 a9 b9 E9 W9))
  refine (hSL.out _ _ _ _ _ a10.out b10.out kC.out).mono ?_
  rintro e w11 ⟨rfl, hb⟩
  have X11 := hid (rangeBel2 hb X10.out)
  have K11 := hid (rangeBel2 hb K10.out)
  have V11 := hid (V10.out.bel hb)
  have S11 := hid (S10.out.bel hb)
  have T11 := hid (T10.out.bel hb (Nat.lt_of_lt_of_le hlow.out W10.out.size))
  have P11 := hid (P10.out.bel hb)
  have Q11 := hid (Q10.out.bel hb)
  have O11 := hid (rangeBel2 hb O10.out)
  have E11 := hid (rangeBel2 hb E10.out)
  have G11 := hid (rangeBel2 hb G10.out)
  have W11 := hid (W10.out.trans (hb.mono W10.out.size))
  clear X10 K10 V10 S10 T10 P10 Q10 O10 E10 G10 W10
  clear hb hSL
  have l11 := hid (Nat.lt_of_lt_of_le hlow.out W11.out.size)
  cases m with
  | false =>
    obtain rfl : (8 : Int) = z := hz.out
    clear hz hft hF3
    go_wp2_with (first
      | ((with_reducible refine wpList_load_rng ?_ 23 (.tmp 10) rfl w7.heap.size 0 rfl dR _ ?_ hu rfl hiR.out ?_); rfl; exact E11.out)
      | ((with_reducible refine wpList_load_rng ?_ 23 (.tmp 12) rfl w9.heap.size 0 rfl dR _ ?_ hu rfl hiR.out ?_); rfl; exact G11.out))
    refine wp_region_noPanic ?_
    refine wp_region_held_drew (S := fun w' => Below w11.heap.size w11 w') (by kernel_rfl) ?_ (fun hHeld => ?_)
    · exact bel_drew w11
    refine' wpAnyH_take (i := 0) (oi := _) (v := ?_) rfl (by kernel_rfl) (by kernel_rfl) (by kernel_rfl) (fun _ _ _ h => h) (Or.inl ⟨by rfl, ?_⟩) (by assumption) ?_
    rotate_left
    · intro W hSw
      go_simp
      first | done | (with_reducible rfl)
    try simp only [Act.put, List.setIfInBounds_toArray, List.set_cons_zero, List.set_cons_succ, List.getElem_toArray, List.getElem_cons_succ, List.getElem_cons_zero]
    refine' wpAnyH_take (i := 1) (oi := _) (v := ?_) rfl (by kernel_rfl) (by kernel_rfl) (by kernel_rfl) (fun _ _ _ h => h) (Or.inl ⟨by rfl, ?_⟩) (by assumption) ?_
    rotate_left
    · intro W hSw
      go_simp
      first | done | (with_reducible rfl)
    try simp only [Act.put, List.setIfInBounds_toArray, List.set_cons_zero, List.set_cons_succ, List.getElem_toArray, List.getElem_cons_succ, List.getElem_cons_zero]
    refine' wpAnyH_take (i := 2) (oi := _) (v := _) rfl (by kernel_rfl) (by kernel_rfl) (by kernel_rfl) (fun _ _ _ h => h) (yieldsIf_load_mid (by rfl) _ _ rfl _ _ rfl _ _ (fun _ h => rangeBel2 h O11.out) hup rfl iO.out) (by assumption) ?_
    try simp only [Act.put, List.setIfInBounds_toArray, List.set_cons_zero, List.set_cons_succ, List.getElem_toArray, List.getElem_cons_succ, List.getElem_cons_zero]
    refine' wpAnyH_take (i := 3) (oi := _) (v := _) rfl (by kernel_rfl) (by kernel_rfl) (by kernel_rfl) (fun _ _ _ h => h) (yieldsIf_load_mid (by rfl) _ _ rfl _ _ rfl _ _ (fun _ h => rangeBel2 h K11.out) hu rfl hir.out) (by assumption) ?_
    try simp only [Act.put, List.setIfInBounds_toArray, List.set_cons_zero, List.set_cons_succ, List.getElem_toArray, List.getElem_cons_succ, List.getElem_cons_zero]
    refine' wpAnyH_take (i := 5) (oi := _) (v := _) rfl (by kernel_rfl) (by kernel_rfl) (by kernel_rfl) (fun _ _ _ h => h) (yieldsIf_load_mid (by rfl) _ _ rfl _ _ rfl _ _ (fun _ h => rangeBel2 h X11.out) hup rfl hi0.out) (by assumption) ?_
    try simp only [Act.put, List.setIfInBounds_toArray, List.set_cons_zero, List.set_cons_succ, List.getElem_toArray, List.getElem_cons_succ, List.getElem_cons_zero]
    refine' wpAnyH_take (i := 6) (oi := _) (v := _) rfl (by kernel_rfl) (by kernel_rfl) (by kernel_rfl) (fun _ _ _ h => h) (yieldsIf_load_mid (by rfl) _ _ rfl _ _ rfl _ _ (fun _ h => rangeBel2 h K11.out) hu rfl hir.out) (by assumption) ?_
    try simp only [Act.put, List.setIfInBounds_toArray, List.set_cons_zero, List.set_cons_succ, List.getElem_toArray, List.getElem_cons_succ, List.getElem_cons_zero]
    refine wpAnyH_ready (rs := [4]) (by kernel_rfl) (by simp) ?_
    refine AllReadyH.cons (o := _) rfl (fun K hK => ?_) AllReadyH.nil
    go_simp
    refine (hF1.out _ _ (P11.out.bel hHeld).rd cp.out.1 cp.out.2 (Q11.out.bel hHeld) (T11.out.bel hHeld l11.out)).mono ?_
    rintro e8 w12 ⟨rfl, hB⟩
    go_wp2_with fail
    refine hK.out _ _ ?_ (fun hHeld => ?_)
    · exact hHeld.trans (hB.mono hHeld.size)
    clear hK K
    try simp only [Act.put, List.setIfInBounds_toArray, List.set_cons_zero, List.set_cons_succ, List.getElem_toArray, List.getElem_cons_succ, List.getElem_cons_zero]
    refine wpAnyH_ready (rs := [7]) (by kernel_rfl) (by simp) ?_
    refine AllReadyH.cons (o := _) rfl (fun K hK => ?_) AllReadyH.nil
    go_simp
    refine (hF2.out _ (V11.out.bel hHeld) (S11.out.bel hHeld)).mono ?_
    rintro e8 w12 ⟨rfl, hB⟩
    go_wp2_with fail
    refine hK.out _ _ ?_ (fun hHeld => ?_)
    · exact hHeld.trans (hB.mono hHeld.size)
    clear hK K
    try simp only [Act.put, List.setIfInBounds_toArray, List.set_cons_zero, List.set_cons_succ, List.getElem_toArray, List.getElem_cons_succ, List.getElem_cons_zero]
    refine' wpAnyH_take (i := 8) (oi := _) (v := ?_) rfl (by kernel_rfl) (by kernel_rfl) (by kernel_rfl) (fun _ _ _ h => h) (Or.inl ⟨by rfl, ?_⟩) (by assumption) ?_
    rotate_left
    · intro W hSw
      go_simp
      first | done | (with_reducible rfl)
    try simp only [Act.put, List.setIfInBounds_toArray, List.set_cons_zero, List.set_cons_succ, List.getElem_toArray, List.getElem_cons_succ, List.getElem_cons_zero]
    refine' wpAnyH_take (i := 9) (oi := _) (v := ?_) rfl (by kernel_rfl) (by kernel_rfl) (by kernel_rfl) (fun _ _ _ h => h) (Or.inl ⟨by rfl, ?_⟩) (by assumption) ?_
    rotate_left
    · intro W hSw
      go_simp
      first | done | (with_reducible rfl)
    try simp only [Act.put, List.setIfInBounds_toArray, List.set_cons_zero, List.set_cons_succ, List.getElem_toArray, List.getElem_cons_succ, List.getElem_cons_zero]
    refine' wpAnyH_take (i := 10) (oi := _) (v := ?_) rfl (by kernel_rfl) (by kernel_rfl) (by kernel_rfl) (fun _ _ _ h => h) (Or.inl ⟨by rfl, ?_⟩) (by assumption) ?_
    rotate_left
    · intro W hSw
      go_simp
      first | done | (with_reducible rfl)
    try simp only [Act.put, List.setIfInBounds_toArray, List.set_cons_zero, List.set_cons_succ, List.getElem_toArray, List.getElem_cons_succ, List.getElem_cons_zero]
    refine' wpAnyH_take (i := 11) (oi := _) (v := ?_) rfl (by kernel_rfl) (by kernel_rfl) (by kernel_rfl) (fun _ _ _ h => h) (Or.inl ⟨by rfl, ?_⟩) (by assumption) ?_
    rotate_left
    · intro W hSw
      go_simp
      first | done | (with_reducible rfl)
    try simp only [Act.put, List.setIfInBounds_toArray, List.set_cons_zero, List.set_cons_succ, List.getElem_toArray, List.getElem_cons_succ, List.getElem_cons_zero]
    refine' wpAnyH_take (i := 12) (oi := _) (v := ?_) rfl (by kernel_rfl) (by kernel_rfl) (by kernel_rfl) (fun _ _ _ h => h) (Or.inl ⟨by rfl, ?_⟩) (by assumption) ?_
    rotate_left
    · intro W hSw
      go_simp
      first | done | (with_reducible rfl)
    try simp only [Act.put, List.setIfInBounds_toArray, List.set_cons_zero, List.set_cons_succ, List.getElem_toArray, List.getElem_cons_succ, List.getElem_cons_zero]
    refine' wpAnyH_take (i := 13) (oi := _) (v := ?_) rfl (by kernel_rfl) (by kernel_rfl) (by kernel_rfl) (fun _ _ _ h => h) (Or.inl ⟨by rfl, ?_⟩) (by assumption) ?_
    rotate_left
    · intro W hSw
      go_simp
      first | done | (with_reducible rfl)
    try simp only [Act.put, List.setIfInBounds_toArray, List.set_cons_zero, List.set_cons_succ, List.getElem_toArray, List.getElem_cons_succ, List.getElem_cons_zero]
    refine' wpAnyH_take (i := 14) (oi := _) (v := _) rfl (by kernel_rfl) (by kernel_rfl) (by kernel_rfl) (fun _ _ _ h => h) (Or.inr ⟨by rfl, rfl⟩) (by assumption) ?_
    try simp only [Act.put, List.setIfInBounds_toArray, List.set_cons_zero, List.set_cons_succ, List.getElem_toArray, List.getElem_cons_succ, List.getElem_cons_zero]
    refine' wpAnyH_take (i := 15) (oi := _) (v := _) rfl (by kernel_rfl) (by kernel_rfl) (by kernel_rfl) (fun _ _ _ h => h) (Or.inr ⟨by rfl, rfl⟩) (by assumption) ?_
    try simp only [Act.put, List.setIfInBounds_toArray, List.set_cons_zero, List.set_cons_succ, List.getElem_toArray, List.getElem_cons_succ, List.getElem_cons_zero]
    refine' wpAnyH_take (i := 16) (oi := _) (v := _) rfl (by kernel_rfl) (by kernel_rfl) (by kernel_rfl) (fun _ _ _ h => h) (Or.inr ⟨by rfl, rfl⟩) (by assumption) ?_
    try simp only [Act.put, List.setIfInBounds_toArray, List.set_cons_zero, List.set_cons_succ, List.getElem_toArray, List.getElem_cons_succ, List.getElem_cons_zero]
    refine' wpAnyH_take (i := 17) (oi := _) (v := ?_) rfl (by kernel_rfl) (by kernel_rfl) (by kernel_rfl) (fun _ _ _ h => h) (Or.inl ⟨by rfl, ?_⟩) (by assumption) ?_
    rotate_left
    · intro W hSw
      go_simp
      first | done | (with_reducible rfl)
    try simp only [Act.put, List.setIfInBounds_toArray, List.set_cons_zero, List.set_cons_succ, List.getElem_toArray, List.getElem_cons_succ, List.getElem_cons_zero]
    refine' wpAnyH_take (i := 18) (oi := _) (v := ?_) rfl (by kernel_rfl) (by kernel_rfl) (by kernel_rfl) (fun _ _ _ h => h) (Or.inl ⟨by rfl, ?_⟩) (by assumption) ?_
    rotate_left
    · intro W hSw
      go_simp
      first | done | (with_reducible rfl)
    try simp only [Act.put, List.setIfInBounds_toArray, List.set_cons_zero, List.set_cons_succ, List.getElem_toArray, List.getElem_cons_succ, List.getElem_cons_zero]
    refine' wpAnyH_take (i := 19) (oi := _) (v := ?_) rfl (by kernel_rfl) (by kernel_rfl) (by kernel_rfl) (fun _ _ _ h => h) (Or.inl ⟨by rfl, ?_⟩) (by assumption) ?_
    rotate_left
    · intro W hSw
      go_simp
      first | done | (with_reducible rfl)
    try simp only [Act.put, List.setIfInBounds_toArray, List.set_cons_zero, List.set_cons_succ, List.getElem_toArray, List.getElem_cons_succ, List.getElem_cons_zero]
    refine' wpAnyH_take (i := 20) (oi := _) (v := _) rfl (by kernel_rfl) (by kernel_rfl) (by kernel_rfl) (fun _ _ _ h => h) (yieldsIf_load_mid (by rfl) _ _ rfl _ _ rfl _ _ (fun _ h => rangeBel2 h O11.out) hup rfl iO.out) (by assumption) ?_
    try simp only [Act.put, List.setIfInBounds_toArray, List.set_cons_zero, List.set_cons_succ, List.getElem_toArray, List.getElem_cons_succ, List.getElem_cons_zero]
    refine' wpAnyH_take (i := 21) (oi := _) (v := _) rfl (by kernel_rfl) (by kernel_rfl) (by kernel_rfl) (fun _ _ _ h => h) (yieldsIf_load_mid (by rfl) _ _ rfl _ _ rfl _ _ (fun _ h => rangeBel2 h X11.out) hup rfl hi0.out) (by assumption) ?_
    try simp only [Act.put, List.setIfInBounds_toArray, List.set_cons_zero, List.set_cons_succ, List.getElem_toArray, List.getElem_cons_succ, List.getElem_cons_zero]
    refine wpAnyH_ready (rs := [22]) (by kernel_rfl) (by simp) ?_
    refine AllReadyH.cons (o := _) rfl (fun K hK => ?_) AllReadyH.nil
    go_simp
    refine (hS4.out _ _ (P11.out.bel hHeld).rd (Q11.out.bel hHeld) (V11.out.bel hHeld) (S11.out.bel hHeld) kA.out kB.out).mono ?_
    rintro e8 w12 ⟨rfl, hB⟩
    go_wp2_with fail
    refine hK.out _ _ ?_ (fun hHeld => ?_)
    · exact hHeld.trans (hB.mono hHeld.size)
    clear hK K
    try simp only [Act.put, List.setIfInBounds_toArray, List.set_cons_zero, List.set_cons_succ, List.getElem_toArray, List.getElem_cons_succ, List.getElem_cons_zero]
    refine' wpAnyH_take (i := 23) (oi := _) (v := ?_) rfl (by kernel_rfl) (by kernel_rfl) (by kernel_rfl) (fun _ _ _ h => h) (Or.inl ⟨by rfl, ?_⟩) (by assumption) ?_
    rotate_left
    · intro W hSw
      go_simp
      first | done | (with_reducible rfl)
    try simp only [Act.put, List.setIfInBounds_toArray, List.set_cons_zero, List.set_cons_succ, List.getElem_toArray, List.getElem_cons_succ, List.getElem_cons_zero]
    refine' wpAnyH_take (i := 24) (oi := _) (v := ?_) rfl (by kernel_rfl) (by kernel_rfl) (by kernel_rfl) (fun _ _ _ h => h) (Or.inl ⟨by rfl, ?_⟩) (by assumption) ?_
    rotate_left
    · intro W hSw
      go_simp
      first | done | (with_reducible rfl)
    try simp only [Act.put, List.setIfInBounds_toArray, List.set_cons_zero, List.set_cons_succ, List.getElem_toArray, List.getElem_cons_succ, List.getElem_cons_zero]
    refine wpAnyH_done (by kernel_rfl) ?_ _
    refine NoPanic.normal ?_
    go_wp2
    go_ret
    exact ⟨rfl, W11.out.trans (hHeld.mono W11.out.size)⟩
  | true =>
    obtain rfl : (0 : Int) = z := hz.out
    have hft2 := hid (hft.out rfl)
    clear hz hft
    go_wp2_with (first
      | ((with_reducible refine wpList_load_rng ?_ 23 (.tmp 10) rfl w7.heap.size 0 rfl dR _ ?_ hu rfl hiR.out ?_); rfl; exact E11.out)
      | ((with_reducible refine wpList_load_rng ?_ 23 (.tmp 12) rfl w9.heap.size 0 rfl dR _ ?_ hu rfl hiR.out ?_); rfl; exact G11.out))
    refine wp_region_noPanic ?_
    refine wp_region_held_drew (S := fun w' => Below w11.heap.size w11 w') (by kernel_rfl) ?_ (fun hHeld => ?_)
    · exact bel_drew w11
    refine' wpAnyH_take (i := 0) (oi := _) (v := ?_) rfl (by kernel_rfl) (by kernel_rfl) (by kernel_rfl) (fun _ _ _ h => h) (Or.inl ⟨by rfl, ?_⟩) (by assumption) ?_
    rotate_left
    · intro W hSw
      go_simp
      first | done | (with_reducible rfl)
    try simp only [Act.put, List.setIfInBounds_toArray, List.set_cons_zero, List.set_cons_succ, List.getElem_toArray, List.getElem_cons_succ, List.getElem_cons_zero]
    refine' wpAnyH_take (i := 1) (oi := _) (v := ?_) rfl (by kernel_rfl) (by kernel_rfl) (by kernel_rfl) (fun _ _ _ h => h) (Or.inl ⟨by rfl, ?_⟩) (by assumption) ?_
    rotate_left
    · intro W hSw
      go_simp
      first | done | (with_reducible rfl)
    try simp only [Act.put, List.setIfInBounds_toArray, List.set_cons_zero, List.set_cons_succ, List.getElem_toArray, List.getElem_cons_succ, List.getElem_cons_zero]
    refine' wpAnyH_take (i := 2) (oi := _) (v := _) rfl (by kernel_rfl) (by kernel_rfl) (by kernel_rfl) (fun _ _ _ h => h) (yieldsIf_load_mid (by rfl) _ _ rfl _ _ rfl _ _ (fun _ h => rangeBel2 h O11.out) hup rfl iO.out) (by assumption) ?_
    try simp only [Act.put, List.setIfInBounds_toArray, List.set_cons_zero, List.set_cons_succ, List.getElem_toArray, List.getElem_cons_succ, List.getElem_cons_zero]
    refine' wpAnyH_take (i := 3) (oi := _) (v := _) rfl (by kernel_rfl) (by kernel_rfl) (by kernel_rfl) (fun _ _ _ h => h) (yieldsIf_load_mid (by rfl) _ _ rfl _ _ rfl _ _ (fun _ h => rangeBel2 h K11.out) hu rfl hir.out) (by assumption) ?_
    try simp only [Act.put, List.setIfInBounds_toArray, List.set_cons_zero, List.set_cons_succ, List.getElem_toArray, List.getElem_cons_succ, List.getElem_cons_zero]
    refine' wpAnyH_take (i := 5) (oi := _) (v := _) rfl (by kernel_rfl) (by kernel_rfl) (by kernel_rfl) (fun _ _ _ h => h) (yieldsIf_load_mid (by rfl) _ _ rfl _ _ rfl _ _ (fun _ h => rangeBel2 h X11.out) hup rfl hi0.out) (by assumption) ?_
    try simp only [Act.put, List.setIfInBounds_toArray, List.set_cons_zero, List.set_cons_succ, List.getElem_toArray, List.getElem_cons_succ, List.getElem_cons_zero]
    refine' wpAnyH_take (i := 6) (oi := _) (v := _) rfl (by kernel_rfl) (by kernel_rfl) (by kernel_rfl) (fun _ _ _ h => h) (yieldsIf_load_mid (by rfl) _ _ rfl _ _ rfl _ _ (fun _ h => rangeBel2 h K11.out) hu rfl hir.out) (by assumption) ?_
    try simp only [Act.put, List.setIfInBounds_toArray, List.set_cons_zero, List.set_cons_succ, List.getElem_toArray, List.getElem_cons_succ, List.getElem_cons_zero]
    refine wpAnyH_ready (rs := [4]) (by kernel_rfl) (by simp) ?_
    refine AllReadyH.cons (o := _) rfl (fun K hK => ?_) AllReadyH.nil
    go_simp
    refine (hF1.out _ _ (P11.out.bel hHeld).rd cp.out.1 cp.out.2 (Q11.out.bel hHeld) (T11.out.bel hHeld l11.out)).mono ?_
    rintro e8 w12 ⟨rfl, hB⟩
    go_wp2_with fail
    refine hK.out _ _ ?_ (fun hHeld => ?_)
    · exact hHeld.trans (hB.mono hHeld.size)
    clear hK K
    try simp only [Act.put, List.setIfInBounds_toArray, List.set_cons_zero, List.set_cons_succ, List.getElem_toArray, List.getElem_cons_succ, List.getElem_cons_zero]
    refine wpAnyH_ready (rs := [7]) (by kernel_rfl) (by simp) ?_
    refine AllReadyH.cons (o := _) rfl (fun K hK => ?_) AllReadyH.nil
    go_simp
    refine (hF2.out _ (V11.out.bel hHeld) (S11.out.bel hHeld)).mono ?_
    rintro e8 w12 ⟨rfl, hB⟩
    go_wp2_with fail
    refine hK.out _ _ ?_ (fun hHeld => ?_)
    · exact hHeld.trans (hB.mono hHeld.size)
    clear hK K
    try simp only [Act.put, List.setIfInBounds_toArray, List.set_cons_zero, List.set_cons_succ, List.getElem_toArray, List.getElem_cons_succ, List.getElem_cons_zero]
    refine' wpAnyH_take (i := 8) (oi := _) (v := ?_) rfl (by kernel_rfl) (by kernel_rfl) (by kernel_rfl) (fun _ _ _ h => h) (Or.inl ⟨by rfl, ?_⟩) (by assumption) ?_
    rotate_left
    · intro W hSw
      go_simp
      first | done | (with_reducible rfl)
    try simp only [Act.put, List.setIfInBounds_toArray, List.set_cons_zero, List.set_cons_succ, List.getElem_toArray, List.getElem_cons_succ, List.getElem_cons_zero]
    refine' wpAnyH_take (i := 9) (oi := _) (v := ?_) rfl (by kernel_rfl) (by kernel_rfl) (by kernel_rfl) (fun _ _ _ h => h) (Or.inl ⟨by rfl, ?_⟩) (by assumption) ?_
    rotate_left
    · intro W hSw
      go_simp
      first | done | (with_reducible rfl)
    try simp only [Act.put, List.setIfInBounds_toArray, List.set_cons_zero, List.set_cons_succ, List.getElem_toArray, List.getElem_cons_succ, List.getElem_cons_zero]
    refine' wpAnyH_take (i := 10) (oi := _) (v := ?_) rfl (by kernel_rfl) (by kernel_rfl) (by kernel_rfl) (fun _ _ _ h => h) (Or.inl ⟨by rfl, ?_⟩) (by assumption) ?_
    rotate_left
    · intro W hSw
      go_simp
      first | done | (with_reducible rfl)
    try simp only [Act.put, List.setIfInBounds_toArray, List.set_cons_zero, List.set_cons_succ, List.getElem_toArray, List.getElem_cons_succ, List.getElem_cons_zero]
    refine' wpAnyH_take (i := 11) (oi := _) (v := ?_) rfl (by kernel_rfl) (by kernel_rfl) (by kernel_rfl) (fun _ _ _ h => h) (Or.inl ⟨by rfl, ?_⟩) (by assumption) ?_
    rotate_left
    · intro W hSw
      go_simp
      first | done | (with_reducible rfl)
    try simp only [Act.put, List.setIfInBounds_toArray, List.set_cons_zero, List.set_cons_succ, List.getElem_toArray, List.getElem_cons_succ, List.getElem_cons_zero]
    refine' wpAnyH_take (i := 12) (oi := _) (v := ?_) rfl (by kernel_rfl) (by kernel_rfl) (by kernel_rfl) (fun _ _ _ h => h) (Or.inl ⟨by rfl, ?_⟩) (by assumption) ?_
    rotate_left
    · intro W hSw
      go_simp
      first | done | (with_reducible rfl)
    try simp only [Act.put, List.setIfInBounds_toArray, List.set_cons_zero, List.set_cons_succ, List.getElem_toArray, List.getElem_cons_succ, List.getElem_cons_zero]
    refine' wpAnyH_take (i := 13) (oi := _) (v := ?_) rfl (by kernel_rfl) (by kernel_rfl) (by kernel_rfl) (fun _ _ _ h => h) (Or.inl ⟨by rfl, ?_⟩) (by assumption) ?_
    rotate_left
    · intro W hSw
      go_simp
      first | done | (with_reducible rfl)
    try simp only [Act.put, List.setIfInBounds_toArray, List.set_cons_zero, List.set_cons_succ, List.getElem_toArray, List.getElem_cons_succ, List.getElem_cons_zero]
    refine' wpAnyH_take (i := 14) (oi := _) (v := _) rfl (by kernel_rfl) (by kernel_rfl) (by kernel_rfl) (fun _ _ _ h => h) (yieldsIf_load_mid (by rfl) _ _ rfl _ _ rfl _ _ (fun _ h => rangeBel2 h O11.out) hup rfl iO.out) (by assumption) ?_
    try simp only [Act.put, List.setIfInBounds_toArray, List.set_cons_zero, List.set_cons_succ, List.getElem_toArray, List.getElem_cons_succ, List.getElem_cons_zero]
    refine' wpAnyH_take (i := 15) (oi := _) (v := _) rfl (by kernel_rfl) (by kernel_rfl) (by kernel_rfl) (fun _ _ _ h => h) (yieldsIf_load_mid (by rfl) _ _ rfl _ _ rfl _ _ (fun _ h => rangeBel2 h G11.out) hu rfl hiR.out) (by assumption) ?_
    try simp only [Act.put, List.setIfInBounds_toArray, List.set_cons_zero, List.set_cons_succ, List.getElem_toArray, List.getElem_cons_succ, List.getElem_cons_zero]
    refine wpAnyH_ready (rs := [16]) (by kernel_rfl) (by simp) ?_
    refine AllReadyH.cons (o := _) rfl (fun K hK => ?_) AllReadyH.nil
    go_simp
    refine (hF3.out _ _ hft2.out (P11.out.bel hHeld).rd cp.out.1 cp.out.2 (Q11.out.bel hHeld) (T11.out.bel hHeld l11.out)).mono ?_
    rintro e8 w12 ⟨rfl, hB⟩
    go_wp2_with fail
    refine hK.out _ _ ?_ (fun hHeld => ?_)
    · exact hHeld.trans (hB.mono hHeld.size)
    clear hK K
    try simp only [Act.put, List.setIfInBounds_toArray, List.set_cons_zero, List.set_cons_succ, List.getElem_toArray, List.getElem_cons_succ, List.getElem_cons_zero]
    refine' wpAnyH_take (i := 17) (oi := _) (v := ?_) rfl (by kernel_rfl) (by kernel_rfl) (by kernel_rfl) (fun _ _ _ h => h) (Or.inl ⟨by rfl, ?_⟩) (by assumption) ?_
    rotate_left
    · intro W hSw
      go_simp
      first | done | (with_reducible rfl)
    try simp only [Act.put, List.setIfInBounds_toArray, List.set_cons_zero, List.set_cons_succ, List.getElem_toArray, List.getElem_cons_succ, List.getElem_cons_zero]
    refine' wpAnyH_take (i := 18) (oi := _) (v := ?_) rfl (by kernel_rfl) (by kernel_rfl) (by kernel_rfl) (fun _ _ _ h => h) (Or.inl ⟨by rfl, ?_⟩) (by assumption) ?_
    rotate_left
    · intro W hSw
      go_simp
      first | done | (with_reducible rfl)
    try simp only [Act.put, List.setIfInBounds_toArray, List.set_cons_zero, List.set_cons_succ, List.getElem_toArray, List.getElem_cons_succ, List.getElem_cons_zero]
    refine' wpAnyH_take (i := 19) (oi := _) (v := ?_) rfl (by kernel_rfl) (by kernel_rfl) (by kernel_rfl) (fun _ _ _ h => h) (Or.inl ⟨by rfl, ?_⟩) (by assumption) ?_
    rotate_left
    · intro W hSw
      go_simp
      first | done | (with_reducible rfl)
    try simp only [Act.put, List.setIfInBounds_toArray, List.set_cons_zero, List.set_cons_succ, List.getElem_toArray, List.getElem_cons_succ, List.getElem_cons_zero]
    refine' wpAnyH_take (i := 20) (oi := _) (v := _) rfl (by kernel_rfl) (by kernel_rfl) (by kernel_rfl) (fun _ _ _ h => h) (yieldsIf_load_mid (by rfl) _ _ rfl _ _ rfl _ _ (fun _ h => rangeBel2 h O11.out) hup rfl iO.out) (by assumption) ?_
    try simp only [Act.put, List.setIfInBounds_toArray, List.set_cons_zero, List.set_cons_succ, List.getElem_toArray, List.getElem_cons_succ, List.getElem_cons_zero]
    refine' wpAnyH_take (i := 21) (oi := _) (v := _) rfl (by kernel_rfl) (by kernel_rfl) (by kernel_rfl) (fun _ _ _ h => h) (yieldsIf_load_mid (by rfl) _ _ rfl _ _ rfl _ _ (fun _ h => rangeBel2 h X11.out) hup rfl hi0.out) (by assumption) ?_
    try simp only [Act.put, List.setIfInBounds_toArray, List.set_cons_zero, List.set_cons_succ, List.getElem_toArray, List.getElem_cons_succ, List.getElem_cons_zero]
    refine wpAnyH_ready (rs := [22]) (by kernel_rfl) (by simp) ?_
    refine AllReadyH.cons (o := _) rfl (fun K hK => ?_) AllReadyH.nil
    go_simp
    refine (hS4.out _ _ (P11.out.bel hHeld).rd (Q11.out.bel hHeld) (V11.out.bel hHeld) (S11.out.bel hHeld) kA.out kB.out).mono ?_
    rintro e8 w12 ⟨rfl, hB⟩
    go_wp2_with fail
    refine hK.out _ _ ?_ (fun hHeld => ?_)
    · exact hHeld.trans (hB.mono hHeld.size)
    clear hK K
    try simp only [Act.put, List.setIfInBounds_toArray, List.set_cons_zero, List.set_cons_succ, List.getElem_toArray, List.getElem_cons_succ, List.getElem_cons_zero]
    refine' wpAnyH_take (i := 23) (oi := _) (v := ?_) rfl (by kernel_rfl) (by kernel_rfl) (by kernel_rfl) (fun _ _ _ h => h) (Or.inl ⟨by rfl, ?_⟩) (by assumption) ?_
    rotate_left
    · intro W hSw
      go_simp
      first | done | (with_reducible rfl)
    try simp only [Act.put, List.setIfInBounds_toArray, List.set_cons_zero, List.set_cons_succ, List.getElem_toArray, List.getElem_cons_succ, List.getElem_cons_zero]
    refine' wpAnyH_take (i := 24) (oi := _) (v := ?_) rfl (by kernel_rfl) (by kernel_rfl) (by kernel_rfl) (fun _ _ _ h => h) (Or.inl ⟨by rfl, ?_⟩) (by assumption) ?_
    rotate_left
    · intro W hSw
      go_simp
      first | done | (with_reducible rfl)
    try simp only [Act.put, List.setIfInBounds_toArray, List.set_cons_zero, List.set_cons_succ, List.getElem_toArray, List.getElem_cons_succ, List.getElem_cons_zero]
    refine wpAnyH_done (by kernel_rfl) ?_ _
    refine NoPanic.normal ?_
    go_wp2
    go_ret
    exact ⟨rfl, W11.out.trans (hHeld.mono W11.out.size)⟩

/-! ### WHAT THE WALK GIVES, FOR EVERY ARGUMENT AND EVERY WORLD THAT HOLDS THE TABLE -/
set_option maxRecDepth 100000 in
theorem contract (H : Type) (enc : TypeId × Value → H) (W : World) (base : Nat) (args : Array Value) (ds gs : List (DataW H)) (before : List MemPlace)
    (hval0 : ∀ (j : Nat) t v, Tryd.f13.params[j]? = some t → args[j]? = some v → Value.okWide Tryd.prog W .any base t v)
    (hW : DataW.Whole enc Tryd.prog Tryd.f13.params.toList Rows.verifyTellsSpec.vars false W args.toList ds gs before) (hL : laidMetH Tryd.prog Rows.verifyTellsRow.laid W) :
    Calls Tryd.prog 13 args W fun e W' => ∃ v, e = .returned v ∧ Rows.verifyTellsSpec.post enc Tryd.prog Tryd.f13 false true false false W args v W' := by
  have hval : ∀ (j : Nat) t v, Tryd.f13.params[j]? = some t → args[j]? = some v → Value.okWide Tryd.prog W .any base t v := hval0
  have hW' := hW
  obtain ⟨p, q, hA0, hV, rfl, hfz, hnd⟩ := hW
  have hA : DataW.TrodAll enc Tryd.prog W 0 (fun _ => true) true Tryd.f13.params.toList args.toList ds p := hA0
  rw [Tryd.params13] at hA hval
  obtain ⟨v0, vs0, d0, ds0, p0, q0, hargs, rfl, rfl, h0, r0⟩ := trodAll_cons hA
  obtain ⟨v1, vs1, d1, ds1, p1, q1, rfl, rfl, rfl, h1, r1⟩ := trodAll_cons r0
  obtain ⟨rfl, rfl, rfl⟩ := trodAll_nil r1
  obtain rfl : args = #[v0, v1] := by cases args; simp_all
  obtain ⟨rfl, rfl⟩ := trodVars_none hV
  have k0 := h0
  have lt0 : ∀ x ∈ p0, x.block < W.heap.size := by obtain ⟨m, hm⟩ := k0; exact DataW.trod_lt m _ _ _ hm
  obtain ⟨x0, vs0, rfl, w0⟩ := open_struct opensPf Tryd.underlying72 (hval 0 72 v0 rfl rfl) h0
  have k1 := h1
  have lt1 : ∀ x ∈ p1, x.block < W.heap.size := by obtain ⟨m, hm⟩ := k1; exact DataW.trod_lt m _ _ _ hm
  obtain ⟨l1, w1, rfl⟩ := open_dig Tryd.underlying23 Tryd.underlying5 cellsByte cellsDig (hval 1 23 v1 rfl rfl) h1
  clear hA0 hval0
  refine (walk x0 vs0 l1 W w0 w1 (tab_of hL)).mono fun e W' ⟨he, bel⟩ => ?_
  subst he
  exact ⟨_, rfl, _, _, _, [], _, [], hW', trodAll_mk1 (shut_bool Tryd.underlying4 _), (trodAll_cons_mk (Below.trod laidOut (by kernel_rfl) (of_decide_eq_true (by kernel_rfl)) k0 bel lt0) (trodAll_cons_mk (Below.trod laidOut (by kernel_rfl) (of_decide_eq_true (by kernel_rfl)) k1 bel lt1) trodAll_mk0)), rfl, bel.frame _, fun h => by cases h⟩

theorem laid_met (os : Os) : laidMet Tryd.prog Rows.verifyTellsRow.laid ((laidWorld os).forCall (fun _ _ => 0) ⟨#[], #[.agg zPfC, .agg z32], []⟩).memory :=
  laidMet_of_run' 8 (by kernel_rfl) (by kernel_rfl)
theorem reads (os : Os) {H : Type} (enc : TypeId × Value → H) : ∃ places, DataW.whole enc Tryd.prog ((laidWorld os).forCall (fun _ _ => 0) ⟨#[], #[.agg zPfC, .agg z32], []⟩).memory Tryd.f13.params.toList Rows.verifyTellsSpec.vars false (#[.agg zPfC, .agg z32] : Array Value).toList 8 = some ([.agg [.agg (List.replicate 32 (.lit (.int .u8 0))), .lit (.int .u8 0), .agg (List.replicate 32 (.lit (.int .u8 0))), .nil, .nil], .agg (List.replicate 32 (.lit (.int .u8 0)))], [], places) :=
  ⟨[], by kernel_rfl⟩
set_option maxRecDepth 100000 in
theorem lifted (os : Os) (started : os.Started) (H : Type) (enc : TypeId × Value → H) (F : Stop.Interp) :
    ReturnsInHanded {} Tryd.checked os 13 .any ((OpenSpec.ofChange Rows.verifyTellsSpec).preRow enc Tryd.prog Tryd.f13 Rows.verifyTellsRow.domain false Rows.verifyTellsRow.laid) (((OpenSpec.ofChange Rows.verifyTellsSpec).at F).post enc Tryd.prog Tryd.f13 false true false false) := by
  obtain ⟨places, hx⟩ := reads os enc
  refine returnsInHanded_of_row (C := Tryd.checked) (s := OpenSpec.ofChange Rows.verifyTellsSpec) own started (by kernel_rfl) Tryd.func13
    (witness_row_at (enc := enc) (C := Tryd.checked) false (laidWorld os) #[.agg zPfC, .agg z32] rfl (by kernel_rfl) (by kernel_rfl) (by kernel_rfl)
      (OpenSpec.preRow_of_cond 8 hx (by kernel_rfl) (fun k hk => by cases hk) (by kernel_rfl) (laid_met os))) ?_
  intro W base args ds gs before hval hW _ _ _ hL _ _
  exact contract H enc W base args ds gs before hval hW hL
theorem said : Rows.VerifyTellsSaid :=
  OpenClaim.holds_of_cond 13 Tryd.f13 rfl rfl rfl rfl rfl rfl rfl ⟨rfl, rfl, rfl, rfl, rfl⟩ rfl rfl rfl rfl rfl (by kernel_rfl) Tryd.func13 (by kernel_rfl)
    (of_decide_eq_true (by kernel_rfl)) (by unfold Func.isWrapper; first | (rw [if_pos (by decide +kernel)]; kernel_rfl) | (rw [if_neg (by decide +kernel)]; exact ⟨rfl, rfl⟩))
    (fun os started H enc _ F => by rw [OpenClaim.pre_eq_preRow]; exact lifted os started H enc F)
set_option maxRecDepth 100000 in
/-- No parameter wants a stand-in; the program's own looks are off: what the card asks. -/
theorem plain (f : FuncId) (fn : Func) (hf : Tryd.pinned.checked.prog.funcNamed "beadroll/beadrolllaw08.VerifyTells" = some f) (hfn : Tryd.pinned.checked.prog.funcs[f]? = some fn) :
    false = Tryd.pinned.checked.prog.looks [] ∧ ∀ (j : Nat) t, fn.params[j]? = some t → Tryd.pinned.checked.prog.wantsStandIn t = false := by
  obtain rfl : f = 13 := Option.some.inj ((show Tryd.prog.funcNamed "beadroll/beadrolllaw08.VerifyTells" = some 13 by kernel_rfl).symm.trans hf) |>.symm
  obtain rfl : fn = Tryd.f13 := (Option.some.inj (Tryd.func13.symm.trans hfn)).symm
  refine ⟨by kernel_rfl, fun j t ht => ?_⟩
  rw [Tryd.params13] at ht
  have hm := Array.mem_of_getElem? ht
  simp only [List.mem_toArray, List.mem_cons, List.not_mem_nil, or_false] at hm
  rcases hm with rfl | rfl
  all_goals first | exact (show Tryd.prog.wantsStandIn 72 = false by kernel_rfl) | exact (show Tryd.prog.wantsStandIn 23 = false by kernel_rfl)
set_option maxRecDepth 100000 in
/-- ████ THE CARD ████ -/
theorem proved : Rows.VerifyTellsCardSaid :=
  Claim7.holds_tied_plain_at .later [] _ _ _ _ said (fun _ h => by cases h) (by kernel_rfl) (fun _ h => by cases h) verifyTells_row_tie rfl ⟨rfl, rfl⟩ (by kernel_rfl) rfl plain (by kernel_rfl)
#print axioms proved
end Go.Proofs.YtnoglodggchgpaaDoor.verifyTells
