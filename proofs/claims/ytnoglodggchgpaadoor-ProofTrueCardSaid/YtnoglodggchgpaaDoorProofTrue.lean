/-
  The Go function ProofTrue returns true: what is made may be, and tells what the tree has: any tree and key; its arguments read afterwards as before.
  Conditions: none. The frame around the walk was written by program (proof-skeleton.mjs).
-/
import Derived.Test.YtnoglodggchgpaaDoorRows
import Derived.Test.YtnoglodggchgpaaDoorDoor
import Derived.WalkKit
import Derived.ProofKit
import Derived.OpenShut
import Derived.ShutString
import Derived.ChangeOld
import Derived.Below
import Derived.Test.YtnoglodggchgpaaDoorAlive07
import Derived.Test.YtnoglodggchgpaaDoorPfT
import Derived.Test.YtnoglodggchgpaaDoorPfC
import Derived.Test.YtnoglodggchgpaaDoorPfK
import Derived.Test.YtnoglodggchgpaaDoorRef06a
import Derived.Test.YtnoglodggchgpaaDoorRef07b
import Derived.Test.YtnoglodggchgpaaDoorTreeB
namespace Go.Proofs.YtnoglodggchgpaaDoor.proofTrue
open Go.ChangeShapes Go.WideShapes Go.ChangeAt Go.RowKit
open Go.ChangeMaps (open_string shut_string)
set_option linter.unusedVariables false

theorem own : ownKnob Tryd.prog.godebug = none := by kernel_rfl
theorem laidOut : laidOutB Tryd.prog = true := by kernel_rfl

/-- WHAT THE WALK IS TOLD OF A SLICE OF INTEGERS THAT CAME IN: it is nil; or it leads to a row of 'cap' cells, the numbers 'zs' (the first 'len' are its elements, the rest its spare room), each fitting its kind. -/
def IsRow (k : IntKind) (w : World) (a : Option Addr) (len cap : Nat) (zs : List Int) : Prop :=
  (a = none ∧ len = 0 ∧ cap = 0 ∧ zs = []) ∨
  ∃ x, a = some x ∧ len ≤ cap ∧ cap ≤ maxLen ∧ zs.length = cap ∧ (∀ i, i < zs.length → w.cell? (x.add i) = some (.int k (zs.getD i 0))) ∧ ∀ n ∈ zs, (Lit.int k n).wf = true

/-! ### the walk -/
open Go.Proofs.YtnoglodggchgpaaDoor
set_option linter.unusedSimpArgs false
set_option maxRecDepth 100000 in
set_option maxHeartbeats 4000000 in
theorem walk (x0 : Tr) (vs0 : List Value) (l1 : List UInt8) (w : World) (w0 : Enc.rep (fun b => b < w.heap.size) w x0 vs0) (w1 : l1.length = 32) (hT : Tab w) :
    Calls Tryd.prog 10 #[.agg vs0.toArray, .agg (l1.map bv).toArray] w fun e w' => e = .returned (.bool true) ∧ Below w.heap.size w w' := by
  obtain ⟨A0, c0, rfl, hc0, hm0, hr, hI⟩ := rep_tr w0
  obtain ⟨ns, root⟩ := x0
  obtain ⟨k, rfl⟩ : ∃ k : Dg, l1 = k.1 := ⟨⟨l1, w1⟩, rfl⟩
  dsimp only at *
  have hcm : ns.length ≤ 9223372036854775807 := by unfold maxLen at hm0; omega
  obtain ⟨T0, k0, B0⟩ := boxesTDp w A0 ns.length c0 root k 44 23
  have hu := Tryd.underlying23
  have hut := Tryd.underlying44
  have hup := Tryd.underlying72
  have hi := hid (sizeDgT k)
  have hiK := hid (sizeDg k)
  have hiT := hid (show (Tryd.prog.info? 44).map (·.size) = some ([Value.slice A0 ns.length c0, .int .i64 root]).length from sizeTr)
  have R0 := hid (hr.bel B0)
  have t0 := hid (hT.bel B0 hT.low)
  have hlow := hid hT.low
  have W0 := hid B0
  have X0 := hid T0.all
  have K0 := hid k0
  obtain ⟨gb, hgb⟩ : ∃ gb, greatT ns 600 = gb := ⟨_, rfl⟩
  have hGr := fun W hW => RGreatT_any (fun b => b < w.heap.size) A0 c0 600 ns root W hW hcm
  rw [hgb] at hGr
  replace hGr := hid hGr
  replace hgb := hid hgb
  have hAl := hid (fun W hW => alive7_any W hW)
  have hE : ∀ W, (Op.equalIn 10000 23 (.agg (k.1.map bv).toArray) (.agg (k.1.map bv).toArray)).run Tryd.prog W = .ok true W := fun W => eqd_is k k true (by simp) W
  clear hr hT w0 w1 hI T0 k0 B0
  generalize hdk : k.1.map bv = dk at *
  replace hdk := hid hdk
  go_enter Tryd.func10, Tryd.ntmps10
  go_wp2_with fail
  generalize (w.alloc (.cells #[.slice A0 ns.length c0, .int .i64 root] 44)).alloc (.cells dk.toArray 23) = w0 at *
  refine (hAl.out _ t0.out).mono ?_
  rintro e w1 ⟨rfl, hb⟩
  have X1 := hid (rangeBel2 hb X0.out)
  have K1 := hid (rangeBel2 hb K0.out)
  have R1 := hid (R0.out.bel hb)
  have t1 := hid (t0.out.bel hb (Nat.lt_of_lt_of_le hlow.out W0.out.size))
  have W1 := hid (W0.out.trans (hb.mono W0.out.size))
  clear X0 K0 R0 t0 W0
  clear hb hAl
  go_wp2_with (first
    | ((with_reducible refine wpList_load_rng ?_ 44 (.tmp 2) rfl w.heap.size 0 rfl [Value.slice A0 ns.length c0, .int .i64 root] _ ?_ hut rfl hiT.out ?_); rfl; exact X1.out))
  refine (hGr.out _ R1.out).mono ?_
  rintro e w2 ⟨rfl, hb⟩
  have X2 := hid (rangeBel2 hb X1.out)
  have K2 := hid (rangeBel2 hb K1.out)
  have R2 := hid (R1.out.bel hb)
  have t2 := hid (t1.out.bel hb (Nat.lt_of_lt_of_le hlow.out W1.out.size))
  have W2 := hid (W1.out.trans (hb.mono W1.out.size))
  clear X1 K1 R1 t1 W1
  clear hb hGr
  cases gb with
  | true =>
    go_wp2
    go_ret
    exact ⟨rfl, W2.out⟩
  | false =>
  obtain ⟨hlen, hvs⟩ := greatT_no hgb.out
  clear hgb hvs
  obtain ⟨m, hm⟩ : ∃ m, mayT ⟨ns, root⟩ = m := ⟨_, rfl⟩
  have hMk := fun W hW hTW => PfMake_any (fun b => b < w.heap.size) A0 c0 ns root k W hW (by omega) hTW
  have hCk := fun W hW => PTCheck_is (fun b => b < w.heap.size) A0 c0 ns root m W hW (by omega) hm
  have hGt := fun W hW => PGetT_any (fun b => b < w.heap.size) A0 c0 ns root k W hW (by omega)
  obtain ⟨z, hz⟩ : ∃ z : Int, (if m = true then 0 else 8) = z := ⟨_, rfl⟩
  rw [hm] at hMk
  rw [hz] at hMk hCk
  rw [hdk.out] at hMk hGt
  have hvl : (makeF ⟨ns, root⟩ k).v.length ≤ 1000000 := by
    unfold makeF
    split
    · split
      · split
        · have := end_short (t := ⟨ns, root⟩) k; simp only; omega
        · have := end_short (t := ⟨ns, root⟩) k; simp only; omega
      · simp
    · simp [pf0]
  obtain ⟨tb, htb⟩ : ∃ tb, toldF (makeF ⟨ns, root⟩ k) = tb := ⟨_, rfl⟩
  have hTo := fun A c D d W (h1 : Rd W A (makeF ⟨ns, root⟩ k).v) h2 h3 => PfTold_is (makeF ⟨ns, root⟩ k) A c D d tb W h1 h2 h3 hvl htb
  have hfm : m = true → mayF (makeF ⟨ns, root⟩ k) = true := fun h => by rw [h] at hm; exact makeF_may k hm
  have hfk : m = true → (makeF ⟨ns, root⟩ k).k = k := fun h => by rw [h] at hm; exact makeF_k k hm
  have hfn : m = false → makeF ⟨ns, root⟩ k = pf0 := fun h => by rw [h] at hm; exact makeF_no hm
  have htg : m = true → tb = getTB ⟨ns, root⟩ k ∧ (if tb = true then (makeF ⟨ns, root⟩ k).v else []) = getTL ⟨ns, root⟩ k := fun h => by
    rw [h] at hm
    have := told_get k hm
    rw [htb] at this
    exact this
  have hPc := fun A c D d W (hmm : mayF (makeF ⟨ns, root⟩ k) = true) h1 h2 h3 => PfCheck_is (makeF ⟨ns, root⟩ k) A c D d true W h1 h2 h3 hmm
  have hpl := fun A c D d => hid (sizePfC (makeF ⟨ns, root⟩ k) A c D d)
  have hps := fun A c D d => hid (sizePfS (makeF ⟨ns, root⟩ k) A c D d)
  have hpz := fun A c D d => hid (show zPfC.size = (pfC (makeF ⟨ns, root⟩ k) A c D d).toArray.size by rw [zSizePf, List.size_toArray, len_pf])
  have hp1 := fun A c D d => hid (one_pf (makeF ⟨ns, root⟩ k) A c D d)
  have hBP := hid (fun (W : World) (g : Nat) A c D d (h : W.rangeAt g 0 (pfC (makeF ⟨ns, root⟩ k) A c D d)) => BoxP.of h)
  have hPS := fun (F : Nat → Prop) A c D d W (hn : makeF ⟨ns, root⟩ k = pf0) (h1 : Rd W A (makeF ⟨ns, root⟩ k).v) (h3 : Row F W D (makeF ⟨ns, root⟩ k).ss) => (show Calls Tryd.prog 48 #[.agg (pfC (makeF ⟨ns, root⟩ k) A c D d).toArray, .agg zPfC] W fun e w' => e = .returned (.bool true) ∧ Below W.heap.size W w' from by
    rw [hn] at h1 h3 ⊢
    exact RPfSame_is F (fun _ => False) pf0 pf0 A none c 0 D none d 0 true W h1 (fun h => absurd h (by decide)) h3 (Row.nil _ _ _) (by decide) (by decide) (by decide) (by decide) (by simp))
  have hb0 := hid (show Tryd.prog.built 72 [] = some zPfC by kernel_rfl)
  generalize makeF ⟨ns, root⟩ k = pf at *
  generalize getTB ⟨ns, root⟩ k = tg at *
  generalize getTL ⟨ns, root⟩ k = lg at *
  replace hMk := hid hMk
  replace hCk := hid hCk
  replace hGt := hid hGt
  replace hTo := hid hTo
  replace hfm := hid hfm
  replace hfk := hid hfk
  replace hfn := hid hfn
  replace htg := hid htg
  replace hPc := hid hPc
  replace hPS := hid hPS
  replace hz := hid hz
  clear hm hvl htb
  go_wp2_with (first
    | ((with_reducible refine wpList_load_rng ?_ 44 (.tmp 2) rfl w.heap.size 0 rfl [Value.slice A0 ns.length c0, .int .i64 root] _ ?_ hut rfl hiT.out ?_); rfl; exact X2.out)
    | ((with_reducible refine wpList_load_rng ?_ 23 (.tmp 3) rfl (w.heap.size + 1) 0 rfl dk _ ?_ hu rfl hi.out ?_); rfl; exact K2.out))
  refine (hMk.out _ R2.out t2.out).mono ?_
  rintro e w3 ⟨A1, c1, A2, c2, rfl, ho, hq, hb⟩
  have X3 := hid (rangeBel2 hb X2.out)
  have K3 := hid (rangeBel2 hb K2.out)
  have R3 := hid (R2.out.bel hb)
  have t3 := hid (t2.out.bel hb (Nat.lt_of_lt_of_le hlow.out W2.out.size))
  have W3 := hid (W2.out.trans (hb.mono W2.out.size))
  clear X2 K2 R2 t2 W2
  have V3 := hid (ho.rd.row (F := fun b => b < w3.heap.size) fun a ha _ => (ho.blk a ha).2)
  have cV := hid ho.cap
  have S3 := hid hq
  clear hb ho hq hMk
  have e3 := hid (heap_alloc_new w3 (.cells zPfC 72))
  have iP := hpl A1 c1 A2 c2
  have jP := hps A1 c1 A2 c2
  have zP := hpz A1 c1 A2 c2
  have oP := hp1 A1 c1 A2 c2
  replace hTo := hid (hTo.out A1 c1 A2 c2)
  replace hPc := hid (hPc.out A1 c1 A2 c2)
  replace hPS := hid (fun F => hPS.out F A1 c1 A2 c2)
  replace hBP := hid (fun W g => hBP.out W g A1 c1 A2 c2)
  clear hpl hps hpz hp1
  generalize hpc : pfC pf A1 c1 A2 c2 = pc at *
  replace hpc := hid hpc
  cases m with
  | false =>
    have hn := hid (hfn.out rfl)
    obtain rfl : (8 : Int) = z := hz.out
    clear hz hfm hfk htg hfn
    go_wp2_with (first
      | (with_reducible refine wpList_alloc_row rfl 72 rfl zPfC zInfoPf ?_)
      | ((with_reducible refine wpList_store_row rfl 72 (.tmp 6) (.tmp 24) rfl _ _ rfl rfl 72 zPfC ?_ ?_ ?_ ?_ ?_); exact e3.out; exact jP.out; exact zP.out; exact oP.out; intro w4 hgS hbS hsS; have Z_ := hid (xnewP rfl hbS); have P4 := hid (rangeOf hgS); clear hgS hbS hsS; have X4 := hid (rangeBel2 Z_.out X3.out); have K4 := hid (rangeBel2 Z_.out K3.out); have R4 := hid (R3.out.bel Z_.out); have t4 := hid (t3.out.bel Z_.out (Nat.lt_of_lt_of_le hlow.out W3.out.size)); have V4 := hid (V3.out.bel Z_.out); have S4 := hid (S3.out.bel Z_.out); have W4 := hid (W3.out.trans (Z_.out.mono W3.out.size)); clear X3 K3 R3 t3 V3 S3 W3)
      | ((with_reducible refine wpList_load_rng ?_ 44 (.tmp 2) rfl w.heap.size 0 rfl [Value.slice A0 ns.length c0, .int .i64 root] _ ?_ hut rfl hiT.out ?_); rfl; exact X4.out))
    refine (hCk.out _ R4.out).mono ?_
    rintro e w5 ⟨rfl, hb⟩
    have X5 := hid (rangeBel2 hb X4.out)
    have K5 := hid (rangeBel2 hb K4.out)
    have R5 := hid (R4.out.bel hb)
    have t5 := hid (t4.out.bel hb (Nat.lt_of_lt_of_le hlow.out W4.out.size))
    have V5 := hid (V4.out.bel hb)
    have S5 := hid (S4.out.bel hb)
    have P5 := hid (rangeBel2 hb P4.out)
    have W5 := hid (W4.out.trans (hb.mono W4.out.size))
    clear X4 K4 R4 t4 V4 S4 P4 W4
    clear hb hCk
    go_wp2_with (first
      | ((with_reducible refine wpList_load_rng ?_ 72 (.tmp 6) rfl w3.heap.size 0 rfl pc _ ?_ hup rfl iP.out ?_); rfl; exact P5.out)
      | ((with_reducible refine wpList_built ?_ 72 _ rfl zPfC [] ?_ ?_ ?_); rfl; exact hb0.out; rfl))
    refine (hPS.out _ _ hn.out V5.out.rd S5.out).mono ?_
    rintro e w6 ⟨rfl, hb⟩
    go_wp2
    go_ret
    exact ⟨rfl, W5.out.trans (hb.mono W5.out.size)⟩
  | true =>
    have hmm := hid (hfm.out rfl)
    have hkk := hfk.out rfl
    obtain ⟨rfl, hl⟩ := htg.out rfl
    rw [hl] at hTo
    replace hl := hid hl
    obtain rfl : (0 : Int) = z := hz.out
    have hkr := hid (fun (W : World) (h : W.rangeAt w3.heap.size 0 pc) => (show W.rangeAt w3.heap.size 0 dk from by
      have := (hBP.out W w3.heap.size h).key
      rw [hkk, hdk.out] at this
      exact this))
    clear hz hfm hfk htg hfn hkk hBP
    have f1 : (tb == tb) = true := by simp
    go_wp2_with (first
      | (with_reducible refine wpList_alloc_row rfl 72 rfl zPfC zInfoPf ?_)
      | ((with_reducible refine wpList_store_row rfl 72 (.tmp 6) (.tmp 24) rfl _ _ rfl rfl 72 zPfC ?_ ?_ ?_ ?_ ?_); exact e3.out; exact jP.out; exact zP.out; exact oP.out; intro w4 hgS hbS hsS; have Z_ := hid (xnewP rfl hbS); have P4 := hid (rangeOf hgS); clear hgS hbS hsS; have X4 := hid (rangeBel2 Z_.out X3.out); have K4 := hid (rangeBel2 Z_.out K3.out); have R4 := hid (R3.out.bel Z_.out); have t4 := hid (t3.out.bel Z_.out (Nat.lt_of_lt_of_le hlow.out W3.out.size)); have V4 := hid (V3.out.bel Z_.out); have S4 := hid (S3.out.bel Z_.out); have W4 := hid (W3.out.trans (Z_.out.mono W3.out.size)); clear X3 K3 R3 t3 V3 S3 W3)
      | ((with_reducible refine wpList_load_rng ?_ 72 (.tmp 6) rfl w3.heap.size 0 rfl pc _ ?_ hup rfl iP.out ?_); rfl; exact P4.out))
    refine (hTo.out _ V4.out.rd cV.out.1 cV.out.2).mono ?_
    rintro e w5 ⟨A5, c5, rfl, ho, hb⟩
    have X5 := hid (rangeBel2 hb X4.out)
    have K5 := hid (rangeBel2 hb K4.out)
    have R5 := hid (R4.out.bel hb)
    have t5 := hid (t4.out.bel hb (Nat.lt_of_lt_of_le hlow.out W4.out.size))
    have V5 := hid (V4.out.bel hb)
    have S5 := hid (S4.out.bel hb)
    have P5 := hid (rangeBel2 hb P4.out)
    have W5 := hid (W4.out.trans (hb.mono W4.out.size))
    clear X4 K4 R4 t4 V4 S4 P4 W4
    have a5 := hid (ho.rd.row (F := fun b => b < w5.heap.size) fun a ha _ => (ho.blk a ha).2)
    clear hb ho hTo
    go_wp2_with (first
      | ((with_reducible refine wpList_load_rng ?_ 44 (.tmp 2) rfl w.heap.size 0 rfl [Value.slice A0 ns.length c0, .int .i64 root] _ ?_ hut rfl hiT.out ?_); rfl; exact X5.out)
      | ((with_reducible refine wpList_load_rng ?_ 23 (.tmp 3) rfl (w.heap.size + 1) 0 rfl dk _ ?_ hu rfl hi.out ?_); rfl; exact K5.out))
    refine (hGt.out _ R5.out).mono ?_
    rintro e w6 ⟨A6, c6, rfl, ho, hb⟩
    have X6 := hid (rangeBel2 hb X5.out)
    have K6 := hid (rangeBel2 hb K5.out)
    have R6 := hid (R5.out.bel hb)
    have t6 := hid (t5.out.bel hb (Nat.lt_of_lt_of_le hlow.out W5.out.size))
    have V6 := hid (V5.out.bel hb)
    have S6 := hid (S5.out.bel hb)
    have P6 := hid (rangeBel2 hb P5.out)
    have a6 := hid (a5.out.bel hb)
    have W6 := hid (W5.out.trans (hb.mono W5.out.size))
    clear X5 K5 R5 t5 V5 S5 P5 a5 W5
    have b6 := hid (ho.rd.row (F := fun b => b < w6.heap.size) fun a ha _ => (ho.blk a ha).2)
    clear hb ho hGt
    go_wp2_with (first
      | ((with_reducible refine wpList_load_rng ?_ 72 (.tmp 6) rfl w3.heap.size 0 rfl pc _ ?_ hup rfl iP.out ?_); rfl; exact P6.out))
    refine (hPc.out _ hmm.out V6.out.rd cV.out.1 cV.out.2).mono ?_
    simp only [↓reduceIte]
    rintro e w7 ⟨rfl, hb⟩
    have X7 := hid (rangeBel2 hb X6.out)
    have K7 := hid (rangeBel2 hb K6.out)
    have R7 := hid (R6.out.bel hb)
    have t7 := hid (t6.out.bel hb (Nat.lt_of_lt_of_le hlow.out W6.out.size))
    have V7 := hid (V6.out.bel hb)
    have S7 := hid (S6.out.bel hb)
    have P7 := hid (rangeBel2 hb P6.out)
    have a7 := hid (a6.out.bel hb)
    have b7 := hid (b6.out.bel hb)
    have W7 := hid (W6.out.trans (hb.mono W6.out.size))
    clear X6 K6 R6 t6 V6 S6 P6 a6 b6 W6
    have kr7 := hid (hkr.out _ P7.out)
    have hSm := hid (fun W (h1 : Rd W A5 lg) (h2 : Rd W A6 lg) => RSame01_is A5 A6 c5 c6 lg lg true W h1 h2 (decide_eq_true rfl))
    clear hb hPc
    go_wp2_with (first
      | ((with_reducible refine wpList_load_rng ?_ 23 (.tmp 58) rfl w3.heap.size 0 rfl dk _ ?_ hu rfl hiK.out ?_); rfl; exact kr7.out)
      | ((with_reducible refine wpList_load_rng ?_ 23 (.tmp 3) rfl (w.heap.size + 1) 0 rfl dk _ ?_ hu rfl hi.out ?_); rfl; exact K7.out))
    refine (hSm.out _ a7.out.rd b7.out.rd).mono ?_
    rintro e w8 ⟨rfl, rfl⟩
    go_wp2
    go_ret
    exact ⟨rfl, W7.out⟩

/-! ### WHAT THE WALK GIVES, FOR EVERY ARGUMENT AND EVERY WORLD THAT HOLDS THE TABLE -/
set_option maxRecDepth 100000 in
theorem contract (H : Type) (enc : TypeId × Value → H) (W : World) (base : Nat) (args : Array Value) (ds gs : List (DataW H)) (before : List MemPlace)
    (hval0 : ∀ (j : Nat) t v, Tryd.f10.params[j]? = some t → args[j]? = some v → Value.okWide Tryd.prog W .any base t v)
    (hW : DataW.Whole enc Tryd.prog Tryd.f10.params.toList Rows.proofTrueSpec.vars false W args.toList ds gs before) (hL : laidMetH Tryd.prog Rows.proofTrueRow.laid W) :
    Calls Tryd.prog 10 args W fun e W' => ∃ v, e = .returned v ∧ Rows.proofTrueSpec.post enc Tryd.prog Tryd.f10 false true false false W args v W' := by
  have hval : ∀ (j : Nat) t v, Tryd.f10.params[j]? = some t → args[j]? = some v → Value.okWide Tryd.prog W .any base t v := hval0
  have hW' := hW
  obtain ⟨p, q, hA0, hV, rfl, hfz, hnd⟩ := hW
  have hA : DataW.TrodAll enc Tryd.prog W 0 (fun _ => true) true Tryd.f10.params.toList args.toList ds p := hA0
  rw [Tryd.params10] at hA hval
  obtain ⟨v0, vs0, d0, ds0, p0, q0, hargs, rfl, rfl, h0, r0⟩ := trodAll_cons hA
  obtain ⟨v1, vs1, d1, ds1, p1, q1, rfl, rfl, rfl, h1, r1⟩ := trodAll_cons r0
  obtain ⟨rfl, rfl, rfl⟩ := trodAll_nil r1
  obtain rfl : args = #[v0, v1] := by cases args; simp_all
  obtain ⟨rfl, rfl⟩ := trodVars_none hV
  have k0 := h0
  have lt0 : ∀ x ∈ p0, x.block < W.heap.size := by obtain ⟨m, hm⟩ := k0; exact DataW.trod_lt m _ _ _ hm
  obtain ⟨x0, vs0, rfl, w0⟩ := open_struct opensTr Tryd.underlying44 (hval 0 44 v0 rfl rfl) h0
  have k1 := h1
  have lt1 : ∀ x ∈ p1, x.block < W.heap.size := by obtain ⟨m, hm⟩ := k1; exact DataW.trod_lt m _ _ _ hm
  obtain ⟨l1, w1, rfl⟩ := open_dig Tryd.underlying23 Tryd.underlying5 cellsByte cellsDig (hval 1 23 v1 rfl rfl) h1
  clear hA0 hval0
  refine (walk x0 vs0 l1 W w0 w1 (tab_of hL)).mono fun e W' ⟨he, bel⟩ => ?_
  subst he
  exact ⟨_, rfl, _, _, _, [], _, [], hW', trodAll_mk1 (shut_bool Tryd.underlying4 _), (trodAll_cons_mk (Below.trod laidOut (by kernel_rfl) (of_decide_eq_true (by kernel_rfl)) k0 bel lt0) (trodAll_cons_mk (Below.trod laidOut (by kernel_rfl) (of_decide_eq_true (by kernel_rfl)) k1 bel lt1) trodAll_mk0)), rfl, bel.frame _, fun h => by cases h⟩

theorem laid_met (os : Os) : laidMet Tryd.prog Rows.proofTrueRow.laid ((laidWorld os).forCall (fun _ _ => 0) ⟨#[], #[.agg zTrC, .agg z32], []⟩).memory :=
  laidMet_of_run' 8 (by kernel_rfl) (by kernel_rfl)
theorem reads (os : Os) {H : Type} (enc : TypeId × Value → H) : ∃ places, DataW.whole enc Tryd.prog ((laidWorld os).forCall (fun _ _ => 0) ⟨#[], #[.agg zTrC, .agg z32], []⟩).memory Tryd.f10.params.toList Rows.proofTrueSpec.vars false (#[.agg zTrC, .agg z32] : Array Value).toList 8 = some ([.agg [.nil, .lit (.int .i64 0)], .agg (List.replicate 32 (.lit (.int .u8 0)))], [], places) :=
  ⟨[], by kernel_rfl⟩
set_option maxRecDepth 100000 in
theorem lifted (os : Os) (started : os.Started) (H : Type) (enc : TypeId × Value → H) (F : Stop.Interp) :
    ReturnsInHanded {} Tryd.checked os 10 .any ((OpenSpec.ofChange Rows.proofTrueSpec).preRow enc Tryd.prog Tryd.f10 Rows.proofTrueRow.domain false Rows.proofTrueRow.laid) (((OpenSpec.ofChange Rows.proofTrueSpec).at F).post enc Tryd.prog Tryd.f10 false true false false) := by
  obtain ⟨places, hx⟩ := reads os enc
  refine returnsInHanded_of_row (C := Tryd.checked) (s := OpenSpec.ofChange Rows.proofTrueSpec) own started (by kernel_rfl) Tryd.func10
    (witness_row_at (enc := enc) (C := Tryd.checked) false (laidWorld os) #[.agg zTrC, .agg z32] rfl (by kernel_rfl) (by kernel_rfl) (by kernel_rfl)
      (OpenSpec.preRow_of_cond 8 hx (by kernel_rfl) (fun k hk => by cases hk) (by kernel_rfl) (laid_met os))) ?_
  intro W base args ds gs before hval hW _ _ _ hL _ _
  exact contract H enc W base args ds gs before hval hW hL
theorem said : Rows.ProofTrueSaid :=
  OpenClaim.holds_of_cond 10 Tryd.f10 rfl rfl rfl rfl rfl rfl rfl ⟨rfl, rfl, rfl, rfl, rfl⟩ rfl rfl rfl rfl rfl (by kernel_rfl) Tryd.func10 (by kernel_rfl)
    (of_decide_eq_true (by kernel_rfl)) (by unfold Func.isWrapper; first | (rw [if_pos (by decide +kernel)]; kernel_rfl) | (rw [if_neg (by decide +kernel)]; exact ⟨rfl, rfl⟩))
    (fun os started H enc _ F => by rw [OpenClaim.pre_eq_preRow]; exact lifted os started H enc F)
set_option maxRecDepth 100000 in
/-- No parameter wants a stand-in; the program's own looks are off: what the card asks. -/
theorem plain (f : FuncId) (fn : Func) (hf : Tryd.pinned.checked.prog.funcNamed "beadroll/beadrolllaw07.ProofTrue" = some f) (hfn : Tryd.pinned.checked.prog.funcs[f]? = some fn) :
    false = Tryd.pinned.checked.prog.looks [] ∧ ∀ (j : Nat) t, fn.params[j]? = some t → Tryd.pinned.checked.prog.wantsStandIn t = false := by
  obtain rfl : f = 10 := Option.some.inj ((show Tryd.prog.funcNamed "beadroll/beadrolllaw07.ProofTrue" = some 10 by kernel_rfl).symm.trans hf) |>.symm
  obtain rfl : fn = Tryd.f10 := (Option.some.inj (Tryd.func10.symm.trans hfn)).symm
  refine ⟨by kernel_rfl, fun j t ht => ?_⟩
  rw [Tryd.params10] at ht
  have hm := Array.mem_of_getElem? ht
  simp only [List.mem_toArray, List.mem_cons, List.not_mem_nil, or_false] at hm
  rcases hm with rfl | rfl
  all_goals first | exact (show Tryd.prog.wantsStandIn 44 = false by kernel_rfl) | exact (show Tryd.prog.wantsStandIn 23 = false by kernel_rfl)
set_option maxRecDepth 100000 in
/-- ████ THE CARD ████ -/
theorem proved : Rows.ProofTrueCardSaid :=
  Claim7.holds_tied_plain_at .later [] _ _ _ _ said (fun _ h => by cases h) (by kernel_rfl) (fun _ h => by cases h) proofTrue_row_tie rfl ⟨rfl, rfl⟩ (by kernel_rfl) rfl plain (by kernel_rfl)
#print axioms proved
end Go.Proofs.YtnoglodggchgpaaDoor.proofTrue
