/-
  The Go function ProofMakes returns true: the proof of a key, or the error, is the document's: any tree and key; what was answered is written over, and the tree stays; its arguments read afterwards as before.
  Conditions: none. The frame around the walk was written by program (proof-skeleton.mjs).
-/
import Derived.Test.YtnoglodggchgpaaDoorRows
import Derived.Test.YtnoglodggchgpaaDoorDoor
import Derived.WalkKit
import Derived.ProofKit
import Derived.OpenShut
import Derived.ShutString
import Derived.ChangeOld
import Derived.Below
import Derived.Test.YtnoglodggchgpaaDoorPfK
import Derived.Test.YtnoglodggchgpaaDoorRef07f
import Derived.Test.YtnoglodggchgpaaDoorRef07b
import Derived.Test.YtnoglodggchgpaaDoorRef06a
import Derived.Test.YtnoglodggchgpaaDoorRef06e
import Derived.Test.YtnoglodggchgpaaDoorRef06f
import Derived.Test.YtnoglodggchgpaaDoorMutI
import Derived.Test.YtnoglodggchgpaaDoorTreeB
import Derived.Test.YtnoglodggchgpaaDoorVfS
namespace Go.Proofs.YtnoglodggchgpaaDoor.proofMakes
open Go.ChangeShapes Go.WideShapes Go.ChangeAt Go.RowKit
open Go.ChangeMaps (open_string shut_string)
set_option linter.unusedVariables false

theorem own : ownKnob Tryd.prog.godebug = none := by kernel_rfl
theorem laidOut : laidOutB Tryd.prog = true := by kernel_rfl

/-- WHAT THE WALK IS TOLD OF A SLICE OF INTEGERS THAT CAME IN: it is nil; or it leads to a row of 'cap' cells, the numbers 'zs' (the first 'len' are its elements, the rest its spare room), each fitting its kind. -/
def IsRow (k : IntKind) (w : World) (a : Option Addr) (len cap : Nat) (zs : List Int) : Prop :=
  (a = none ∧ len = 0 ∧ cap = 0 ∧ zs = []) ∨
  ∃ x, a = some x ∧ len ≤ cap ∧ cap ≤ maxLen ∧ zs.length = cap ∧ (∀ i, i < zs.length → w.cell? (x.add i) = some (.int k (zs.getD i 0))) ∧ ∀ n ∈ zs, (Lit.int k n).wf = true

/-! ### the walk -/
open Go.Proofs.YtnoglodggchgpaaDoor
set_option linter.unusedSimpArgs false
set_option maxRecDepth 100000 in
set_option maxHeartbeats 8000000 in
theorem walk (x0 : Tr) (vs0 : List Value) (l1 : List UInt8) (w : World) (w0 : Enc.rep (fun b => b < w.heap.size) w x0 vs0) (w1 : l1.length = 32) (hT : Tab w) :
    Calls Tryd.prog 9 #[.agg vs0.toArray, .agg (l1.map bv).toArray] w fun e w' => e = .returned (.bool true) ∧ Below w.heap.size w w' := by
  obtain ⟨A0, c0, rfl, hc0, hm0, hr, hI⟩ := rep_tr w0
  obtain ⟨ns, root⟩ := x0
  obtain ⟨k, rfl⟩ : ∃ k : Dg, l1 = k.1 := ⟨⟨l1, w1⟩, rfl⟩
  dsimp only at *
  have hcm : ns.length ≤ 9223372036854775807 := by unfold maxLen at hm0; omega
  obtain ⟨T0, k0, B0⟩ := boxesTD w A0 ns.length c0 root k 44 23
  have hu := Tryd.underlying23
  have hut := Tryd.underlying44
  have hup := Tryd.underlying72
  have hi := hid (sizeDgT k)
  have hiT := hid (show (Tryd.prog.info? 44).map (·.size) = some ([Value.slice A0 ns.length c0, .int .i64 root]).length from sizeTr)
  have R0 := hid (hr.bel B0)
  have t0 := hid (hT.bel B0 hT.low)
  have hlow := hid hT.low
  have W0 := hid B0
  have X0 := hid T0.all
  have K0 := hid k0
  obtain ⟨gb, hgb⟩ : ∃ gb, greatT ns 600 = gb := ⟨_, rfl⟩
  have hGr := fun W hW => RGreatT_any (fun b => b < w.heap.size) A0 c0 600 ns root W hW hcm
  rw [hgb] at hGr
  replace hGr := hid hGr
  replace hgb := hid hgb
  have s0 := hid (show w.heap.size + 1 < ((w.alloc (.cells #[.slice A0 ns.length c0, .int .i64 root] 44)).alloc (.cells (k.1.map bv).toArray 23)).heap.size by simp)
  clear hr hT w0 w1 hI T0 k0 B0
  generalize hdk : k.1.map bv = dk at *
  replace hdk := hid hdk
  go_enter Tryd.func9, Tryd.ntmps9
  go_wp2_with (first
    | ((with_reducible refine wpList_load_rng ?_ 44 (.tmp 2) rfl w.heap.size 0 rfl [Value.slice A0 ns.length c0, .int .i64 root] _ ?_ hut rfl hiT.out ?_); rfl; exact X0.out))
  generalize (w.alloc (.cells #[.slice A0 ns.length c0, .int .i64 root] 44)).alloc (.cells dk.toArray 23) = w0 at *
  refine (hGr.out _ R0.out).mono ?_
  rintro e w1 ⟨rfl, hb⟩
  have s1 := hid (Nat.lt_of_lt_of_le s0.out hb.size)
  have X1 := hid (rangeBel2 hb X0.out)
  have K1 := hid (rangeBel2 hb K0.out)
  have R1 := hid (R0.out.bel hb)
  have t1 := hid (t0.out.bel hb (Nat.lt_of_lt_of_le hlow.out W0.out.size))
  have W1 := hid (W0.out.trans (hb.mono W0.out.size))
  clear X0 K0 R0 t0 W0
  clear hb hGr s0
  cases gb with
  | true =>
    go_wp2
    go_ret
    exact ⟨rfl, W1.out⟩
  | false =>
  obtain ⟨hlen, hvs⟩ := greatT_no hgb.out
  have hvs2 : ∀ x ∈ ns, x.v.length ≤ 1000000 := fun x hx => Nat.le_trans (hvs x hx) (by decide)
  clear hgb hvs
  obtain ⟨m, hm⟩ : ∃ m, mayT ⟨ns, root⟩ = m := ⟨_, rfl⟩
  obtain ⟨z, hz⟩ : ∃ z : Int, (if m = true then 0 else 8) = z := ⟨_, rfl⟩
  have hTw := fun W hW => RTwinT_any (fun b => b < w.heap.size) A0 c0 ns root W hW (by omega) hvs2
  have hMk := fun (F : Nat → Prop) A c W hW hTW => PfMake_any F A c ns root k W hW (by omega) hTW
  have hRM := fun W hW => RPfMake_any (fun b => b < w.heap.size) A0 c0 ns root k m W hW (by omega) hvs2 hm
  have hSm := fun F G A D c d W hW hV => RSameT_eq F G A D c d ns root W hW hV (by omega)
  rw [hm] at hMk
  rw [hz] at hMk hRM
  rw [hdk.out] at hMk hRM
  have hvl : (makeF ⟨ns, root⟩ k).v.length ≤ 1000000 := by
    unfold makeF
    split
    · split
      · split
        · have := end_short (t := ⟨ns, root⟩) k; simp only; omega
        · have := end_short (t := ⟨ns, root⟩) k; simp only; omega
      · simp
    · simp [pf0]
  have hsl : (makeF ⟨ns, root⟩ k).ss.length ≤ 1000000 := by
    cases m with
    | false => rw [makeF_no hm]; decide
    | true =>
      have := makeF_may k hm
      unfold mayF at this
      rw [Bool.and_eq_true, decide_eq_true_eq] at this
      omega
  have hpl := fun A c D d => hid (sizePfC (makeF ⟨ns, root⟩ k) A c D d)
  have hps := fun A c D d => hid (sizePfS (makeF ⟨ns, root⟩ k) A c D d)
  have hpz := fun A c D d => hid (show zPfC.size = (pfC (makeF ⟨ns, root⟩ k) A c D d).toArray.size by rw [zSizePf, List.size_toArray, len_pf])
  have hp1 := fun A c D d => hid (one_pf (makeF ⟨ns, root⟩ k) A c D d)
  have hBP := hid (fun (W : World) (g : Nat) A c D d (h : W.rangeAt g 0 (pfC (makeF ⟨ns, root⟩ k) A c D d)) => BoxP.of h)
  have hPS := fun (F G : Nat → Prop) A A2 c c2 D D2 d d2 W h1 h2 h3 h4 => RPfSame_is F G (makeF ⟨ns, root⟩ k) (makeF ⟨ns, root⟩ k) A A2 c c2 D D2 d d2 true W h1 h2 h3 h4 hvl hvl hsl hsl (decide_eq_true rfl)
  generalize makeF ⟨ns, root⟩ k = pf at *
  replace hTw := hid hTw
  replace hMk := hid hMk
  replace hRM := hid hRM
  replace hSm := hid hSm
  replace hPS := hid hPS
  replace hvs2 := trivial
  have fz : (z == z) = true := by simp
  have hvl9 := hid hvl
  clear hm hz hvl hsl
  go_wp2_with (first
    | ((with_reducible refine wpList_load_rng ?_ 44 (.tmp 2) rfl w.heap.size 0 rfl [Value.slice A0 ns.length c0, .int .i64 root] _ ?_ hut rfl hiT.out ?_); rfl; exact X1.out))
  refine (hTw.out _ R1.out).mono ?_
  rintro e w2 ⟨A1, c1, rfl, ho, hb⟩
  have s2 := hid (Nat.lt_of_lt_of_le s1.out hb.size)
  have X2 := hid (rangeBel2 hb X1.out)
  have K2 := hid (rangeBel2 hb K1.out)
  have R2 := hid (R1.out.bel hb)
  have t2 := hid (t1.out.bel hb (Nat.lt_of_lt_of_le hlow.out W1.out.size))
  have W2 := hid (W1.out.trans (hb.mono W1.out.size))
  clear X1 K1 R1 t1 W1
  have o2 := hid ((OwnR.row ho).mono (G := fun b => b < w2.heap.size) fun b _ h => h)
  have e2 := hid (heap_alloc_new w2 (.cells zTrC 44))
  have hiO := hid (show (Tryd.prog.info? 44).map (·.size) = some ([Value.slice A1 ns.length c1, .int .i64 root]).length from sizeTr)
  clear hb ho hTw s1
  go_wp2_with (first
    | (with_reducible refine wpList_alloc_row rfl 44 rfl zTrC zInfoTr ?_)
    | ((with_reducible refine wpList_store_row rfl 44 (.tmp 5) (.tmp 15) rfl _ _ rfl rfl 44 zTrC ?_ ?_ ?_ ?_ ?_); exact e2.out; exact sizeTr; rfl; exact one_tr A1 ns.length c1 root; intro w3 hgS hbS hsS; have Z_ := hid (xnewP rfl hbS); have Y3 := hid (rangeOf (l := [Value.slice A1 ns.length c1, .int .i64 root]) hgS); have s3 := hid (block_lt hgS); clear hgS hbS hsS; have X3 := hid (rangeBel2 Z_.out X2.out); have K3 := hid (rangeBel2 Z_.out K2.out); have R3 := hid (R2.out.bel Z_.out); have t3 := hid (t2.out.bel Z_.out (Nat.lt_of_lt_of_le hlow.out W2.out.size)); have o3 := hid (o2.out.bel Z_.out); have W3 := hid (W2.out.trans (Z_.out.mono W2.out.size)); clear X2 K2 R2 t2 o2 W2)
    | ((with_reducible refine wpList_load_rng ?_ 44 (.tmp 5) rfl w2.heap.size 0 rfl [Value.slice A1 ns.length c1, .int .i64 root] _ ?_ hut rfl hiO.out ?_); rfl; exact Y3.out)
    | ((with_reducible refine wpList_load_rng ?_ 23 (.tmp 3) rfl (w.heap.size + 1) 0 rfl dk _ ?_ hu rfl hi.out ?_); rfl; exact K3.out))
  refine (hMk.out _ _ _ _ o3.out t3.out).mono ?_
  rintro e w4 ⟨A2, c2, D2, d2, rfl, ho, hq, hb⟩
  have X4 := hid (rangeBel2 hb X3.out)
  have K4 := hid (rangeBel2 hb K3.out)
  have R4 := hid (R3.out.bel hb)
  have t4 := hid (t3.out.bel hb (Nat.lt_of_lt_of_le hlow.out W3.out.size))
  have o4 := hid (o3.out.bel hb)
  have Y4 := hid (rangeBel2 hb Y3.out)
  have W4 := hid (W3.out.trans (hb.mono W3.out.size))
  clear X3 K3 R3 t3 o3 Y3 W3
  have s4 := hid hb.size
  have V4 := hid ho
  have S4 := hid hq
  clear hb ho hq hMk
  have e4 := hid (heap_alloc_new w4 (.cells zPfC 72))
  have iP := hpl A2 c2 D2 d2
  have jP := hps A2 c2 D2 d2
  have zP := hpz A2 c2 D2 d2
  have oP := hp1 A2 c2 D2 d2
  replace hPS := hid (fun F G A c D d => hPS.out F G A2 A c2 c D2 D d2 d)
  replace hBP := hid (fun W g => hBP.out W g A2 c2 D2 d2)
  generalize hpc : pfC pf A2 c2 D2 d2 = pc at *
  replace hpc := hid hpc
  go_wp2_with (first
    | (with_reducible refine wpList_alloc_row rfl 72 rfl zPfC zInfoPf ?_)
    | ((with_reducible refine wpList_store_row rfl 72 (.tmp 6) (.tmp 20) rfl _ _ rfl rfl 72 zPfC ?_ ?_ ?_ ?_ ?_); exact e4.out; exact jP.out; exact zP.out; exact oP.out; intro w5 hgS hbS hsS; have Z4_ := hid (xnewP rfl hbS); have P5 := hid (rangeOf hgS); have sP := hid (show Soft w5 w4.heap.size from ⟨_, _, hgS⟩); clear hgS hbS hsS; have X5 := hid (rangeBel2 Z4_.out X4.out); have K5 := hid (rangeBel2 Z4_.out K4.out); have R5 := hid (R4.out.bel Z4_.out); have t5 := hid (t4.out.bel Z4_.out (Nat.lt_of_lt_of_le hlow.out W4.out.size)); have o5 := hid (o4.out.bel Z4_.out); have Y5 := hid (rangeBel2 Z4_.out Y4.out); have V5 := hid (V4.out.bel Z4_.out); have S5 := hid (S4.out.bel Z4_.out); have W5 := hid (W4.out.trans (Z4_.out.mono W4.out.size)); clear X4 K4 R4 t4 o4 Y4 V4 S4 W4)
    | ((with_reducible refine wpList_load_rng ?_ 44 (.tmp 2) rfl w.heap.size 0 rfl [Value.slice A0 ns.length c0, .int .i64 root] _ ?_ hut rfl hiT.out ?_); rfl; exact X5.out)
    | ((with_reducible refine wpList_load_rng ?_ 23 (.tmp 3) rfl (w.heap.size + 1) 0 rfl dk _ ?_ hu rfl hi.out ?_); rfl; exact K5.out))
  refine (hRM.out _ R5.out).mono ?_
  rintro e w6 ⟨A3, c3, D3, d3, rfl, ⟨h3, h3a, h3b, h3c⟩, hb⟩
  have s56 := hid hb.size
  have sP6 := hid (sP.out.kept (hb.block _ sP.out.lt))
  have X6 := hid (rangeBel2 hb X5.out)
  have K6 := hid (rangeBel2 hb K5.out)
  have R6 := hid (R5.out.bel hb)
  have t6 := hid (t5.out.bel hb (Nat.lt_of_lt_of_le hlow.out W5.out.size))
  have o6 := hid (o5.out.bel hb)
  have Y6 := hid (rangeBel2 hb Y5.out)
  have V6 := hid (V5.out.bel hb)
  have S6 := hid (S5.out.bel hb)
  have P6 := hid (rangeBel2 hb P5.out)
  have W6 := hid (W5.out.trans (hb.mono W5.out.size))
  clear X5 K5 R5 t5 o5 Y5 V5 S5 P5 W5
  have v6 := hid h3
  have r6 := hid h3c
  clear hb h3 h3a h3b h3c hRM sP
  have e6 := hid (heap_alloc_new w6 (.cells zPfC 72))
  have iQ := hpl A3 c3 D3 d3
  have jQ := hps A3 c3 D3 d3
  have zQ := hpz A3 c3 D3 d3
  have oQ := hp1 A3 c3 D3 d3
  replace hPS := hid (fun F G => hPS.out F G A3 c3 D3 d3)
  clear hpl hps hpz hp1
  generalize hqc : pfC pf A3 c3 D3 d3 = qc at *
  replace hqc := hid hqc
  go_wp2_with (first
    | (with_reducible refine wpList_alloc_row rfl 72 rfl zPfC zInfoPf ?_)
    | ((with_reducible refine wpList_store_row rfl 72 (.tmp 8) (.tmp 26) rfl _ _ rfl rfl 72 zPfC ?_ ?_ ?_ ?_ ?_); exact e6.out; exact jQ.out; exact zQ.out; exact oQ.out; intro w7 hgS hbS hsS; have Z6_ := hid (xnewP rfl hbS); have Q7 := hid (rangeOf hgS); have sP7 := hid (sP6.out.kept (Z6_.out.block _ sP6.out.lt)); clear hgS hbS hsS; have X7 := hid (rangeBel2 Z6_.out X6.out); have K7 := hid (rangeBel2 Z6_.out K6.out); have R7 := hid (R6.out.bel Z6_.out); have t7 := hid (t6.out.bel Z6_.out (Nat.lt_of_lt_of_le hlow.out W6.out.size)); have o7 := hid (o6.out.bel Z6_.out); have Y7 := hid (rangeBel2 Z6_.out Y6.out); have V7 := hid (V6.out.bel Z6_.out); have S7 := hid (S6.out.bel Z6_.out); have P7 := hid (rangeBel2 Z6_.out P6.out); have v7 := hid (v6.out.bel Z6_.out); have r7 := hid (r6.out.bel Z6_.out); have W7 := hid (W6.out.trans (Z6_.out.mono W6.out.size)); clear X6 K6 R6 t6 o6 Y6 V6 S6 P6 v6 r6 W6)
    | ((with_reducible refine wpList_load_rng ?_ 72 (.tmp 6) rfl w4.heap.size 0 rfl pc _ ?_ hup rfl iP.out ?_); rfl; exact P7.out)
    | ((with_reducible refine wpList_load_rng ?_ 72 (.tmp 8) rfl w6.heap.size 0 rfl qc _ ?_ hup rfl iQ.out ?_); rfl; exact Q7.out))
  refine (hPS.out _ _ _ V7.out.rd v7.out.rd S7.out r7.out).mono ?_
  rintro e w8 ⟨rfl, hb⟩
  have sP8 := hid (sP7.out.kept (hb.block _ sP7.out.lt))
  have s48 := hid (show w3.heap.size ≤ w8.heap.size by have := s4.out; have := Z4_.out.size; have := s56.out; have := Z6_.out.size; have := hb.size; omega)
  have X8 := hid (rangeBel2 hb X7.out)
  have K8 := hid (rangeBel2 hb K7.out)
  have R8 := hid (R7.out.bel hb)
  have t8 := hid (t7.out.bel hb (Nat.lt_of_lt_of_le hlow.out W7.out.size))
  have o8 := hid (o7.out.bel hb)
  have Y8 := hid (rangeBel2 hb Y7.out)
  have V8 := hid (V7.out.bel hb)
  have S8 := hid (S7.out.bel hb)
  have P8 := hid (rangeBel2 hb P7.out)
  have Q8 := hid (rangeBel2 hb Q7.out)
  have W8 := hid (W7.out.trans (hb.mono W7.out.size))
  clear X7 K7 R7 t7 o7 Y7 V7 S7 P7 Q7 W7
  clear hb hPS sP7 sP6
  have tv := (hBP.out _ _ P8.out).val
  have sp := hid (Own.soft V8.out)
  have rp := hid V8.out.rd
  have Tv := hid tv
  clear V8 hBP tv S8
  generalize hvn : pf.v = vl at *
  clear hvn
  go_wp2
  go_loopw [11] (fun i wr => ∃ j : Nat, j ≤ vl.length ∧ i = .int .i64 j ∧ MutI (fun b => w3.heap.size ≤ b) w8 wr) (fun i _ => vl.length - (intOf i).toNat)
  case atStart => exact ⟨0, Nat.zero_le _, rfl, MutI.refl _ _⟩
  case round =>
    obtain ⟨j, hj, rfl, hm⟩ := hrel
    have y1 := hm.same sP8.out Tv.out (not_sameI_slice _ _ _)
    by_cases hlt : j < vl.length
    · obtain ⟨b, o, hA, hc⟩ := rp.out (by omega)
      obtain ⟨hb0, hs0⟩ := sp.out _ hA
      have hc1 := hc j _ (List.getElem?_eq_getElem hlt)
      obtain ⟨n, hn⟩ := hm.num hs0 hc1
      have hf := (hs0.mutI hm).free (o + j)
      subst hA
      have Hm := hid hm
      have Hn := hid hn
      have Hb := hid hb0
      have hvm : vl.length ≤ 1000000 := hvl9.out
      clear hc hc1 hs0 hb0 hm
      go_wp2
      go_still_tail 10, (by kernel_rfl)
      go_wp2
      go_roundw
      case rel => exact ⟨j + 1, by omega, by go_num, (Hm.out.store Hb.out Hn.out _).drew⟩
      case measure => simp [intOf]; omega
    · obtain rfl : j = vl.length := by omega
      have hc := hm.chg
      have Xz := hid (rangeAt_kept X8.out fun hl => hc.block _ hl (by have := s2.out; have := s3.out; omega))
      have Yz := hid (rangeAt_kept Y8.out fun hl => hc.block _ hl (by have := s3.out; omega))
      have Rz := hid (R8.out.chg hc (fun b hb _ => by have := s2.out; have := s3.out; have hb : b < w.heap.size := hb; omega))
      have oz := hid (o8.out.chg hc (fun b hb _ => by have := s3.out; have hb : b < w2.heap.size := hb; omega))
      have Wz := hid (W8.out.trans (hc.below W8.out.size (fun b hb => by have := s2.out; have := s3.out; omega)))
      clear hm hc
      go_wp2_with (first
        | ((with_reducible refine wpList_load_rng ?_ 44 (.tmp 5) rfl w2.heap.size 0 rfl [Value.slice A1 ns.length c1, .int .i64 root] _ ?_ hut rfl hiO.out ?_); rfl; exact Yz.out)
        | ((with_reducible refine wpList_load_rng ?_ 44 (.tmp 2) rfl w.heap.size 0 rfl [Value.slice A0 ns.length c0, .int .i64 root] _ ?_ hut rfl hiT.out ?_); rfl; exact Xz.out))
      refine (hSm.out _ _ _ _ _ _ _ oz.out Rz.out).mono ?_
      rintro e wy ⟨rfl, hb⟩
      go_wp2
      go_ret
      exact ⟨rfl, Wz.out.trans (hb.mono Wz.out.size)⟩

/-! ### WHAT THE WALK GIVES, FOR EVERY ARGUMENT AND EVERY WORLD THAT HOLDS THE TABLE -/
set_option maxRecDepth 100000 in
theorem contract (H : Type) (enc : TypeId × Value → H) (W : World) (base : Nat) (args : Array Value) (ds gs : List (DataW H)) (before : List MemPlace)
    (hval0 : ∀ (j : Nat) t v, Tryd.f9.params[j]? = some t → args[j]? = some v → Value.okWide Tryd.prog W .any base t v)
    (hW : DataW.Whole enc Tryd.prog Tryd.f9.params.toList Rows.proofMakesSpec.vars false W args.toList ds gs before) (hL : laidMetH Tryd.prog Rows.proofMakesRow.laid W) :
    Calls Tryd.prog 9 args W fun e W' => ∃ v, e = .returned v ∧ Rows.proofMakesSpec.post enc Tryd.prog Tryd.f9 false true false false W args v W' := by
  have hval : ∀ (j : Nat) t v, Tryd.f9.params[j]? = some t → args[j]? = some v → Value.okWide Tryd.prog W .any base t v := hval0
  have hW' := hW
  obtain ⟨p, q, hA0, hV, rfl, hfz, hnd⟩ := hW
  have hA : DataW.TrodAll enc Tryd.prog W 0 (fun _ => true) true Tryd.f9.params.toList args.toList ds p := hA0
  rw [Tryd.params9] at hA hval
  obtain ⟨v0, vs0, d0, ds0, p0, q0, hargs, rfl, rfl, h0, r0⟩ := trodAll_cons hA
  obtain ⟨v1, vs1, d1, ds1, p1, q1, rfl, rfl, rfl, h1, r1⟩ := trodAll_cons r0
  obtain ⟨rfl, rfl, rfl⟩ := trodAll_nil r1
  obtain rfl : args = #[v0, v1] := by cases args; simp_all
  obtain ⟨rfl, rfl⟩ := trodVars_none hV
  have k0 := h0
  have lt0 : ∀ x ∈ p0, x.block < W.heap.size := by obtain ⟨m, hm⟩ := k0; exact DataW.trod_lt m _ _ _ hm
  obtain ⟨x0, vs0, rfl, w0⟩ := open_struct opensTr Tryd.underlying44 (hval 0 44 v0 rfl rfl) h0
  have k1 := h1
  have lt1 : ∀ x ∈ p1, x.block < W.heap.size := by obtain ⟨m, hm⟩ := k1; exact DataW.trod_lt m _ _ _ hm
  obtain ⟨l1, w1, rfl⟩ := open_dig Tryd.underlying23 Tryd.underlying5 cellsByte cellsDig (hval 1 23 v1 rfl rfl) h1
  clear hA0 hval0
  refine (walk x0 vs0 l1 W w0 w1 (tab_of hL)).mono fun e W' ⟨he, bel⟩ => ?_
  subst he
  exact ⟨_, rfl, _, _, _, [], _, [], hW', trodAll_mk1 (shut_bool Tryd.underlying4 _), (trodAll_cons_mk (Below.trod laidOut (by kernel_rfl) (of_decide_eq_true (by kernel_rfl)) k0 bel lt0) (trodAll_cons_mk (Below.trod laidOut (by kernel_rfl) (of_decide_eq_true (by kernel_rfl)) k1 bel lt1) trodAll_mk0)), rfl, bel.frame _, fun h => by cases h⟩

theorem laid_met (os : Os) : laidMet Tryd.prog Rows.proofMakesRow.laid ((laidWorld os).forCall (fun _ _ => 0) ⟨#[], #[.agg zTrC, .agg z32], []⟩).memory :=
  laidMet_of_run' 8 (by kernel_rfl) (by kernel_rfl)
theorem reads (os : Os) {H : Type} (enc : TypeId × Value → H) : ∃ places, DataW.whole enc Tryd.prog ((laidWorld os).forCall (fun _ _ => 0) ⟨#[], #[.agg zTrC, .agg z32], []⟩).memory Tryd.f9.params.toList Rows.proofMakesSpec.vars false (#[.agg zTrC, .agg z32] : Array Value).toList 8 = some ([.agg [.nil, .lit (.int .i64 0)], .agg (List.replicate 32 (.lit (.int .u8 0)))], [], places) :=
  ⟨[], by kernel_rfl⟩
set_option maxRecDepth 100000 in
theorem lifted (os : Os) (started : os.Started) (H : Type) (enc : TypeId × Value → H) (F : Stop.Interp) :
    ReturnsInHanded {} Tryd.checked os 9 .any ((OpenSpec.ofChange Rows.proofMakesSpec).preRow enc Tryd.prog Tryd.f9 Rows.proofMakesRow.domain false Rows.proofMakesRow.laid) (((OpenSpec.ofChange Rows.proofMakesSpec).at F).post enc Tryd.prog Tryd.f9 false true false false) := by
  obtain ⟨places, hx⟩ := reads os enc
  refine returnsInHanded_of_row (C := Tryd.checked) (s := OpenSpec.ofChange Rows.proofMakesSpec) own started (by kernel_rfl) Tryd.func9
    (witness_row_at (enc := enc) (C := Tryd.checked) false (laidWorld os) #[.agg zTrC, .agg z32] rfl (by kernel_rfl) (by kernel_rfl) (by kernel_rfl)
      (OpenSpec.preRow_of_cond 8 hx (by kernel_rfl) (fun k hk => by cases hk) (by kernel_rfl) (laid_met os))) ?_
  intro W base args ds gs before hval hW _ _ _ hL _ _
  exact contract H enc W base args ds gs before hval hW hL
theorem said : Rows.ProofMakesSaid :=
  OpenClaim.holds_of_cond 9 Tryd.f9 rfl rfl rfl rfl rfl rfl rfl ⟨rfl, rfl, rfl, rfl, rfl⟩ rfl rfl rfl rfl rfl (by kernel_rfl) Tryd.func9 (by kernel_rfl)
    (of_decide_eq_true (by kernel_rfl)) (by unfold Func.isWrapper; first | (rw [if_pos (by decide +kernel)]; kernel_rfl) | (rw [if_neg (by decide +kernel)]; exact ⟨rfl, rfl⟩))
    (fun os started H enc _ F => by rw [OpenClaim.pre_eq_preRow]; exact lifted os started H enc F)
set_option maxRecDepth 100000 in
/-- No parameter wants a stand-in; the program's own looks are off: what the card asks. -/
theorem plain (f : FuncId) (fn : Func) (hf : Tryd.pinned.checked.prog.funcNamed "beadroll/beadrolllaw07.ProofMakes" = some f) (hfn : Tryd.pinned.checked.prog.funcs[f]? = some fn) :
    false = Tryd.pinned.checked.prog.looks [] ∧ ∀ (j : Nat) t, fn.params[j]? = some t → Tryd.pinned.checked.prog.wantsStandIn t = false := by
  obtain rfl : f = 9 := Option.some.inj ((show Tryd.prog.funcNamed "beadroll/beadrolllaw07.ProofMakes" = some 9 by kernel_rfl).symm.trans hf) |>.symm
  obtain rfl : fn = Tryd.f9 := (Option.some.inj (Tryd.func9.symm.trans hfn)).symm
  refine ⟨by kernel_rfl, fun j t ht => ?_⟩
  rw [Tryd.params9] at ht
  have hm := Array.mem_of_getElem? ht
  simp only [List.mem_toArray, List.mem_cons, List.not_mem_nil, or_false] at hm
  rcases hm with rfl | rfl
  all_goals first | exact (show Tryd.prog.wantsStandIn 44 = false by kernel_rfl) | exact (show Tryd.prog.wantsStandIn 23 = false by kernel_rfl)
set_option maxRecDepth 100000 in
/-- ████ THE CARD ████ -/
theorem proved : Rows.ProofMakesCardSaid :=
  Claim7.holds_tied_plain_at .later [] _ _ _ _ said (fun _ h => by cases h) (by kernel_rfl) (fun _ h => by cases h) proofMakes_row_tie rfl ⟨rfl, rfl⟩ (by kernel_rfl) rfl plain (by kernel_rfl)
#print axioms proved
end Go.Proofs.YtnoglodggchgpaaDoor.proofMakes
