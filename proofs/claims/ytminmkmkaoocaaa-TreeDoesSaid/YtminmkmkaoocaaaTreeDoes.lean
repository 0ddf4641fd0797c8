/-
  The Go function TreeDoes returns true: what a tree stands for, with a value for a key, and without a key, or the errors, are the document's; the nodes ahead stay, at most 300 come behind: any tree, key and value; its arguments read afterwards as before.
  Conditions: none. The frame around the walk was written by program (proof-skeleton.mjs).
-/
import Derived.Test.YtminmkmkaoocaaaRows
import Derived.WalkKit
import Derived.ProofKit
import Derived.OpenShut
import Derived.ShutString
import Derived.ChangeOld
import Derived.Below
import Derived.Test.YtminmkmkaoocaaaLaw06g
import Derived.Test.YtminmkmkaoocaaaLaw06s
import Derived.Test.YtminmkmkaoocaaaRef06e
import Derived.Test.YtminmkmkaoocaaaTreeB
namespace Go.Proofs.Ytminmkmkaoocaaa.treeDoes
open Go.ChangeShapes Go.WideShapes Go.ChangeAt Go.RowKit
open Go.ChangeMaps (open_string shut_string)
set_option linter.unusedVariables false

theorem own : ownKnob Try.prog.godebug = none := by kernel_rfl
theorem laidOut : laidOutB Try.prog = true := by kernel_rfl

/-- WHAT THE WALK IS TOLD OF A SLICE OF INTEGERS THAT CAME IN: it is nil; or it leads to a row of 'cap' cells, the numbers 'zs' (the first 'len' are its elements, the rest its spare room), each fitting its kind. -/
def IsRow (k : IntKind) (w : World) (a : Option Addr) (len cap : Nat) (zs : List Int) : Prop :=
  (a = none ∧ len = 0 ∧ cap = 0 ∧ zs = []) ∨
  ∃ x, a = some x ∧ len ≤ cap ∧ cap ≤ maxLen ∧ zs.length = cap ∧ (∀ i, i < zs.length → w.cell? (x.add i) = some (.int k (zs.getD i 0))) ∧ ∀ n ∈ zs, (Lit.int k n).wf = true

/-! ### the walk -/
open Go.Proofs.Ytminmkmkaoocaaa
theorem range_chg {w w' : World} {b o lo hi : Nat} {l : List Value} (hc : Chg (fun b => lo ≤ b ∧ b < hi) w w') (h : w.rangeAt b o l) (hb : b < lo ∨ hi ≤ b) : w'.rangeAt b o l := rangeAt_kept h fun hl => hc.block b hl (fun e => by omega)
set_option maxRecDepth 100000 in
set_option maxHeartbeats 8000000 in
theorem walk (x0 : Tr) (vs0 : List Value) (l1 : List UInt8) (a2 : Option Addr) (len2 cap2 : Nat) (z2 : List Int) (w : World) (w0 : Enc.rep (fun b => b < w.heap.size) w x0 vs0) (w1 : l1.length = 32) (w2 : IsRow .u8 w a2 len2 cap2 z2) :
    Calls Try.prog 3 #[.agg vs0.toArray, .agg (l1.map bv).toArray, .slice a2 len2 cap2] w fun e w' => e = .returned (.bool true) ∧ Below w.heap.size w w' := by
  obtain ⟨A0, c0, rfl, hc0, hm0, hr, hI⟩ := rep_tr w0
  obtain ⟨ns, root⟩ := x0
  obtain ⟨k, rfl⟩ : ∃ k : Dg, l1 = k.1 := ⟨⟨l1, w1⟩, rfl⟩
  obtain ⟨v, rfl, hv, hvd, hdm⟩ := rd_of_row w2
  dsimp only at *
  have hcm : ns.length ≤ 9223372036854775807 := by unfold maxLen at hm0; omega
  have hvl : v.length ≤ 9223372036854775807 := by unfold maxLen at hdm; omega
  obtain ⟨T0, K0, W0⟩ := boxesTD w A0 ns.length c0 root k 24 26
  have hu := Try.underlying26
  have hut := Try.underlying24
  have hi := hid (sizeDgT k)
  have hiT := hid (show (Try.prog.info? 24).map (·.size) = some ([Value.slice A0 ns.length c0, .int .i64 root]).length from sizeTr)
  have R0 := hid (hr.bel W0)
  have V0 := hid (hv.bel W0)
  obtain ⟨gb, hgb⟩ : ∃ gb, greatT ns 600 = gb := ⟨_, rfl⟩
  have hGr := fun W hW => RGreatT_any (fun b => b < w.heap.size) A0 c0 600 ns root W hW hcm
  rw [hgb] at hGr
  replace hGr := hid hGr
  replace hgb := hid hgb
  replace T0 := hid T0
  replace K0 := hid K0
  replace W0 := hid W0
  clear hr hv w0 w1 w2 hI
  generalize hdk : k.1.map bv = dk at *
  replace hdk := hid hdk
  by_cases hv100 : 100 < v.length
  · have q1 : decide ((100 : Int) < (v.length : Int)) = true := decide_eq_true (by omega)
    go_enter Try.func3, Try.ntmps3
    go_wp2
    go_ret
    exact ⟨rfl, W0.out⟩
  have q1 : decide ((100 : Int) < (v.length : Int)) = false := decide_eq_false (by omega)
  go_enter Try.func3, Try.ntmps3
  go_wp2_with (first
    | ((with_reducible refine wpList_load_rng ?_ 24 (.tmp 3) rfl w.heap.size 0 rfl [Value.slice A0 ns.length c0, .int .i64 root] _ ?_ hut rfl hiT.out ?_); rfl; exact T0.out.all))
  generalize (w.alloc (.cells #[.slice A0 ns.length c0, .int .i64 root] 24)).alloc (.cells dk.toArray 26) = w0 at *
  refine (hGr.out _ R0.out).mono ?_
  rintro e w1 ⟨rfl, hb⟩
  have T1 := hid (T0.out.bel hb)
  have K1 := hid (rangeBel2 hb K0.out)
  have R1 := hid (R0.out.bel hb)
  have V1 := hid (V0.out.bel hb)
  have W1 := hid (W0.out.trans (hb.mono W0.out.size))
  clear T0 K0 R0 V0 W0
  clear hb hGr
  cases gb with
  | true =>
    go_wp2
    go_ret
    exact ⟨rfl, W1.out⟩
  | false =>
    obtain ⟨hlen, hvs⟩ := greatT_no hgb.out
    have hvs2 : ∀ x ∈ ns, x.v.length ≤ 1000000 := fun x hx => Nat.le_trans (hvs x hx) (by decide)
    clear hgb
    have hTw := hid (fun W hW => RTwinT_any (fun b => b < w.heap.size) A0 c0 ns root W hW (by omega) hvs2)
    have hPP := fun F A c W hW hV => PTPut_any F A a2 c cap2 ns root k v W hW (by omega) hV hvd hdm
    have hRP := fun W hW hV => RPutT_any (fun b => b < w.heap.size) A0 a2 c0 cap2 ns root k v W hW (by omega) hV (by omega)
    have hPD := fun F A c W hW => PTDrop_any F A c ns root k W hW (by omega)
    have hRD := fun W hW => RDropT_any (fun b => b < w.heap.size) A0 c0 ns root k W hW (by omega)
    have hSm := hid (fun F G A D c d W hW hV => RSameT_eq F G A D c d ns root W hW hV (by omega))
    rw [hdk.out] at hPP hRP hPD hRD
    have hGA : tputE ⟨ns, root⟩ v = 0 → ∀ (F G H : Nat → Prop) (A D Q : Option Addr) (c d q : Nat) (W : World), Row F W A (tputT ⟨ns, root⟩ k v).ns → Row G W D ns → Row H W Q (tputL ⟨ns, root⟩ k v) → (tputT ⟨ns, root⟩ k v).ns.length ≤ c →
        Calls Try.prog 11 #[.agg #[.slice A (tputT ⟨ns, root⟩ k v).ns.length c, .int .i64 (tputT ⟨ns, root⟩ k v).root], .agg #[.slice D ns.length d, .int .i64 root], .slice Q (tputL ⟨ns, root⟩ k v).length q] W fun e w' => e = .returned (.bool true) ∧ Below W.heap.size W w' := fun h F G H A D Q c d q W h1 h2 h3 h4 => by
      obtain ⟨⟨ms, s1, s2⟩, s3, s4⟩ := tputT_spec (k := k) h
      have s5 : tputL ⟨ns, root⟩ k v = allT (tputT ⟨ns, root⟩ k v) := by unfold tputL; rw [if_pos h, s4]
      exact grown_true F G H A D Q c d q _ ns ms _ root _ W s1 (by omega) s3 s5.symm h1 h2 h3 h4 (by rw [s1, List.length_append]; dsimp only; omega)
    have hGC : tdropE ⟨ns, root⟩ k = 0 → ∀ (F G H : Nat → Prop) (A D Q : Option Addr) (c d q : Nat) (W : World), Row F W A (tdropT ⟨ns, root⟩ k).ns → Row G W D ns → Row H W Q (tdropL ⟨ns, root⟩ k) → (tdropT ⟨ns, root⟩ k).ns.length ≤ c →
        Calls Try.prog 11 #[.agg #[.slice A (tdropT ⟨ns, root⟩ k).ns.length c, .int .i64 (tdropT ⟨ns, root⟩ k).root], .agg #[.slice D ns.length d, .int .i64 root], .slice Q (tdropL ⟨ns, root⟩ k).length q] W fun e w' => e = .returned (.bool true) ∧ Below W.heap.size W w' := fun h F G H A D Q c d q W h1 h2 h3 h4 => by
      obtain ⟨⟨ms, s1, s2⟩, s3, s4⟩ := tdropT_spec h
      have s5 : tdropL ⟨ns, root⟩ k = allT (tdropT ⟨ns, root⟩ k) := by unfold tdropL; rw [if_pos h, s4]
      exact grown_true F G H A D Q c d q _ ns ms _ root _ W s1 (by omega) s3 s5.symm h1 h2 h3 h4 (by rw [s1, List.length_append]; dsimp only; omega)
    have hlA : (tputT ⟨ns, root⟩ k v).ns.length ≤ 1000000 := by
      by_cases h : tputE ⟨ns, root⟩ v = 0
      · obtain ⟨⟨ms, s1, s2⟩, _⟩ := tputT_spec (k := k) h
        rw [s1, List.length_append]; dsimp only; omega
      · rw [tput_no h]; simp
    have hlC : (tdropT ⟨ns, root⟩ k).ns.length ≤ 1000000 := by
      by_cases h : tdropE ⟨ns, root⟩ k = 0
      · obtain ⟨⟨ms, s1, s2⟩, _⟩ := tdropT_spec h
        rw [s1, List.length_append]; dsimp only; omega
      · rw [tdrop_no h]; simp
    generalize tputE ⟨ns, root⟩ v = z1 at *
    generalize tdropE ⟨ns, root⟩ k = z2 at *
    generalize tputL ⟨ns, root⟩ k v = L1 at *
    generalize tdropL ⟨ns, root⟩ k = L2 at *
    generalize tputT ⟨ns, root⟩ k v = ta at *
    generalize tdropT ⟨ns, root⟩ k = tc at *
    obtain ⟨na, ra⟩ := ta
    obtain ⟨nc, rc⟩ := tc
    dsimp only at hPP hPD hGA hGC hlA hlC
    replace hPP := hid hPP
    replace hRP := hid hRP
    replace hPD := hid hPD
    replace hRD := hid hRD
    replace hGA := hid hGA
    replace hGC := hid hGC
    replace hvs := trivial
    replace hvs2 := trivial
    have f1 : (z1 != z1) = false := by simp
    have f2 : (z2 != z2) = false := by simp
    go_wp2_with (first
      | ((with_reducible refine wpList_load_rng rfl 24 (.tmp 3) rfl w.heap.size 0 rfl [Value.slice A0 ns.length c0, .int .i64 root] _ ?_ hut rfl hiT.out ?_); exact T1.out.all))
    refine (hTw.out _ R1.out).mono ?_
    rintro e w2 ⟨A2, c2, rfl, ho, hb⟩
    have T2 := hid (T1.out.bel hb)
    have K2 := hid (rangeBel2 hb K1.out)
    have R2 := hid (R1.out.bel hb)
    have V2 := hid (V1.out.bel hb)
    have W2 := hid (W1.out.trans (hb.mono W1.out.size))
    clear T1 K1 R1 V1 W1
    have O2 := hid ((OwnR.row ho).mono (G := fun b => b < w2.heap.size) fun b _ h => h)
    have s02 := hid T2.out.lt
    clear hb ho hTw
    have e2 := hid (heap_alloc_new w2 (.cells zTrC 24))
    have hiO := hid (show (Try.prog.info? 24).map (·.size) = some ([Value.slice A2 ns.length c2, .int .i64 root]).length from sizeTr)
    go_wp2_with (first
      | (with_reducible refine wpList_alloc_row rfl 24 rfl zTrC zInfoTr ?_)
      | ((with_reducible refine wpList_store_row rfl 24 (.tmp 7) (.tmp 24) rfl _ _ rfl rfl 24 zTrC ?_ ?_ ?_ ?_ ?_); exact e2.out; exact sizeTr; rfl; exact one_trP A2 ns.length c2 root; intro wS hgS hbS hsS; have X3 := hid (xnew_ rfl hbS); have lt3 := hid (block_lt hgS); have D3 := hid (BoxT.of (rangeOf (l := [Value.slice A2 ns.length c2, .int .i64 root]) hgS)); clear hgS hbS hsS; have T3 := hid (T2.out.bel X3.out); have K3 := hid (rangeBel2 X3.out K2.out); have R3 := hid (R2.out.bel X3.out); have V3 := hid (V2.out.bel X3.out); have W3 := hid (W2.out.trans (X3.out.mono W2.out.size)); have O3 := hid (O2.out.bel X3.out); clear T2 K2 R2 V2 W2 O2)
      | ((with_reducible refine wpList_load_rng rfl 24 (.tmp 7) rfl w2.heap.size 0 rfl [Value.slice A2 ns.length c2, .int .i64 root] _ ?_ hut rfl hiO.out ?_); exact D3.out.all)
      | ((with_reducible refine wpList_load_rng rfl 26 (.tmp 4) rfl (w.heap.size + 1) 0 rfl dk _ ?_ hu rfl hi.out ?_); exact K3.out))
    rename_i w3
    refine (hPP.out _ A2 c2 _ O3.out V3.out).mono ?_
    rintro e w4 ⟨A4, c4, rfl, ho, hb⟩
    have T4 := hid (T3.out.bel hb)
    have K4 := hid (rangeBel2 hb K3.out)
    have R4 := hid (R3.out.bel hb)
    have V4 := hid (V3.out.bel hb)
    have W4 := hid (W3.out.trans (hb.mono W3.out.size))
    have O4 := hid (O3.out.bel hb)
    have D4 := hid (D3.out.bel hb)
    clear T3 K3 R3 V3 W3 O3 D3
    have a4 := hid (OwnR.held ho)
    have b4 := hid (OwnR.row ho)
    have p4 := hid (OwnQ.cap ho)
    have s34 := hid hb.size
    clear hb ho hPP
    have e4 := hid (heap_alloc_new w4 (.cells zTrC 24))
    have hiA := hid (show (Try.prog.info? 24).map (·.size) = some ([Value.slice A4 na.length c4, .int .i64 ra]).length from sizeTr)
    go_wp2_with (first
      | (with_reducible refine wpList_alloc_row rfl 24 rfl zTrC zInfoTr ?_)
      | ((with_reducible refine wpList_store_row rfl 24 (.tmp 8) (.tmp 30) rfl _ _ rfl rfl 24 zTrC ?_ ?_ ?_ ?_ ?_); exact e4.out; exact sizeTr; rfl; exact one_trP A4 na.length c4 ra; intro wS hgS hbS hsS; have X5 := hid (xnew_ rfl hbS); have lt5 := hid (block_lt hgS); have E5 := hid (BoxT.of (rangeOf (l := [Value.slice A4 na.length c4, .int .i64 ra]) hgS)); clear hgS hbS hsS; have T5 := hid (T4.out.bel X5.out); have K5 := hid (rangeBel2 X5.out K4.out); have R5 := hid (R4.out.bel X5.out); have V5 := hid (V4.out.bel X5.out); have W5 := hid (W4.out.trans (X5.out.mono W4.out.size)); have O5 := hid (O4.out.bel X5.out); have D5 := hid (D4.out.bel X5.out); have a5 := hid (a4.out.bel X5.out); have b5 := hid (b4.out.bel X5.out); clear T4 K4 R4 V4 W4 O4 D4 a4 b4)
      | ((with_reducible refine wpList_load_rng rfl 24 (.tmp 3) rfl w.heap.size 0 rfl [Value.slice A0 ns.length c0, .int .i64 root] _ ?_ hut rfl hiT.out ?_); exact T5.out.all)
      | ((with_reducible refine wpList_load_rng rfl 26 (.tmp 4) rfl (w.heap.size + 1) 0 rfl dk _ ?_ hu rfl hi.out ?_); exact K5.out))
    rename_i w5
    refine (hRP.out _ R5.out V5.out).mono ?_
    rintro e w6 ⟨A6, c6, rfl, ho, hb⟩
    have T6 := hid (T5.out.bel hb)
    have K6 := hid (rangeBel2 hb K5.out)
    have R6 := hid (R5.out.bel hb)
    have V6 := hid (V5.out.bel hb)
    have W6 := hid (W5.out.trans (hb.mono W5.out.size))
    have O6 := hid (O5.out.bel hb)
    have D6 := hid (D5.out.bel hb)
    have a6 := hid (a5.out.bel hb)
    have b6 := hid (b5.out.bel hb)
    have E6 := hid (E5.out.bel hb)
    clear T5 K5 R5 V5 W5 O5 D5 a5 b5 E5
    have l6 := hid (OwnR.row ho)
    have s56 := hid hb.size
    clear hb ho hRP
    go_wp2_with (first
      | ((with_reducible refine wpList_load_rng rfl 24 (.tmp 7) rfl w2.heap.size 0 rfl [Value.slice A2 ns.length c2, .int .i64 root] _ ?_ hut rfl hiO.out ?_); exact D6.out.all)
      | ((with_reducible refine wpList_load_rng rfl 26 (.tmp 4) rfl (w.heap.size + 1) 0 rfl dk _ ?_ hu rfl hi.out ?_); exact K6.out))
    refine (hPD.out _ A2 c2 _ O6.out).mono ?_
    rintro e w7 ⟨A7, c7, rfl, ho, hb⟩
    have T7 := hid (T6.out.bel hb)
    have K7 := hid (rangeBel2 hb K6.out)
    have R7 := hid (R6.out.bel hb)
    have V7 := hid (V6.out.bel hb)
    have W7 := hid (W6.out.trans (hb.mono W6.out.size))
    have O7 := hid (O6.out.bel hb)
    have D7 := hid (D6.out.bel hb)
    have a7 := hid (a6.out.bel hb)
    have b7 := hid (b6.out.bel hb)
    have E7 := hid (E6.out.bel hb)
    have l7 := hid (l6.out.bel hb)
    clear T6 K6 R6 V6 W6 O6 D6 a6 b6 E6 l6
    have x7 := hid (OwnR.held ho)
    have y7 := hid (OwnR.row ho)
    have p7 := hid (OwnQ.cap ho)
    have s67 := hid hb.size
    clear hb ho hPD
    have e7 := hid (heap_alloc_new w7 (.cells zTrC 24))
    have hiC := hid (show (Try.prog.info? 24).map (·.size) = some ([Value.slice A7 nc.length c7, .int .i64 rc]).length from sizeTr)
    go_wp2_with (first
      | (with_reducible refine wpList_alloc_row rfl 24 rfl zTrC zInfoTr ?_)
      | ((with_reducible refine wpList_store_row rfl 24 (.tmp 12) (.tmp 43) rfl _ _ rfl rfl 24 zTrC ?_ ?_ ?_ ?_ ?_); exact e7.out; exact sizeTr; rfl; exact one_trP A7 nc.length c7 rc; intro wS hgS hbS hsS; have X8 := hid (xnew_ rfl hbS); have lt8 := hid (block_lt hgS); have G8 := hid (BoxT.of (rangeOf (l := [Value.slice A7 nc.length c7, .int .i64 rc]) hgS)); clear hgS hbS hsS; have T8 := hid (T7.out.bel X8.out); have K8 := hid (rangeBel2 X8.out K7.out); have R8 := hid (R7.out.bel X8.out); have V8 := hid (V7.out.bel X8.out); have W8 := hid (W7.out.trans (X8.out.mono W7.out.size)); have O8 := hid (O7.out.bel X8.out); have D8 := hid (D7.out.bel X8.out); have a8 := hid (a7.out.bel X8.out); have b8 := hid (b7.out.bel X8.out); have E8 := hid (E7.out.bel X8.out); have l8 := hid (l7.out.bel X8.out); have x8 := hid (x7.out.bel X8.out); have y8 := hid (y7.out.bel X8.out); clear T7 K7 R7 V7 W7 O7 D7 a7 b7 E7 l7 x7 y7)
      | ((with_reducible refine wpList_load_rng rfl 24 (.tmp 3) rfl w.heap.size 0 rfl [Value.slice A0 ns.length c0, .int .i64 root] _ ?_ hut rfl hiT.out ?_); exact T8.out.all)
      | ((with_reducible refine wpList_load_rng rfl 26 (.tmp 4) rfl (w.heap.size + 1) 0 rfl dk _ ?_ hu rfl hi.out ?_); exact K8.out))
    rename_i w8
    refine (hRD.out _ R8.out).mono ?_
    rintro e w9 ⟨A9, c9, rfl, ho, hb⟩
    have T9 := hid (T8.out.bel hb)
    have K9 := hid (rangeBel2 hb K8.out)
    have R9 := hid (R8.out.bel hb)
    have V9 := hid (V8.out.bel hb)
    have W9 := hid (W8.out.trans (hb.mono W8.out.size))
    have O9 := hid (O8.out.bel hb)
    have D9 := hid (D8.out.bel hb)
    have a9 := hid (a8.out.bel hb)
    have b9 := hid (b8.out.bel hb)
    have E9 := hid (E8.out.bel hb)
    have l9 := hid (l8.out.bel hb)
    have x9 := hid (x8.out.bel hb)
    have y9 := hid (y8.out.bel hb)
    have G9 := hid (G8.out.bel hb)
    clear T8 K8 R8 V8 W8 O8 D8 a8 b8 E8 l8 x8 y8 G8
    have m9 := hid (OwnR.row ho)
    have s89 := hid hb.size
    clear hb ho hRD
    have fin : Hid (∀ w' : World, Below w9.heap.size w9 w' → True) := hid (fun _ _ => trivial)
    by_cases h1 : z1 = 0
    · by_cases h2 : z2 = 0
      · as_aux_lemma =>
          subst h1
          subst h2
          go_wp2_with (first
            | ((with_reducible refine wpList_load_rng ?_ 24 (.tmp 8) rfl w4.heap.size 0 rfl [Value.slice A4 na.length c4, .int .i64 ra] _ ?_ hut rfl hiA.out ?_); rfl; exact E9.out.all)
            | ((with_reducible refine wpList_load_rng ?_ 24 (.tmp 3) rfl w.heap.size 0 rfl [Value.slice A0 ns.length c0, .int .i64 root] _ ?_ hut rfl hiT.out ?_); rfl; exact T9.out.all))
          refine (hGA.out (by first | trivial | rfl) _ _ _ A4 A0 A6 c4 c0 c6 _ b9.out R9.out l9.out p4.out.1).mono ?_
          rintro e w10 ⟨rfl, hb⟩
          have T10 := hid (T9.out.bel hb)
          have K10 := hid (rangeBel2 hb K9.out)
          have R10 := hid (R9.out.bel hb)
          have V10 := hid (V9.out.bel hb)
          have W10 := hid (W9.out.trans (hb.mono W9.out.size))
          have O10 := hid (O9.out.bel hb)
          have D10 := hid (D9.out.bel hb)
          have a10 := hid (a9.out.bel hb)
          have b10 := hid (b9.out.bel hb)
          have E10 := hid (E9.out.bel hb)
          have l10 := hid (l9.out.bel hb)
          have x10 := hid (x9.out.bel hb)
          have y10 := hid (y9.out.bel hb)
          have G10 := hid (G9.out.bel hb)
          have m10 := hid (m9.out.bel hb)
          clear T9 K9 R9 V9 W9 O9 D9 a9 b9 E9 l9 x9 y9 G9 m9
          clear hb
          go_wp2_with (first
            | ((with_reducible refine wpList_load_rng ?_ 24 (.tmp 12) rfl w7.heap.size 0 rfl [Value.slice A7 nc.length c7, .int .i64 rc] _ ?_ hut rfl hiC.out ?_); rfl; exact G10.out.all)
            | ((with_reducible refine wpList_load_rng ?_ 24 (.tmp 3) rfl w.heap.size 0 rfl [Value.slice A0 ns.length c0, .int .i64 root] _ ?_ hut rfl hiT.out ?_); rfl; exact T10.out.all))
          refine (hGC.out (by first | trivial | rfl) _ _ _ A7 A0 A9 c7 c0 c9 _ y10.out R10.out m10.out p7.out.1).mono ?_
          rintro e w11 ⟨rfl, hb⟩
          have T11 := hid (T10.out.bel hb)
          have K11 := hid (rangeBel2 hb K10.out)
          have R11 := hid (R10.out.bel hb)
          have V11 := hid (V10.out.bel hb)
          have W11 := hid (W10.out.trans (hb.mono W10.out.size))
          have O11 := hid (O10.out.bel hb)
          have D11 := hid (D10.out.bel hb)
          have a11 := hid (a10.out.bel hb)
          have b11 := hid (b10.out.bel hb)
          have E11 := hid (E10.out.bel hb)
          have l11 := hid (l10.out.bel hb)
          have x11 := hid (x10.out.bel hb)
          have y11 := hid (y10.out.bel hb)
          have G11 := hid (G10.out.bel hb)
          have m11 := hid (m10.out.bel hb)
          clear T10 K10 R10 V10 W10 O10 D10 a10 b10 E10 l10 x10 y10 G10 m10
          clear hb
          go_wp2_with (first
            | ((with_reducible refine wpList_load_rng ?_ 24 (.tmp 8) rfl w4.heap.size 0 rfl [Value.slice A4 na.length c4, .int .i64 ra] _ ?_ hut rfl hiA.out ?_); rfl; exact E11.out.all))
          refine (spoil6_held _ _ A4 c4 na ra _ a11.out (by omega)).mono ?_
          rintro e wa ⟨rfl, hch⟩
          have q1 := hid (range_chg hch T11.out.all (.inl (by have := s02.out; have := X3.out.size; omega)))
          have q2 := hid (range_chg hch D11.out.all (.inl (by have := lt3.out; omega)))
          have q3 := hid (range_chg hch G11.out.all (.inr (by have := X5.out.size; have := s56.out; have := s67.out; omega)))
          have q4 := hid (Row.chgLow R11.out hch (by have := s02.out; have := X3.out.size; omega))
          have q5 := hid (Row.chgLow O11.out hch (by have := X3.out.size; omega))
          have q6 := hid (x11.out.chg hch (.inr (by have := X5.out.size; have := s56.out; omega)))
          have q7 := hid (W11.out.trans (Chg.below hch W11.out.size (fun b h1 h2 => by have := s02.out; have := X3.out.size; omega)))
          clear hch
          go_wp2_with (first
            | ((with_reducible refine wpList_load_rng rfl 24 (.tmp 12) rfl w7.heap.size 0 rfl [Value.slice A7 nc.length c7, .int .i64 rc] _ ?_ hut rfl hiC.out ?_); exact q3.out))
          refine (spoil6_held _ _ A7 c7 nc rc _ q6.out (by omega)).mono ?_
          rintro e wb ⟨rfl, hch⟩
          have u1 := hid (range_chg hch q1.out (.inl (by have := s02.out; have := X3.out.size; have := s34.out; have := X5.out.size; have := s56.out; omega)))
          have u2 := hid (range_chg hch q2.out (.inl (by have := lt3.out; have := s34.out; have := X5.out.size; have := s56.out; omega)))
          have u4 := hid (Row.chgLow q4.out hch (by have := s02.out; have := X3.out.size; have := s34.out; have := X5.out.size; have := s56.out; omega))
          have u5 := hid (Row.chgLow q5.out hch (by have := X3.out.size; have := s34.out; have := X5.out.size; have := s56.out; omega))
          have u7 := hid (q7.out.trans (Chg.below hch q7.out.size (fun b h1 h2 => by have := s02.out; have := X3.out.size; have := s34.out; have := X5.out.size; have := s56.out; omega)))
          clear hch
          go_wp2_with (first
            | ((with_reducible refine wpList_load_rng rfl 24 (.tmp 7) rfl w2.heap.size 0 rfl [Value.slice A2 ns.length c2, .int .i64 root] _ ?_ hut rfl hiO.out ?_); exact u2.out)
            | ((with_reducible refine wpList_load_rng rfl 24 (.tmp 3) rfl w.heap.size 0 rfl [Value.slice A0 ns.length c0, .int .i64 root] _ ?_ hut rfl hiT.out ?_); exact u1.out))
          refine (hSm.out _ _ A2 A0 c2 c0 _ u5.out u4.out).mono ?_
          rintro e wc ⟨rfl, hb⟩
          go_wp2
          go_ret
          exact ⟨rfl, u7.out.trans (hb.mono u7.out.size)⟩
      · as_aux_lemma =>
          subst h1
          have g2 : (z2 == 0) = false := beq_eq_false_iff_ne.2 h2
          go_wp2_with (first
            | ((with_reducible refine wpList_load_rng ?_ 24 (.tmp 8) rfl w4.heap.size 0 rfl [Value.slice A4 na.length c4, .int .i64 ra] _ ?_ hut rfl hiA.out ?_); rfl; exact E9.out.all)
            | ((with_reducible refine wpList_load_rng ?_ 24 (.tmp 3) rfl w.heap.size 0 rfl [Value.slice A0 ns.length c0, .int .i64 root] _ ?_ hut rfl hiT.out ?_); rfl; exact T9.out.all))
          refine (hGA.out (by first | trivial | rfl) _ _ _ A4 A0 A6 c4 c0 c6 _ b9.out R9.out l9.out p4.out.1).mono ?_
          rintro e w10 ⟨rfl, hb⟩
          have T10 := hid (T9.out.bel hb)
          have K10 := hid (rangeBel2 hb K9.out)
          have R10 := hid (R9.out.bel hb)
          have V10 := hid (V9.out.bel hb)
          have W10 := hid (W9.out.trans (hb.mono W9.out.size))
          have O10 := hid (O9.out.bel hb)
          have D10 := hid (D9.out.bel hb)
          have a10 := hid (a9.out.bel hb)
          have b10 := hid (b9.out.bel hb)
          have E10 := hid (E9.out.bel hb)
          have l10 := hid (l9.out.bel hb)
          have x10 := hid (x9.out.bel hb)
          have y10 := hid (y9.out.bel hb)
          have G10 := hid (G9.out.bel hb)
          have m10 := hid (m9.out.bel hb)
          clear T9 K9 R9 V9 W9 O9 D9 a9 b9 E9 l9 x9 y9 G9 m9
          clear hb
          go_wp2_with (first
            | ((with_reducible refine wpList_load_rng ?_ 24 (.tmp 8) rfl w4.heap.size 0 rfl [Value.slice A4 na.length c4, .int .i64 ra] _ ?_ hut rfl hiA.out ?_); rfl; exact E10.out.all))
          refine (spoil6_held _ _ A4 c4 na ra _ a10.out (by omega)).mono ?_
          rintro e wa ⟨rfl, hch⟩
          have q1 := hid (range_chg hch T10.out.all (.inl (by have := s02.out; have := X3.out.size; omega)))
          have q2 := hid (range_chg hch D10.out.all (.inl (by have := lt3.out; omega)))
          have q3 := hid (range_chg hch G10.out.all (.inr (by have := X5.out.size; have := s56.out; have := s67.out; omega)))
          have q4 := hid (Row.chgLow R10.out hch (by have := s02.out; have := X3.out.size; omega))
          have q5 := hid (Row.chgLow O10.out hch (by have := X3.out.size; omega))
          have q6 := hid (x10.out.chg hch (.inr (by have := X5.out.size; have := s56.out; omega)))
          have q7 := hid (W10.out.trans (Chg.below hch W10.out.size (fun b h1 h2 => by have := s02.out; have := X3.out.size; omega)))
          clear hch
          go_wp2_with (first
            | ((with_reducible refine wpList_load_rng rfl 24 (.tmp 12) rfl w7.heap.size 0 rfl [Value.slice A7 nc.length c7, .int .i64 rc] _ ?_ hut rfl hiC.out ?_); exact q3.out))
          refine (spoil6_held _ _ A7 c7 nc rc _ q6.out (by omega)).mono ?_
          rintro e wb ⟨rfl, hch⟩
          have u1 := hid (range_chg hch q1.out (.inl (by have := s02.out; have := X3.out.size; have := s34.out; have := X5.out.size; have := s56.out; omega)))
          have u2 := hid (range_chg hch q2.out (.inl (by have := lt3.out; have := s34.out; have := X5.out.size; have := s56.out; omega)))
          have u4 := hid (Row.chgLow q4.out hch (by have := s02.out; have := X3.out.size; have := s34.out; have := X5.out.size; have := s56.out; omega))
          have u5 := hid (Row.chgLow q5.out hch (by have := X3.out.size; have := s34.out; have := X5.out.size; have := s56.out; omega))
          have u7 := hid (q7.out.trans (Chg.below hch q7.out.size (fun b h1 h2 => by have := s02.out; have := X3.out.size; have := s34.out; have := X5.out.size; have := s56.out; omega)))
          clear hch
          go_wp2_with (first
            | ((with_reducible refine wpList_load_rng rfl 24 (.tmp 7) rfl w2.heap.size 0 rfl [Value.slice A2 ns.length c2, .int .i64 root] _ ?_ hut rfl hiO.out ?_); exact u2.out)
            | ((with_reducible refine wpList_load_rng rfl 24 (.tmp 3) rfl w.heap.size 0 rfl [Value.slice A0 ns.length c0, .int .i64 root] _ ?_ hut rfl hiT.out ?_); exact u1.out))
          refine (hSm.out _ _ A2 A0 c2 c0 _ u5.out u4.out).mono ?_
          rintro e wc ⟨rfl, hb⟩
          go_wp2
          go_ret
          exact ⟨rfl, u7.out.trans (hb.mono u7.out.size)⟩
    · by_cases h2 : z2 = 0
      · as_aux_lemma =>
          have g1 : (z1 == 0) = false := beq_eq_false_iff_ne.2 h1
          subst h2
          go_wp2_with (first
            | ((with_reducible refine wpList_load_rng ?_ 24 (.tmp 12) rfl w7.heap.size 0 rfl [Value.slice A7 nc.length c7, .int .i64 rc] _ ?_ hut rfl hiC.out ?_); rfl; exact G9.out.all)
            | ((with_reducible refine wpList_load_rng ?_ 24 (.tmp 3) rfl w.heap.size 0 rfl [Value.slice A0 ns.length c0, .int .i64 root] _ ?_ hut rfl hiT.out ?_); rfl; exact T9.out.all))
          refine (hGC.out (by first | trivial | rfl) _ _ _ A7 A0 A9 c7 c0 c9 _ y9.out R9.out m9.out p7.out.1).mono ?_
          rintro e w11 ⟨rfl, hb⟩
          have T11 := hid (T9.out.bel hb)
          have K11 := hid (rangeBel2 hb K9.out)
          have R11 := hid (R9.out.bel hb)
          have V11 := hid (V9.out.bel hb)
          have W11 := hid (W9.out.trans (hb.mono W9.out.size))
          have O11 := hid (O9.out.bel hb)
          have D11 := hid (D9.out.bel hb)
          have a11 := hid (a9.out.bel hb)
          have b11 := hid (b9.out.bel hb)
          have E11 := hid (E9.out.bel hb)
          have l11 := hid (l9.out.bel hb)
          have x11 := hid (x9.out.bel hb)
          have y11 := hid (y9.out.bel hb)
          have G11 := hid (G9.out.bel hb)
          have m11 := hid (m9.out.bel hb)
          clear T9 K9 R9 V9 W9 O9 D9 a9 b9 E9 l9 x9 y9 G9 m9
          clear hb
          go_wp2_with (first
            | ((with_reducible refine wpList_load_rng ?_ 24 (.tmp 8) rfl w4.heap.size 0 rfl [Value.slice A4 na.length c4, .int .i64 ra] _ ?_ hut rfl hiA.out ?_); rfl; exact E11.out.all))
          refine (spoil6_held _ _ A4 c4 na ra _ a11.out (by omega)).mono ?_
          rintro e wa ⟨rfl, hch⟩
          have q1 := hid (range_chg hch T11.out.all (.inl (by have := s02.out; have := X3.out.size; omega)))
          have q2 := hid (range_chg hch D11.out.all (.inl (by have := lt3.out; omega)))
          have q3 := hid (range_chg hch G11.out.all (.inr (by have := X5.out.size; have := s56.out; have := s67.out; omega)))
          have q4 := hid (Row.chgLow R11.out hch (by have := s02.out; have := X3.out.size; omega))
          have q5 := hid (Row.chgLow O11.out hch (by have := X3.out.size; omega))
          have q6 := hid (x11.out.chg hch (.inr (by have := X5.out.size; have := s56.out; omega)))
          have q7 := hid (W11.out.trans (Chg.below hch W11.out.size (fun b h1 h2 => by have := s02.out; have := X3.out.size; omega)))
          clear hch
          go_wp2_with (first
            | ((with_reducible refine wpList_load_rng rfl 24 (.tmp 12) rfl w7.heap.size 0 rfl [Value.slice A7 nc.length c7, .int .i64 rc] _ ?_ hut rfl hiC.out ?_); exact q3.out))
          refine (spoil6_held _ _ A7 c7 nc rc _ q6.out (by omega)).mono ?_
          rintro e wb ⟨rfl, hch⟩
          have u1 := hid (range_chg hch q1.out (.inl (by have := s02.out; have := X3.out.size; have := s34.out; have := X5.out.size; have := s56.out; omega)))
          have u2 := hid (range_chg hch q2.out (.inl (by have := lt3.out; have := s34.out; have := X5.out.size; have := s56.out; omega)))
          have u4 := hid (Row.chgLow q4.out hch (by have := s02.out; have := X3.out.size; have := s34.out; have := X5.out.size; have := s56.out; omega))
          have u5 := hid (Row.chgLow q5.out hch (by have := X3.out.size; have := s34.out; have := X5.out.size; have := s56.out; omega))
          have u7 := hid (q7.out.trans (Chg.below hch q7.out.size (fun b h1 h2 => by have := s02.out; have := X3.out.size; have := s34.out; have := X5.out.size; have := s56.out; omega)))
          clear hch
          go_wp2_with (first
            | ((with_reducible refine wpList_load_rng rfl 24 (.tmp 7) rfl w2.heap.size 0 rfl [Value.slice A2 ns.length c2, .int .i64 root] _ ?_ hut rfl hiO.out ?_); exact u2.out)
            | ((with_reducible refine wpList_load_rng rfl 24 (.tmp 3) rfl w.heap.size 0 rfl [Value.slice A0 ns.length c0, .int .i64 root] _ ?_ hut rfl hiT.out ?_); exact u1.out))
          refine (hSm.out _ _ A2 A0 c2 c0 _ u5.out u4.out).mono ?_
          rintro e wc ⟨rfl, hb⟩
          go_wp2
          go_ret
          exact ⟨rfl, u7.out.trans (hb.mono u7.out.size)⟩
      · as_aux_lemma =>
          have g1 : (z1 == 0) = false := beq_eq_false_iff_ne.2 h1
          have g2 : (z2 == 0) = false := beq_eq_false_iff_ne.2 h2
          go_wp2_with (first
            | ((with_reducible refine wpList_load_rng ?_ 24 (.tmp 8) rfl w4.heap.size 0 rfl [Value.slice A4 na.length c4, .int .i64 ra] _ ?_ hut rfl hiA.out ?_); rfl; exact E9.out.all))
          refine (spoil6_held _ _ A4 c4 na ra _ a9.out (by omega)).mono ?_
          rintro e wa ⟨rfl, hch⟩
          have q1 := hid (range_chg hch T9.out.all (.inl (by have := s02.out; have := X3.out.size; omega)))
          have q2 := hid (range_chg hch D9.out.all (.inl (by have := lt3.out; omega)))
          have q3 := hid (range_chg hch G9.out.all (.inr (by have := X5.out.size; have := s56.out; have := s67.out; omega)))
          have q4 := hid (Row.chgLow R9.out hch (by have := s02.out; have := X3.out.size; omega))
          have q5 := hid (Row.chgLow O9.out hch (by have := X3.out.size; omega))
          have q6 := hid (x9.out.chg hch (.inr (by have := X5.out.size; have := s56.out; omega)))
          have q7 := hid (W9.out.trans (Chg.below hch W9.out.size (fun b h1 h2 => by have := s02.out; have := X3.out.size; omega)))
          clear hch
          go_wp2_with (first
            | ((with_reducible refine wpList_load_rng rfl 24 (.tmp 12) rfl w7.heap.size 0 rfl [Value.slice A7 nc.length c7, .int .i64 rc] _ ?_ hut rfl hiC.out ?_); exact q3.out))
          refine (spoil6_held _ _ A7 c7 nc rc _ q6.out (by omega)).mono ?_
          rintro e wb ⟨rfl, hch⟩
          have u1 := hid (range_chg hch q1.out (.inl (by have := s02.out; have := X3.out.size; have := s34.out; have := X5.out.size; have := s56.out; omega)))
          have u2 := hid (range_chg hch q2.out (.inl (by have := lt3.out; have := s34.out; have := X5.out.size; have := s56.out; omega)))
          have u4 := hid (Row.chgLow q4.out hch (by have := s02.out; have := X3.out.size; have := s34.out; have := X5.out.size; have := s56.out; omega))
          have u5 := hid (Row.chgLow q5.out hch (by have := X3.out.size; have := s34.out; have := X5.out.size; have := s56.out; omega))
          have u7 := hid (q7.out.trans (Chg.below hch q7.out.size (fun b h1 h2 => by have := s02.out; have := X3.out.size; have := s34.out; have := X5.out.size; have := s56.out; omega)))
          clear hch
          go_wp2_with (first
            | ((with_reducible refine wpList_load_rng rfl 24 (.tmp 7) rfl w2.heap.size 0 rfl [Value.slice A2 ns.length c2, .int .i64 root] _ ?_ hut rfl hiO.out ?_); exact u2.out)
            | ((with_reducible refine wpList_load_rng rfl 24 (.tmp 3) rfl w.heap.size 0 rfl [Value.slice A0 ns.length c0, .int .i64 root] _ ?_ hut rfl hiT.out ?_); exact u1.out))
          refine (hSm.out _ _ A2 A0 c2 c0 _ u5.out u4.out).mono ?_
          rintro e wc ⟨rfl, hb⟩
          go_wp2
          go_ret
          exact ⟨rfl, u7.out.trans (hb.mono u7.out.size)⟩

/-! ### THE ROW's STEP: WRITTEN OUT: LEAVE IT -/
set_option maxRecDepth 100000 in
theorem lifted (os : Os) (started : os.Started) (H : Type) (enc : TypeId × Value → H) :
    ReturnsInHanded {} Try.checked os 3 .any (Rows.treeDoesSpec.pre6 enc Try.prog Try.f3 Rows.treeDoesRow.domain false) (Rows.treeDoesSpec.post enc Try.prog Try.f3 false true false false) := by
  refine returnsInHanded_of_change (C := Try.checked) own started (by kernel_rfl) Try.func3
    (ChangeSpec.witness6 (enc := enc) (C := Try.checked) false ⟨#[], #[.agg #[.slice none 0 0, .int .i64 0], .agg z32, .slice none 0 0], []⟩ 8 (by kernel_rfl) (by kernel_rfl) (by kernel_rfl) (by kernel_rfl)) ?_
  intro W base args ds gs before hval0 hW hcnd _
  have hval : ∀ (j : Nat) t v, Try.f3.params[j]? = some t → args[j]? = some v → Value.okWide Try.prog W .any base t v := hval0
  have hW' := hW
  obtain ⟨p, q, hA0, hV, rfl, hfz, hnd⟩ := hW
  have hA : DataW.TrodAll enc Try.prog W 0 (fun _ => true) true Try.f3.params.toList args.toList ds p := hA0
  rw [Try.params3] at hA hval
  obtain ⟨v0, vs0, d0, ds0, p0, q0, hargs, rfl, rfl, h0, r0⟩ := trodAll_cons hA
  obtain ⟨v1, vs1, d1, ds1, p1, q1, rfl, rfl, rfl, h1, r1⟩ := trodAll_cons r0
  obtain ⟨v2, vs2, d2, ds2, p2, q2, rfl, rfl, rfl, h2, r2⟩ := trodAll_cons r1
  obtain ⟨rfl, rfl, rfl⟩ := trodAll_nil r2
  obtain rfl : args = #[v0, v1, v2] := by cases args; simp_all
  obtain ⟨rfl, rfl⟩ := trodVars_none hV
  have k0 := h0
  have lt0 : ∀ x ∈ p0, x.block < W.heap.size := by obtain ⟨m, hm⟩ := k0; exact DataW.trod_lt m _ _ _ hm
  obtain ⟨x0, vs0, rfl, w0⟩ := open_struct opensTr Try.underlying24 (hval 0 24 v0 rfl rfl) h0
  have k1 := h1
  have lt1 : ∀ x ∈ p1, x.block < W.heap.size := by obtain ⟨m, hm⟩ := k1; exact DataW.trod_lt m _ _ _ hm
  obtain ⟨l1, w1, rfl⟩ := open_dig Try.underlying26 Try.underlying5 cellsByte cellsDig (hval 1 26 v1 rfl rfl) h1
  obtain ⟨a2, len2, cap2, rfl⟩ := okWide_slice Try.underlying27 (hval 2 27 v2 rfl rfl)
  have k2 := h2
  have lt2 : ∀ x ∈ p2, x.block < W.heap.size := by obtain ⟨m, hm⟩ := k2; exact DataW.trod_lt m _ _ _ hm
  obtain ⟨z2, w2⟩ : ∃ zs, IsRow .u8 W a2 len2 cap2 zs := by
    obtain ⟨fuel, hf⟩ := h2
    rcases open_ints Try.underlying27 Try.underlying5 (by kernel_rfl) hf with ⟨hcs, _⟩ | ⟨x, l, c, zs, hcs, _, hl, hm, hz, _, hcell, hwz⟩
    · simp [Value.cells] at hcs
      obtain ⟨rfl, rfl, rfl⟩ := hcs
      exact ⟨[], .inl ⟨rfl, rfl, rfl, rfl⟩⟩
    · simp [Value.cells] at hcs
      obtain ⟨rfl, rfl, rfl⟩ := hcs
      exact ⟨zs, .inr ⟨_, rfl, hl, hm, by simpa using hz, hcell, hwz⟩⟩
  clear hA0 hval0
  refine (walk x0 vs0 l1 a2 len2 cap2 z2 W w0 w1 w2).mono fun e W' ⟨he, bel⟩ => ?_
  subst he
  exact ⟨_, rfl, _, _, _, [], _, [], hW', trodAll_mk1 (shut_bool Try.underlying4 _), (trodAll_cons_mk (Below.trod laidOut (by kernel_rfl) (of_decide_eq_true (by kernel_rfl)) k0 bel lt0) (trodAll_cons_mk (Below.trod laidOut (by kernel_rfl) (of_decide_eq_true (by kernel_rfl)) k1 bel lt1) (trodAll_cons_mk (Below.trod laidOut (by kernel_rfl) (of_decide_eq_true (by kernel_rfl)) k2 bel lt2) trodAll_mk0))), rfl, bel.frame _, fun h => by cases h⟩

theorem over : Rows.treeDoesRow.holds Try.pinned (OpenSpec.ofChange Rows.treeDoesSpec) :=
  OpenClaim.holds_of_wide 3 Try.f3 rfl rfl rfl rfl rfl rfl rfl ⟨rfl, rfl, rfl, rfl, rfl⟩ rfl rfl rfl rfl rfl (by kernel_rfl) Try.func3 (by kernel_rfl)
    (of_decide_eq_true (by kernel_rfl)) (by unfold Func.isWrapper; first | (rw [if_pos (by decide +kernel)]; kernel_rfl) | (rw [if_neg (by decide +kernel)]; exact ⟨rfl, rfl⟩))
    (fun os started H enc _ => lifted os started H enc)

/-- ████ THE STATEMENT ████ -/
theorem proved : Rows.TreeDoesSaid := over
#print axioms proved
end Go.Proofs.Ytminmkmkaoocaaa.treeDoes
