/-
  The Go function TreeMaps returns true: what a tree stands for is a map, by which it answers: a key's value, its sum, with a value, without a key: any tree, key and value; its arguments read afterwards as before.
  Conditions: none. The frame around the walk was written by program (proof-skeleton.mjs).
-/
import Derived.Test.YtfjkcdccnbggnaaDoorRows
import Derived.Test.YtfjkcdccnbggnaaDoorDoor
import Derived.WalkKit
import Derived.ProofKit
import Derived.OpenShut
import Derived.ShutString
import Derived.ChangeOld
import Derived.Below
import Derived.Test.YtfjkcdccnbggnaaDoorRef06a
import Derived.Test.YtfjkcdccnbggnaaDoorTreeMap
import Derived.Test.YtfjkcdccnbggnaaDoorPrA
import Derived.Test.YtfjkcdccnbggnaaDoorPrR
import Derived.Test.YtfjkcdccnbggnaaDoorAlive06
import Derived.Test.YtfjkcdccnbggnaaDoorTreeB
namespace Go.Proofs.YtfjkcdccnbggnaaDoor.treeMaps
open Go.ChangeShapes Go.WideShapes Go.ChangeAt Go.RowKit
open Go.ChangeMaps (open_string shut_string)
set_option linter.unusedVariables false

theorem own : ownKnob Tryd.prog.godebug = none := by kernel_rfl
theorem laidOut : laidOutB Tryd.prog = true := by kernel_rfl

/-- WHAT THE WALK IS TOLD OF A SLICE OF INTEGERS THAT CAME IN: it is nil; or it leads to a row of 'cap' cells, the numbers 'zs' (the first 'len' are its elements, the rest its spare room), each fitting its kind. -/
def IsRow (k : IntKind) (w : World) (a : Option Addr) (len cap : Nat) (zs : List Int) : Prop :=
  (a = none ∧ len = 0 ∧ cap = 0 ∧ zs = []) ∨
  ∃ x, a = some x ∧ len ≤ cap ∧ cap ≤ maxLen ∧ zs.length = cap ∧ (∀ i, i < zs.length → w.cell? (x.add i) = some (.int k (zs.getD i 0))) ∧ ∀ n ∈ zs, (Lit.int k n).wf = true

/-! ### the walk -/
open Go.Proofs.YtfjkcdccnbggnaaDoor
set_option linter.unusedSimpArgs false
set_option maxRecDepth 100000 in
set_option maxHeartbeats 16000000 in
theorem walk (x0 : Tr) (vs0 : List Value) (l1 : List UInt8) (a2 : Option Addr) (len2 cap2 : Nat) (z2 : List Int) (w : World) (w0 : Enc.rep (fun b => b < w.heap.size) w x0 vs0) (w1 : l1.length = 32) (w2 : IsRow .u8 w a2 len2 cap2 z2) (hT : Tab w) :
    Calls Tryd.prog 6 #[.agg vs0.toArray, .agg (l1.map bv).toArray, .slice a2 len2 cap2] w fun e w' => e = .returned (.bool true) ∧ Below w.heap.size w w' := by
  obtain ⟨A0, c0, rfl, hc0, hm0, hr, hI⟩ := rep_tr w0
  obtain ⟨ns, root⟩ := x0
  obtain ⟨k, rfl⟩ : ∃ k : Dg, l1 = k.1 := ⟨⟨l1, w1⟩, rfl⟩
  obtain ⟨v, rfl, hv, hvd, hdm⟩ := rd_of_row w2
  dsimp only at *
  have hcm : ns.length ≤ 9223372036854775807 := by unfold maxLen at hm0; omega
  have hvl : v.length ≤ 9223372036854775807 := by unfold maxLen at hdm; omega
  obtain ⟨T0, K0, W0⟩ := boxesTDp w A0 ns.length c0 root k 44 23
  have hu := Tryd.underlying23
  have hut := Tryd.underlying44
  have hi := hid (sizeDgT k)
  have hiT := hid (show (Tryd.prog.info? 44).map (·.size) = some ([Value.slice A0 ns.length c0, .int .i64 root]).length from sizeTr)
  have R0 := hid (hr.bel W0)
  have V0 := hid (hv.bel W0)
  have H0 := hid (hT.bel W0 hT.low)
  have hlow := hid hT.low
  obtain ⟨gb, hgb⟩ : ∃ gb, greatT ns 600 = gb := ⟨_, rfl⟩
  have hGr := fun W hW => RGreatT_any (fun b => b < w.heap.size) A0 c0 600 ns root W hW hcm
  rw [hgb] at hGr
  replace hGr := hid hGr
  replace hgb := hid hgb
  have hAl := hid (fun W hTW => alive6_any W hTW)
  replace T0 := hid T0
  replace K0 := hid K0
  replace W0 := hid W0
  clear hr hv w0 w1 w2 hI hT
  generalize hdk : k.1.map bv = dk at *
  replace hdk := hid hdk
  go_enter Tryd.func6, Tryd.ntmps6
  go_wp2_with fail
  generalize (w.alloc (.cells #[.slice A0 ns.length c0, .int .i64 root] 44)).alloc (.cells dk.toArray 23) = w0 at *
  refine (hAl.out _ H0.out).mono ?_
  rintro e w1 ⟨rfl, hb⟩
  have T1 := hid (T0.out.bel hb)
  have K1 := hid (rangeBel2 hb K0.out)
  have R1 := hid (R0.out.bel hb)
  have V1 := hid (V0.out.bel hb)
  have H1 := hid (H0.out.bel hb (Nat.lt_of_lt_of_le hlow.out W0.out.size))
  have W1 := hid (W0.out.trans (hb.mono W0.out.size))
  clear T0 K0 R0 V0 H0 W0
  clear hb hAl
  go_wp2_with (first
    | ((with_reducible refine wpList_load_rng rfl 44 (.tmp 3) rfl w.heap.size 0 rfl [Value.slice A0 ns.length c0, .int .i64 root] _ ?_ hut rfl hiT.out ?_); exact T1.out.all))
  refine (hGr.out _ R1.out).mono ?_
  rintro e w2 ⟨rfl, hb⟩
  have T2 := hid (T1.out.bel hb)
  have K2 := hid (rangeBel2 hb K1.out)
  have R2 := hid (R1.out.bel hb)
  have V2 := hid (V1.out.bel hb)
  have H2 := hid (H1.out.bel hb (Nat.lt_of_lt_of_le hlow.out W1.out.size))
  have W2 := hid (W1.out.trans (hb.mono W1.out.size))
  clear T1 K1 R1 V1 H1 W1
  clear hb hGr
  cases gb with
  | true =>
    go_wp2
    go_ret
    exact ⟨rfl, W2.out⟩
  | false =>
    by_cases hv100 : 100 < v.length
    · have q1 : decide ((100 : Int) < (v.length : Int)) = true := decide_eq_true (by omega)
      go_wp2
      go_ret
      exact ⟨rfl, W2.out⟩
    have q1 : decide ((100 : Int) < (v.length : Int)) = false := decide_eq_false (by omega)
    obtain ⟨hlen, -⟩ := greatT_no hgb.out
    clear hgb
    by_cases hm : mayT ⟨ns, root⟩ = true
    rotate_left
    · skip
      have hP0 : Hid (∀ (F : Nat → Prop) (A : Option Addr) (c : Nat) (W : World), Row F W A ns → Calls Tryd.prog 22 #[.agg #[.slice A ns.length c, .int .i64 root]] W fun e w' => ∃ A' c', e = .returned (.tuple #[.slice A' 0 c', .int .i64 8]) ∧ Below W.heap.size W w') := hid (fun F A c W hW => by
        have := PTPairs_any F A c ns root W hW (by omega)
        unfold pairsM at this
        rw [if_neg hm, if_neg hm] at this
        refine this.mono ?_
        rintro e w' ⟨A', c', rfl, _, hb⟩
        exact ⟨A', c', rfl, hb⟩)
      have hC0 := fun F A c W hW => PTCheck_any F A c ns root W hW hcm
      rw [if_neg hm] at hC0
      replace hC0 := hid hC0
      go_wp2_with (first
        | ((with_reducible refine wpList_load_rng rfl 44 (.tmp 3) rfl w.heap.size 0 rfl [Value.slice A0 ns.length c0, .int .i64 root] _ ?_ hut rfl hiT.out ?_); exact T2.out.all))
      refine (hP0.out _ A0 c0 _ R2.out).mono ?_
      rintro e w3 ⟨ad3, c3, rfl, hb⟩
      have T3 := hid (T2.out.bel hb)
      have K3 := hid (rangeBel2 hb K2.out)
      have R3 := hid (R2.out.bel hb)
      have V3 := hid (V2.out.bel hb)
      have H3 := hid (H2.out.bel hb (Nat.lt_of_lt_of_le hlow.out W2.out.size))
      have W3 := hid (W2.out.trans (hb.mono W2.out.size))
      clear T2 K2 R2 V2 H2 W2
      clear hb hP0
      go_wp2_with (first
        | ((with_reducible refine wpList_load_rng ?_ 44 (.tmp 3) rfl w.heap.size 0 rfl [Value.slice A0 ns.length c0, .int .i64 root] _ ?_ hut rfl hiT.out ?_); rfl; exact T3.out.all))
      refine (hC0.out _ A0 c0 _ R3.out).mono ?_
      rintro e w4 ⟨rfl, hb⟩
      have T4 := hid (T3.out.bel hb)
      have K4 := hid (rangeBel2 hb K3.out)
      have R4 := hid (R3.out.bel hb)
      have V4 := hid (V3.out.bel hb)
      have H4 := hid (H3.out.bel hb (Nat.lt_of_lt_of_le hlow.out W3.out.size))
      have W4 := hid (W3.out.trans (hb.mono W3.out.size))
      clear T3 K3 R3 V3 H3 W3
      clear hb hC0
      go_wp2
      go_ret
      exact ⟨rfl, W4.out⟩
    obtain ⟨m1, ml, m2, m3, m4, m5, m6, m7, m8, m9, m10, m11⟩ := maps (k := k) (v := v) hlen hm
    have hP0 := fun F A c W hW => PTPairs_any F A c ns root W hW (by omega)
    have hS0 := fun F A c W hW hTW => PTSum_any F A c ns root W hW (by omega) hTW
    rw [if_pos hm] at hP0 hS0
    have hR := fun F A c W hW h1 h2 hT => PRoot_any F A c _ (pairsM ⟨ns, root⟩) W hW rfl (by omega) h1 h2 hT
    rw [m2, m3] at hR
    have hG := fun F A c W hW => PGetT_any F A c ns root k W hW (by omega)
    have hPG := fun F A c W hW => PGet_any F A c _ (pairsM ⟨ns, root⟩) k W hW rfl (by omega)
    rw [m4, m5] at hPG
    have hX := fun F A c W hW hV => PTPut_any F A a2 c cap2 ns root k v W hW (by omega) hV hvd hdm
    have hPX := fun F A c W hW hV h1 h2 => PPut_any F A a2 c _ _ cap2 (pairsM ⟨ns, root⟩) k v W hW rfl hV rfl hvd hdm (by omega) h1 h2
    rw [m6] at hPX
    have hZ := fun F A c W hW => PTDrop_any F A c ns root k W hW (by omega)
    have hPZ := fun F A c W hW h1 h2 => PDrop_any F A c _ (pairsM ⟨ns, root⟩) k W hW rfl (by omega) h1 h2
    rw [m7] at hPZ
    have hCk := fun F A c W hW => PCheck_any F A c _ (pairsM ⟨ns, root⟩) W hW rfl (by omega)
    rw [if_pos m1] at hCk
    have hP1 := fun F A c W hW => PTPairs_any F A c (tputT ⟨ns, root⟩ k v).ns (tputT ⟨ns, root⟩ k v).root W hW m8
    have hP2 := fun F A c W hW => PTPairs_any F A c (tdropT ⟨ns, root⟩ k).ns (tdropT ⟨ns, root⟩ k).root W hW m9
    rw [hdk.out] at hG hPG hX hPX hZ hPZ
    have hSl := fun A D c d W hW hV => Same_is A D c d (getTL ⟨ns, root⟩ k) (getTL ⟨ns, root⟩ k) true W hW hV (decide_eq_true rfl)
    have hE := fun W => eqd_is (sumM ⟨ns, root⟩) (sumM ⟨ns, root⟩) true (decide_eq_true rfl) W
    have hiS := hid (sizeDgT (sumM ⟨ns, root⟩))
    clear m1 m2 m3 m4 m5 m6 m7 m8 m9 hm
    generalize pairsM ⟨ns, root⟩ = ps at *
    generalize sumM ⟨ns, root⟩ = sm at *
    generalize getTB ⟨ns, root⟩ k = gB at *
    generalize getTL ⟨ns, root⟩ k = gL at *
    generalize tputE ⟨ns, root⟩ v = z2 at *
    generalize tdropE ⟨ns, root⟩ k = z3 at *
    generalize mPutL ps k v = mp at *
    generalize mDropL ps k = md at *
    generalize tputT ⟨ns, root⟩ k v = ta at *
    generalize tdropT ⟨ns, root⟩ k = tb at *
    obtain ⟨na, ra⟩ := ta
    obtain ⟨nb, rb⟩ := tb
    dsimp only at m10 m11 hX hZ hP1 hP2
    have hKX : z2 = 0 → (if mayT ⟨na, ra⟩ = true then (0 : Int) else 8) = 0 ∧ pairsM ⟨na, ra⟩ = mp ∧ mp.length ≤ 600 := fun h => ⟨if_pos (m10 h).1, (m10 h).2⟩
    have hKZ : z3 = 0 → (if mayT ⟨nb, rb⟩ = true then (0 : Int) else 8) = 0 ∧ pairsM ⟨nb, rb⟩ = md ∧ md.length ≤ 600 := fun h => ⟨if_pos (m11 h).1, (m11 h).2⟩
    clear m10 m11
    generalize (if mayT ⟨na, ra⟩ = true then (0 : Int) else 8) = zx at *
    generalize (if mayT ⟨nb, rb⟩ = true then (0 : Int) else 8) = zz at *
    generalize pairsM ⟨na, ra⟩ = px at *
    generalize pairsM ⟨nb, rb⟩ = pz at *
    have hSx : Hid (z2 = 0 → ∀ F G A D c d W, Row F W A px → Row G W D mp → Calls Tryd.prog 18 #[.slice A px.length c, .slice D mp.length d] W fun e w' => e = .returned (.bool true) ∧ Below W.heap.size W w') := hid (fun h F G A D c d W hW hV => by
      obtain ⟨_, rfl, hl⟩ := hKX h
      have := RSameP_any F G A D c d _ _ px px W hW hV rfl rfl (by omega) (by omega)
      rw [decide_eq_true rfl] at this
      exact this)
    have hSz : Hid (z3 = 0 → ∀ F G A D c d W, Row F W A pz → Row G W D md → Calls Tryd.prog 18 #[.slice A pz.length c, .slice D md.length d] W fun e w' => e = .returned (.bool true) ∧ Below W.heap.size W w') := hid (fun h F G A D c d W hW hV => by
      obtain ⟨_, rfl, hl⟩ := hKZ h
      have := RSameP_any F G A D c d _ _ pz pz W hW hV rfl rfl (by omega) (by omega)
      rw [decide_eq_true rfl] at this
      exact this)
    replace hKX := hid (fun h => (hKX h).1)
    replace hKZ := hid (fun h => (hKZ h).1)
    replace hP0 := hid hP0
    replace hS0 := hid hS0
    replace hR := hid hR
    replace hG := hid hG
    replace hPG := hid hPG
    replace hX := hid hX
    replace hPX := hid hPX
    replace hZ := hid hZ
    replace hPZ := hid hPZ
    replace hCk := hid hCk
    replace hP1 := hid hP1
    replace hP2 := hid hP2
    replace hSl := hid hSl
    clear hdk
    go_wp2_with (first
      | ((with_reducible refine wpList_load_rng rfl 44 (.tmp 3) rfl w.heap.size 0 rfl [Value.slice A0 ns.length c0, .int .i64 root] _ ?_ hut rfl hiT.out ?_); exact T2.out.all))
    refine (hP0.out _ A0 c0 _ R2.out).mono ?_
    rintro e w3 ⟨ad3, c3, rfl, ho, hb⟩
    have T3 := hid (T2.out.bel hb)
    have K3 := hid (rangeBel2 hb K2.out)
    have R3 := hid (R2.out.bel hb)
    have V3 := hid (V2.out.bel hb)
    have H3 := hid (H2.out.bel hb (Nat.lt_of_lt_of_le hlow.out W2.out.size))
    have W3 := hid (W2.out.trans (hb.mono W2.out.size))
    clear T2 K2 R2 V2 H2 W2
    have l3 := hid (OwnR.row ho)
    have hcap3 := hid (OwnQ.cap ho).1
    have hcmx3 := hid (show c3 ≤ 9223372036854775807 from (OwnQ.cap ho).2)
    clear hb ho hP0
    go_wp2_with (first
      | ((with_reducible refine wpList_load_rng rfl 44 (.tmp 3) rfl w.heap.size 0 rfl [Value.slice A0 ns.length c0, .int .i64 root] _ ?_ hut rfl hiT.out ?_); exact T3.out.all))
    refine (hS0.out _ A0 c0 _ R3.out H3.out).mono ?_
    rintro e w4 ⟨rfl, hb⟩
    have T4 := hid (T3.out.bel hb)
    have K4 := hid (rangeBel2 hb K3.out)
    have R4 := hid (R3.out.bel hb)
    have V4 := hid (V3.out.bel hb)
    have H4 := hid (H3.out.bel hb (Nat.lt_of_lt_of_le hlow.out W3.out.size))
    have W4 := hid (W3.out.trans (hb.mono W3.out.size))
    have l4 := hid (l3.out.bel hb)
    clear T3 K3 R3 V3 H3 W3 l3
    clear hb hS0
    have e4 := hid (heap_alloc_new w4 (.cells z32 23))
    go_wp2_with (first
      | (with_reducible refine wpList_alloc_row rfl 23 rfl z32 info32 ?_)
      | ((with_reducible refine wpList_store_row rfl 23 (.tmp 10) (.tmp 65) rfl _ _ rfl rfl 23 z32 ?_ ?_ ?_ ?_ ?_); exact e4.out; exact sizeDgA sm; exact zDg sm; exact oneDg sm; intro w5 hgS hbS hsS; have X5 := hid (xnewP rfl hbS); have Y5 := hid (rangeOf (l := sm.1.map bv) hgS); clear hgS hbS hsS; have T5 := hid (T4.out.bel X5.out); have K5 := hid (rangeBel2 X5.out K4.out); have R5 := hid (R4.out.bel X5.out); have V5 := hid (V4.out.bel X5.out); have H5 := hid (H4.out.bel X5.out (Nat.lt_of_lt_of_le hlow.out W4.out.size)); have W5 := hid (W4.out.trans (X5.out.mono W4.out.size)); have l5 := hid (l4.out.bel X5.out); clear T4 K4 R4 V4 H4 W4 l4))
    refine (hR.out _ ad3 c3 _ l5.out hcap3.out hcmx3.out H5.out).mono ?_
    rintro e w6 ⟨rfl, hb⟩
    have T6 := hid (T5.out.bel hb)
    have K6 := hid (rangeBel2 hb K5.out)
    have R6 := hid (R5.out.bel hb)
    have V6 := hid (V5.out.bel hb)
    have H6 := hid (H5.out.bel hb (Nat.lt_of_lt_of_le hlow.out W5.out.size))
    have W6 := hid (W5.out.trans (hb.mono W5.out.size))
    have l6 := hid (l5.out.bel hb)
    have Y6 := hid (rangeBel2 hb Y5.out)
    clear T5 K5 R5 V5 H5 W5 l5 Y5
    clear hb hR
    have e6 := hid (heap_alloc_new w6 (.cells z32 23))
    go_wp2_with (first
      | (with_reducible refine wpList_alloc_row rfl 23 rfl z32 info32 ?_)
      | ((with_reducible refine wpList_store_row rfl 23 (.tmp 12) (.tmp 70) rfl _ _ rfl rfl 23 z32 ?_ ?_ ?_ ?_ ?_); exact e6.out; exact sizeDgA sm; exact zDg sm; exact oneDg sm; intro w7 hgS hbS hsS; have X7 := hid (xnewP rfl hbS); have Z7 := hid (rangeOf (l := sm.1.map bv) hgS); clear hgS hbS hsS; have T7 := hid (T6.out.bel X7.out); have K7 := hid (rangeBel2 X7.out K6.out); have R7 := hid (R6.out.bel X7.out); have V7 := hid (V6.out.bel X7.out); have H7 := hid (H6.out.bel X7.out (Nat.lt_of_lt_of_le hlow.out W6.out.size)); have W7 := hid (W6.out.trans (X7.out.mono W6.out.size)); have l7 := hid (l6.out.bel X7.out); have Y7 := hid (rangeBel2 X7.out Y6.out); clear T6 K6 R6 V6 H6 W6 l6 Y6)
      | ((with_reducible refine wpList_load_rng rfl 44 (.tmp 3) rfl w.heap.size 0 rfl [Value.slice A0 ns.length c0, .int .i64 root] _ ?_ hut rfl hiT.out ?_); exact T7.out.all)
      | ((with_reducible refine wpList_load_rng rfl 23 (.tmp 4) rfl (w.heap.size + 1) 0 rfl dk _ ?_ hu rfl hi.out ?_); exact K7.out))
    refine (hG.out _ A0 c0 _ R7.out).mono ?_
    rintro e w8 ⟨ad8, c8, rfl, ho, hb⟩
    have T8 := hid (T7.out.bel hb)
    have K8 := hid (rangeBel2 hb K7.out)
    have R8 := hid (R7.out.bel hb)
    have V8 := hid (V7.out.bel hb)
    have H8 := hid (H7.out.bel hb (Nat.lt_of_lt_of_le hlow.out W7.out.size))
    have W8 := hid (W7.out.trans (hb.mono W7.out.size))
    have l8 := hid (l7.out.bel hb)
    have Y8 := hid (rangeBel2 hb Y7.out)
    have Z8 := hid (rangeBel2 hb Z7.out)
    clear T7 K7 R7 V7 H7 W7 l7 Y7 Z7
    have a8 := hid ho.rd
    clear hb ho hG
    go_wp2_with (first
      | ((with_reducible refine wpList_load_rng rfl 23 (.tmp 4) rfl (w.heap.size + 1) 0 rfl dk _ ?_ hu rfl hi.out ?_); exact K8.out))
    refine (hPG.out _ ad3 c3 _ l8.out).mono ?_
    rintro e w9 ⟨ad9, c9, rfl, ho, hb⟩
    have T9 := hid (T8.out.bel hb)
    have K9 := hid (rangeBel2 hb K8.out)
    have R9 := hid (R8.out.bel hb)
    have V9 := hid (V8.out.bel hb)
    have H9 := hid (H8.out.bel hb (Nat.lt_of_lt_of_le hlow.out W8.out.size))
    have W9 := hid (W8.out.trans (hb.mono W8.out.size))
    have l9 := hid (l8.out.bel hb)
    have Y9 := hid (rangeBel2 hb Y8.out)
    have Z9 := hid (rangeBel2 hb Z8.out)
    have a9 := hid (a8.out.bel hb)
    clear T8 K8 R8 V8 H8 W8 l8 Y8 Z8 a8
    have b9 := hid ho.rd
    clear hb ho hPG
    go_wp2_with (first
      | ((with_reducible refine wpList_load_rng rfl 44 (.tmp 3) rfl w.heap.size 0 rfl [Value.slice A0 ns.length c0, .int .i64 root] _ ?_ hut rfl hiT.out ?_); exact T9.out.all)
      | ((with_reducible refine wpList_load_rng rfl 23 (.tmp 4) rfl (w.heap.size + 1) 0 rfl dk _ ?_ hu rfl hi.out ?_); exact K9.out))
    refine (hX.out _ A0 c0 _ R9.out V9.out).mono ?_
    rintro e w10 ⟨ad10, c10, rfl, ho, hb⟩
    have T10 := hid (T9.out.bel hb)
    have K10 := hid (rangeBel2 hb K9.out)
    have R10 := hid (R9.out.bel hb)
    have V10 := hid (V9.out.bel hb)
    have H10 := hid (H9.out.bel hb (Nat.lt_of_lt_of_le hlow.out W9.out.size))
    have W10 := hid (W9.out.trans (hb.mono W9.out.size))
    have l10 := hid (l9.out.bel hb)
    have Y10 := hid (rangeBel2 hb Y9.out)
    have Z10 := hid (rangeBel2 hb Z9.out)
    have a10 := hid (a9.out.bel hb)
    have b10 := hid (b9.out.bel hb)
    clear T9 K9 R9 V9 H9 W9 l9 Y9 Z9 a9 b9
    have x10 := hid (OwnR.row ho)
    clear hb ho hX
    have e10 := hid (heap_alloc_new w10 (.cells zTrC 44))
    have hiA := hid (show (Tryd.prog.info? 44).map (·.size) = some ([Value.slice ad10 na.length c10, .int .i64 ra]).length from sizeTr)
    go_wp2_with (first
      | (with_reducible refine wpList_alloc_row rfl 44 rfl zTrC zInfoTr ?_)
      | ((with_reducible refine wpList_store_row rfl 44 (.tmp 18) (.tmp 89) rfl _ _ rfl rfl 44 zTrC ?_ ?_ ?_ ?_ ?_); exact e10.out; exact sizeTr; rfl; exact one_trP ad10 na.length c10 ra; intro w11 hgS hbS hsS; have X11 := hid (xnewP rfl hbS); have lt11 := hid (block_lt hgS); have A11 := hid (BoxT.of (rangeOf (l := [Value.slice ad10 na.length c10, .int .i64 ra]) hgS)); clear hgS hbS hsS; have T11 := hid (T10.out.bel X11.out); have K11 := hid (rangeBel2 X11.out K10.out); have R11 := hid (R10.out.bel X11.out); have V11 := hid (V10.out.bel X11.out); have H11 := hid (H10.out.bel X11.out (Nat.lt_of_lt_of_le hlow.out W10.out.size)); have W11 := hid (W10.out.trans (X11.out.mono W10.out.size)); have l11 := hid (l10.out.bel X11.out); have Y11 := hid (rangeBel2 X11.out Y10.out); have Z11 := hid (rangeBel2 X11.out Z10.out); have a11 := hid (a10.out.bel X11.out); have b11 := hid (b10.out.bel X11.out); have x11 := hid (x10.out.bel X11.out); clear T10 K10 R10 V10 H10 W10 l10 Y10 Z10 a10 b10 x10)
      | ((with_reducible refine wpList_load_rng rfl 23 (.tmp 4) rfl (w.heap.size + 1) 0 rfl dk _ ?_ hu rfl hi.out ?_); exact K11.out))
    refine (hPX.out _ ad3 c3 _ l11.out V11.out hcap3.out hcmx3.out).mono ?_
    rintro e w12 ⟨ad12, c12, rfl, ho, hb⟩
    have T12 := hid (T11.out.bel hb)
    have K12 := hid (rangeBel2 hb K11.out)
    have R12 := hid (R11.out.bel hb)
    have V12 := hid (V11.out.bel hb)
    have H12 := hid (H11.out.bel hb (Nat.lt_of_lt_of_le hlow.out W11.out.size))
    have W12 := hid (W11.out.trans (hb.mono W11.out.size))
    have l12 := hid (l11.out.bel hb)
    have Y12 := hid (rangeBel2 hb Y11.out)
    have Z12 := hid (rangeBel2 hb Z11.out)
    have a12 := hid (a11.out.bel hb)
    have b12 := hid (b11.out.bel hb)
    have x12 := hid (x11.out.bel hb)
    have A12 := hid (A11.out.bel hb)
    clear T11 K11 R11 V11 H11 W11 l11 Y11 Z11 a11 b11 x11 A11
    have y12 := hid (OwnR.row ho)
    clear hb ho hPX
    clear V12
    go_wp2_with (first
      | ((with_reducible refine wpList_load_rng rfl 44 (.tmp 3) rfl w.heap.size 0 rfl [Value.slice A0 ns.length c0, .int .i64 root] _ ?_ hut rfl hiT.out ?_); exact T12.out.all)
      | ((with_reducible refine wpList_load_rng rfl 23 (.tmp 4) rfl (w.heap.size + 1) 0 rfl dk _ ?_ hu rfl hi.out ?_); exact K12.out))
    refine (hZ.out _ A0 c0 _ R12.out).mono ?_
    rintro e w13 ⟨ad13, c13, rfl, ho, hb⟩
    have T13 := hid (T12.out.bel hb)
    have K13 := hid (rangeBel2 hb K12.out)
    have R13 := hid (R12.out.bel hb)
    have H13 := hid (H12.out.bel hb (Nat.lt_of_lt_of_le hlow.out W12.out.size))
    have W13 := hid (W12.out.trans (hb.mono W12.out.size))
    have l13 := hid (l12.out.bel hb)
    have Y13 := hid (rangeBel2 hb Y12.out)
    have Z13 := hid (rangeBel2 hb Z12.out)
    have a13 := hid (a12.out.bel hb)
    have b13 := hid (b12.out.bel hb)
    have x13 := hid (x12.out.bel hb)
    have A13 := hid (A12.out.bel hb)
    have y13 := hid (y12.out.bel hb)
    clear T12 K12 R12 H12 W12 l12 Y12 Z12 a12 b12 x12 A12 y12
    have z13 := hid (OwnR.row ho)
    clear hb ho hZ
    clear T13
    clear R13
    have e13 := hid (heap_alloc_new w13 (.cells zTrC 44))
    have hiB := hid (show (Tryd.prog.info? 44).map (·.size) = some ([Value.slice ad13 nb.length c13, .int .i64 rb]).length from sizeTr)
    go_wp2_with (first
      | (with_reducible refine wpList_alloc_row rfl 44 rfl zTrC zInfoTr ?_)
      | ((with_reducible refine wpList_store_row rfl 44 (.tmp 22) (.tmp 102) rfl _ _ rfl rfl 44 zTrC ?_ ?_ ?_ ?_ ?_); exact e13.out; exact sizeTr; rfl; exact one_trP ad13 nb.length c13 rb; intro w14 hgS hbS hsS; have X14 := hid (xnewP rfl hbS); have lt14 := hid (block_lt hgS); have B14 := hid (BoxT.of (rangeOf (l := [Value.slice ad13 nb.length c13, .int .i64 rb]) hgS)); clear hgS hbS hsS; have K14 := hid (rangeBel2 X14.out K13.out); have H14 := hid (H13.out.bel X14.out (Nat.lt_of_lt_of_le hlow.out W13.out.size)); have W14 := hid (W13.out.trans (X14.out.mono W13.out.size)); have l14 := hid (l13.out.bel X14.out); have Y14 := hid (rangeBel2 X14.out Y13.out); have Z14 := hid (rangeBel2 X14.out Z13.out); have a14 := hid (a13.out.bel X14.out); have b14 := hid (b13.out.bel X14.out); have x14 := hid (x13.out.bel X14.out); have A14 := hid (A13.out.bel X14.out); have y14 := hid (y13.out.bel X14.out); have z14 := hid (z13.out.bel X14.out); clear K13 H13 W13 l13 Y13 Z13 a13 b13 x13 A13 y13 z13)
      | ((with_reducible refine wpList_load_rng rfl 23 (.tmp 4) rfl (w.heap.size + 1) 0 rfl dk _ ?_ hu rfl hi.out ?_); exact K14.out))
    refine (hPZ.out _ ad3 c3 _ l14.out hcap3.out hcmx3.out).mono ?_
    rintro e w15 ⟨ad15, c15, rfl, ho, hb⟩
    have K15 := hid (rangeBel2 hb K14.out)
    have H15 := hid (H14.out.bel hb (Nat.lt_of_lt_of_le hlow.out W14.out.size))
    have W15 := hid (W14.out.trans (hb.mono W14.out.size))
    have l15 := hid (l14.out.bel hb)
    have Y15 := hid (rangeBel2 hb Y14.out)
    have Z15 := hid (rangeBel2 hb Z14.out)
    have a15 := hid (a14.out.bel hb)
    have b15 := hid (b14.out.bel hb)
    have x15 := hid (x14.out.bel hb)
    have A15 := hid (A14.out.bel hb)
    have y15 := hid (y14.out.bel hb)
    have z15 := hid (z14.out.bel hb)
    have B15 := hid (B14.out.bel hb)
    clear K14 H14 W14 l14 Y14 Z14 a14 b14 x14 A14 y14 z14 B14
    have u15 := hid (OwnR.row ho)
    clear hb ho hPZ
    clear K15
    go_wp2_with fail
    refine (hCk.out _ ad3 c3 _ l15.out).mono ?_
    rintro e w16 ⟨rfl, hb⟩
    have H16 := hid (H15.out.bel hb (Nat.lt_of_lt_of_le hlow.out W15.out.size))
    have W16 := hid (W15.out.trans (hb.mono W15.out.size))
    have l16 := hid (l15.out.bel hb)
    have Y16 := hid (rangeBel2 hb Y15.out)
    have Z16 := hid (rangeBel2 hb Z15.out)
    have a16 := hid (a15.out.bel hb)
    have b16 := hid (b15.out.bel hb)
    have x16 := hid (x15.out.bel hb)
    have A16 := hid (A15.out.bel hb)
    have y16 := hid (y15.out.bel hb)
    have z16 := hid (z15.out.bel hb)
    have B16 := hid (B15.out.bel hb)
    have u16 := hid (u15.out.bel hb)
    clear H15 W15 l15 Y15 Z15 a15 b15 x15 A15 y15 z15 B15 u15
    clear hb hCk
    clear l16
    have f1 : (gB != gB) = false := by simp
    have f2 : (z2 != z2) = false := by simp
    have f3 : (z3 != z3) = false := by simp
    go_wp2_with (first
      | ((with_reducible refine wpList_load_rng ?_ 23 (.tmp 10) rfl w4.heap.size 0 rfl (sm.1.map bv) _ ?_ hu rfl hiS.out ?_); rfl; exact Y16.out)
      | ((with_reducible refine wpList_load_rng ?_ 23 (.tmp 12) rfl w6.heap.size 0 rfl (sm.1.map bv) _ ?_ hu rfl hiS.out ?_); rfl; exact Z16.out))
    refine (hSl.out ad8 ad9 c8 c9 _ a16.out b16.out).mono ?_
    rintro e wq ⟨rfl, rfl⟩
    clear Y16
    clear Z16
    clear a16
    clear b16
    go_wp2_with (first
      | ((with_reducible refine wpList_load_rng rfl 44 (.tmp 18) rfl w10.heap.size 0 rfl [Value.slice ad10 na.length c10, .int .i64 ra] _ ?_ hut rfl hiA.out ?_); exact A16.out.all))
    refine (hP1.out _ ad10 c10 _ x16.out).mono ?_
    rintro e w17 ⟨ad17, c17, rfl, ho, hb⟩
    have H17 := hid (H16.out.bel hb (Nat.lt_of_lt_of_le hlow.out W16.out.size))
    have W17 := hid (W16.out.trans (hb.mono W16.out.size))
    have x17 := hid (x16.out.bel hb)
    have A17 := hid (A16.out.bel hb)
    have y17 := hid (y16.out.bel hb)
    have z17 := hid (z16.out.bel hb)
    have B17 := hid (B16.out.bel hb)
    have u17 := hid (u16.out.bel hb)
    clear H16 W16 x16 A16 y16 z16 B16 u16
    have p17 := hid (OwnR.row ho)
    clear hb ho hP1
    clear x17
    clear A17
    go_wp2_with (first
      | ((with_reducible refine wpList_load_rng rfl 44 (.tmp 22) rfl w13.heap.size 0 rfl [Value.slice ad13 nb.length c13, .int .i64 rb] _ ?_ hut rfl hiB.out ?_); exact B17.out.all))
    refine (hP2.out _ ad13 c13 _ z17.out).mono ?_
    rintro e w18 ⟨ad18, c18, rfl, ho, hb⟩
    have H18 := hid (H17.out.bel hb (Nat.lt_of_lt_of_le hlow.out W17.out.size))
    have W18 := hid (W17.out.trans (hb.mono W17.out.size))
    have y18 := hid (y17.out.bel hb)
    have z18 := hid (z17.out.bel hb)
    have B18 := hid (B17.out.bel hb)
    have u18 := hid (u17.out.bel hb)
    have p18 := hid (p17.out.bel hb)
    clear H17 W17 y17 z17 B17 u17 p17
    have q18 := hid (OwnR.row ho)
    clear hb ho hP2
    clear z18
    clear B18
    by_cases h2 : z2 = 0
    rotate_left
    · have g2 : (z2 == 0) = false := beq_eq_false_iff_ne.2 h2
      by_cases h3 : z3 = 0
      rotate_left
      · have g3 : (z3 == 0) = false := beq_eq_false_iff_ne.2 h3
        go_wp2_with fail
        go_ret
        exact ⟨rfl, W18.out⟩
      have hq := hSz.out h3
      have hz := hKZ.out h3
      subst h3 hz
      go_wp2_with fail
      refine (hq _ _ ad18 ad15 c18 c15 _ q18.out u18.out).mono ?_
      rintro e w19 ⟨rfl, hb⟩
      have H19 := hid (H18.out.bel hb (Nat.lt_of_lt_of_le hlow.out W18.out.size))
      have W19 := hid (W18.out.trans (hb.mono W18.out.size))
      have y19 := hid (y18.out.bel hb)
      have u19 := hid (u18.out.bel hb)
      have p19 := hid (p18.out.bel hb)
      have q19 := hid (q18.out.bel hb)
      clear H18 W18 y18 u18 p18 q18
      clear hb 
      go_wp2
      go_ret
      exact ⟨rfl, W19.out⟩
    have hp := hSx.out h2
    have hx := hKX.out h2
    subst h2 hx
    go_wp2_with fail
    refine (hp _ _ ad17 ad12 c17 c12 _ p18.out y18.out).mono ?_
    rintro e w19 ⟨rfl, hb⟩
    have H19 := hid (H18.out.bel hb (Nat.lt_of_lt_of_le hlow.out W18.out.size))
    have W19 := hid (W18.out.trans (hb.mono W18.out.size))
    have y19 := hid (y18.out.bel hb)
    have u19 := hid (u18.out.bel hb)
    have p19 := hid (p18.out.bel hb)
    have q19 := hid (q18.out.bel hb)
    clear H18 W18 y18 u18 p18 q18
    clear hb hp
    by_cases h3 : z3 = 0
    rotate_left
    · have g3 : (z3 == 0) = false := beq_eq_false_iff_ne.2 h3
      go_wp2_with fail
      go_ret
      exact ⟨rfl, W19.out⟩
    have hq := hSz.out h3
    have hz := hKZ.out h3
    subst h3 hz
    go_wp2_with fail
    refine (hq _ _ ad18 ad15 c18 c15 _ q19.out u19.out).mono ?_
    rintro e w20 ⟨rfl, hb⟩
    have H20 := hid (H19.out.bel hb (Nat.lt_of_lt_of_le hlow.out W19.out.size))
    have W20 := hid (W19.out.trans (hb.mono W19.out.size))
    have y20 := hid (y19.out.bel hb)
    have u20 := hid (u19.out.bel hb)
    have p20 := hid (p19.out.bel hb)
    have q20 := hid (q19.out.bel hb)
    clear H19 W19 y19 u19 p19 q19
    clear hb 
    go_wp2
    go_ret
    exact ⟨rfl, W20.out⟩

/-! ### WHAT THE WALK GIVES, FOR EVERY ARGUMENT AND EVERY WORLD THAT HOLDS THE TABLE -/
set_option maxRecDepth 100000 in
theorem contract (H : Type) (enc : TypeId × Value → H) (W : World) (base : Nat) (args : Array Value) (ds gs : List (DataW H)) (before : List MemPlace)
    (hval0 : ∀ (j : Nat) t v, Tryd.f6.params[j]? = some t → args[j]? = some v → Value.okWide Tryd.prog W .any base t v)
    (hW : DataW.Whole enc Tryd.prog Tryd.f6.params.toList Rows.treeMapsSpec.vars false W args.toList ds gs before) (hL : laidMetH Tryd.prog Rows.treeMapsRow.laid W) :
    Calls Tryd.prog 6 args W fun e W' => ∃ v, e = .returned v ∧ Rows.treeMapsSpec.post enc Tryd.prog Tryd.f6 false true false false W args v W' := by
  have hval : ∀ (j : Nat) t v, Tryd.f6.params[j]? = some t → args[j]? = some v → Value.okWide Tryd.prog W .any base t v := hval0
  have hW' := hW
  obtain ⟨p, q, hA0, hV, rfl, hfz, hnd⟩ := hW
  have hA : DataW.TrodAll enc Tryd.prog W 0 (fun _ => true) true Tryd.f6.params.toList args.toList ds p := hA0
  rw [Tryd.params6] at hA hval
  obtain ⟨v0, vs0, d0, ds0, p0, q0, hargs, rfl, rfl, h0, r0⟩ := trodAll_cons hA
  obtain ⟨v1, vs1, d1, ds1, p1, q1, rfl, rfl, rfl, h1, r1⟩ := trodAll_cons r0
  obtain ⟨v2, vs2, d2, ds2, p2, q2, rfl, rfl, rfl, h2, r2⟩ := trodAll_cons r1
  obtain ⟨rfl, rfl, rfl⟩ := trodAll_nil r2
  obtain rfl : args = #[v0, v1, v2] := by cases args; simp_all
  obtain ⟨rfl, rfl⟩ := trodVars_none hV
  have k0 := h0
  have lt0 : ∀ x ∈ p0, x.block < W.heap.size := by obtain ⟨m, hm⟩ := k0; exact DataW.trod_lt m _ _ _ hm
  obtain ⟨x0, vs0, rfl, w0⟩ := open_struct opensTr Tryd.underlying44 (hval 0 44 v0 rfl rfl) h0
  have k1 := h1
  have lt1 : ∀ x ∈ p1, x.block < W.heap.size := by obtain ⟨m, hm⟩ := k1; exact DataW.trod_lt m _ _ _ hm
  obtain ⟨l1, w1, rfl⟩ := open_dig Tryd.underlying23 Tryd.underlying5 cellsByte cellsDig (hval 1 23 v1 rfl rfl) h1
  obtain ⟨a2, len2, cap2, rfl⟩ := okWide_slice Tryd.underlying24 (hval 2 24 v2 rfl rfl)
  have k2 := h2
  have lt2 : ∀ x ∈ p2, x.block < W.heap.size := by obtain ⟨m, hm⟩ := k2; exact DataW.trod_lt m _ _ _ hm
  obtain ⟨z2, w2⟩ : ∃ zs, IsRow .u8 W a2 len2 cap2 zs := by
    obtain ⟨fuel, hf⟩ := h2
    rcases open_ints Tryd.underlying24 Tryd.underlying5 (by kernel_rfl) hf with ⟨hcs, _⟩ | ⟨x, l, c, zs, hcs, _, hl, hm, hz, _, hcell, hwz⟩
    · simp [Value.cells] at hcs
      obtain ⟨rfl, rfl, rfl⟩ := hcs
      exact ⟨[], .inl ⟨rfl, rfl, rfl, rfl⟩⟩
    · simp [Value.cells] at hcs
      obtain ⟨rfl, rfl, rfl⟩ := hcs
      exact ⟨zs, .inr ⟨_, rfl, hl, hm, by simpa using hz, hcell, hwz⟩⟩
  clear hA0 hval0
  refine (walk x0 vs0 l1 a2 len2 cap2 z2 W w0 w1 w2 (tab_of hL)).mono fun e W' ⟨he, bel⟩ => ?_
  subst he
  exact ⟨_, rfl, _, _, _, [], _, [], hW', trodAll_mk1 (shut_bool Tryd.underlying4 _), (trodAll_cons_mk (Below.trod laidOut (by kernel_rfl) (of_decide_eq_true (by kernel_rfl)) k0 bel lt0) (trodAll_cons_mk (Below.trod laidOut (by kernel_rfl) (of_decide_eq_true (by kernel_rfl)) k1 bel lt1) (trodAll_cons_mk (Below.trod laidOut (by kernel_rfl) (of_decide_eq_true (by kernel_rfl)) k2 bel lt2) trodAll_mk0))), rfl, bel.frame _, fun h => by cases h⟩

theorem laid_met (os : Os) : laidMet Tryd.prog Rows.treeMapsRow.laid ((laidWorld os).forCall (fun _ _ => 0) ⟨#[], #[.agg zTrC, .agg z32, .slice none 0 0], []⟩).memory :=
  laidMet_of_run' 8 (by kernel_rfl) (by kernel_rfl)
theorem reads (os : Os) {H : Type} (enc : TypeId × Value → H) : ∃ places, DataW.whole enc Tryd.prog ((laidWorld os).forCall (fun _ _ => 0) ⟨#[], #[.agg zTrC, .agg z32, .slice none 0 0], []⟩).memory Tryd.f6.params.toList Rows.treeMapsSpec.vars false (#[.agg zTrC, .agg z32, .slice none 0 0] : Array Value).toList 8 = some ([.agg [.nil, .lit (.int .i64 0)], .agg (List.replicate 32 (.lit (.int .u8 0))), .nil], [], places) :=
  ⟨[], by kernel_rfl⟩
set_option maxRecDepth 100000 in
theorem lifted (os : Os) (started : os.Started) (H : Type) (enc : TypeId × Value → H) (F : Stop.Interp) :
    ReturnsInHanded {} Tryd.checked os 6 .any ((OpenSpec.ofChange Rows.treeMapsSpec).preRow enc Tryd.prog Tryd.f6 Rows.treeMapsRow.domain false Rows.treeMapsRow.laid) (((OpenSpec.ofChange Rows.treeMapsSpec).at F).post enc Tryd.prog Tryd.f6 false true false false) := by
  obtain ⟨places, hx⟩ := reads os enc
  refine returnsInHanded_of_row (C := Tryd.checked) (s := OpenSpec.ofChange Rows.treeMapsSpec) own started (by kernel_rfl) Tryd.func6
    (witness_row_at (enc := enc) (C := Tryd.checked) false (laidWorld os) #[.agg zTrC, .agg z32, .slice none 0 0] rfl (by kernel_rfl) (by kernel_rfl) (by kernel_rfl)
      (OpenSpec.preRow_of_cond 8 hx (by kernel_rfl) (fun k hk => by cases hk) (by kernel_rfl) (laid_met os))) ?_
  intro W base args ds gs before hval hW _ _ _ hL _ _
  exact contract H enc W base args ds gs before hval hW hL
theorem said : Rows.TreeMapsSaid :=
  OpenClaim.holds_of_cond 6 Tryd.f6 rfl rfl rfl rfl rfl rfl rfl ⟨rfl, rfl, rfl, rfl, rfl⟩ rfl rfl rfl rfl rfl (by kernel_rfl) Tryd.func6 (by kernel_rfl)
    (of_decide_eq_true (by kernel_rfl)) (by unfold Func.isWrapper; first | (rw [if_pos (by decide +kernel)]; kernel_rfl) | (rw [if_neg (by decide +kernel)]; exact ⟨rfl, rfl⟩))
    (fun os started H enc _ F => by rw [OpenClaim.pre_eq_preRow]; exact lifted os started H enc F)
set_option maxRecDepth 100000 in
/-- No parameter wants a stand-in; the program's own looks are off: what the card asks. -/
theorem plain (f : FuncId) (fn : Func) (hf : Tryd.pinned.checked.prog.funcNamed "beadroll/beadrolllaw06.TreeMaps" = some f) (hfn : Tryd.pinned.checked.prog.funcs[f]? = some fn) :
    false = Tryd.pinned.checked.prog.looks [] ∧ ∀ (j : Nat) t, fn.params[j]? = some t → Tryd.pinned.checked.prog.wantsStandIn t = false := by
  obtain rfl : f = 6 := Option.some.inj ((show Tryd.prog.funcNamed "beadroll/beadrolllaw06.TreeMaps" = some 6 by kernel_rfl).symm.trans hf) |>.symm
  obtain rfl : fn = Tryd.f6 := (Option.some.inj (Tryd.func6.symm.trans hfn)).symm
  refine ⟨by kernel_rfl, fun j t ht => ?_⟩
  rw [Tryd.params6] at ht
  have hm := Array.mem_of_getElem? ht
  simp only [List.mem_toArray, List.mem_cons, List.not_mem_nil, or_false] at hm
  rcases hm with rfl | rfl | rfl
  all_goals first | exact (show Tryd.prog.wantsStandIn 44 = false by kernel_rfl) | exact (show Tryd.prog.wantsStandIn 23 = false by kernel_rfl) | exact (show Tryd.prog.wantsStandIn 24 = false by kernel_rfl)
set_option maxRecDepth 100000 in
/-- ████ THE CARD ████ -/
theorem proved : Rows.TreeMapsCardSaid :=
  Claim7.holds_tied_plain_at .later [] _ _ _ _ said (fun _ h => by cases h) (by kernel_rfl) (fun _ h => by cases h) treeMaps_row_tie rfl ⟨rfl, rfl⟩ (by kernel_rfl) rfl plain (by kernel_rfl)
#print axioms proved
end Go.Proofs.YtfjkcdccnbggnaaDoor.treeMaps
