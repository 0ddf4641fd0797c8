/-
  The Go function TreeTells returns true: whether a tree may be, a key's value, its versions, what it stands for, its sum, and whether two are the same, or the errors, are the document's: any two trees, a key and a root; its arguments read afterwards as before.
  Conditions: none. The frame around the walk was written by program (proof-skeleton.mjs).
-/
import Derived.Test.YtnoglodggchgpaaDoorRows
import Derived.Test.YtnoglodggchgpaaDoorDoor
import Derived.WalkKit
import Derived.ProofKit
import Derived.OpenShut
import Derived.ShutString
import Derived.ChangeOld
import Derived.Below
import Derived.Test.YtnoglodggchgpaaDoorRef06a
import Derived.Test.YtnoglodggchgpaaDoorRef06e
import Derived.Test.YtnoglodggchgpaaDoorRef06f
import Derived.Test.YtnoglodggchgpaaDoorRef06i
import Derived.Test.YtnoglodggchgpaaDoorRef06l
import Derived.Test.YtnoglodggchgpaaDoorRef06m
import Derived.Test.YtnoglodggchgpaaDoorTrB
import Derived.Test.YtnoglodggchgpaaDoorTreeLj
import Derived.Test.YtnoglodggchgpaaDoorTreeLo
import Derived.Test.YtnoglodggchgpaaDoorTreeLs
import Derived.Test.YtnoglodggchgpaaDoorTreeLt
import Derived.Test.YtnoglodggchgpaaDoorTreeMb
import Derived.Test.YtnoglodggchgpaaDoorLaw06s
import Derived.Test.YtnoglodggchgpaaDoorTreeB
namespace Go.Proofs.YtnoglodggchgpaaDoor.treeTells
open Go.ChangeShapes Go.WideShapes Go.ChangeAt Go.RowKit
open Go.ChangeMaps (open_string shut_string)
set_option linter.unusedVariables false

theorem own : ownKnob Tryd.prog.godebug = none := by kernel_rfl
theorem laidOut : laidOutB Tryd.prog = true := by kernel_rfl

/-- WHAT THE WALK IS TOLD OF A SLICE OF INTEGERS THAT CAME IN: it is nil; or it leads to a row of 'cap' cells, the numbers 'zs' (the first 'len' are its elements, the rest its spare room), each fitting its kind. -/
def IsRow (k : IntKind) (w : World) (a : Option Addr) (len cap : Nat) (zs : List Int) : Prop :=
  (a = none ∧ len = 0 ∧ cap = 0 ∧ zs = []) ∨
  ∃ x, a = some x ∧ len ≤ cap ∧ cap ≤ maxLen ∧ zs.length = cap ∧ (∀ i, i < zs.length → w.cell? (x.add i) = some (.int k (zs.getD i 0))) ∧ ∀ n ∈ zs, (Lit.int k n).wf = true

/-! ### the walk -/
open Go.Proofs.YtnoglodggchgpaaDoor
set_option linter.unusedSimpArgs false
theorem range_chg {w w' : World} {b o lo hi : Nat} {l : List Value} (hc : Chg (fun b => lo ≤ b ∧ b < hi) w w') (h : w.rangeAt b o l) (hb : b < lo ∨ hi ≤ b) : w'.rangeAt b o l := rangeAt_kept h fun hl => hc.block b hl (fun e => by omega)
theorem boxesTTK (w : World) (A D : Option Addr) (n m c d : Nat) (root r2 : Int) (k : Dg) :
    BoxT (((w.alloc (.cells #[.slice A n c, .int .i64 root] 44)).alloc (.cells #[.slice D m d, .int .i64 r2] 44)).alloc (.cells (k.1.map bv).toArray 23)) w.heap.size A n c root ∧
    BoxT (((w.alloc (.cells #[.slice A n c, .int .i64 root] 44)).alloc (.cells #[.slice D m d, .int .i64 r2] 44)).alloc (.cells (k.1.map bv).toArray 23)) (w.heap.size + 1) D m d r2 ∧
    (((w.alloc (.cells #[.slice A n c, .int .i64 root] 44)).alloc (.cells #[.slice D m d, .int .i64 r2] 44)).alloc (.cells (k.1.map bv).toArray 23)).rangeAt (w.heap.size + 1 + 1) 0 (k.1.map bv) ∧
    Below w.heap.size w (((w.alloc (.cells #[.slice A n c, .int .i64 root] 44)).alloc (.cells #[.slice D m d, .int .i64 r2] 44)).alloc (.cells (k.1.map bv).toArray 23)) := by
  obtain ⟨h1, h2, h3⟩ := boxesTwo w A D n m c d root r2
  have h4 := rangeOf (heap_alloc_new ((w.alloc (.cells #[.slice A n c, .int .i64 root] 44)).alloc (.cells #[.slice D m d, .int .i64 r2] 44)) (.cells (k.1.map bv).toArray 23))
  simp only [World.size_alloc] at h4
  exact ⟨h1.bel (ext_alloc _ _), h2.bel (ext_alloc _ _), h4, ext_trans h3 (ext_alloc _ _)⟩
theorem xnew3 {w0 w4 : World} {o : Obj} {k : Nat} (hk : k = w0.heap.size) (hb : (w0.alloc o).grownBy w4 (some k)) : Below w0.heap.size w0 w4 := xnewP hk hb
theorem pairs_vals {t : Tr} : ∀ p ∈ pairsL t, 1 ≤ p.v.length := fun p hp => by
  unfold pairsL at hp
  by_cases h : mayT t = true
  · rw [if_pos h] at hp
    have := (all_spec h).2.1 p hp
    unfold valB at this
    simp at this
    omega
  · rw [if_neg h] at hp
    simp at hp
theorem pairs_len {t : Tr} {n : Nat} (h : t.ns.length ≤ n) : (pairsL t).length ≤ n := by
  unfold pairsL
  split
  · rename_i hm
    have := (all_spec hm).2.2.1
    omega
  · simp
theorem at_len {t : Tr} {r : Int} {n : Nat} (h : t.ns.length ≤ n) : (atT t r).ns.length ≤ n := by
  unfold atT
  split
  · exact h
  · simp
set_option maxRecDepth 100000 in
set_option maxHeartbeats 16000000 in
theorem walk (x0 : Tr) (vs0 : List Value) (x1 : Tr) (vs1 : List Value) (l2 : List UInt8) (a3 : Int) (w : World) (w0 : Enc.rep (fun b => b < w.heap.size) w x0 vs0) (w1 : Enc.rep (fun b => b < w.heap.size) w x1 vs1) (w2 : l2.length = 32) (w3 : (Lit.int .i64 a3).wf = true) (hT : Tab w) :
    Calls Tryd.prog 5 #[.agg vs0.toArray, .agg vs1.toArray, .agg (l2.map bv).toArray, .int .i64 a3] w fun e w' => e = .returned (.bool true) ∧ Below w.heap.size w w' := by
  obtain ⟨A0, c0, rfl, hc0, hm0, hr, hI⟩ := rep_tr w0
  obtain ⟨ns, root⟩ := x0
  obtain ⟨D0, d0, rfl, hd0, hn0, hs, hJ⟩ := rep_tr w1
  obtain ⟨ms, r2⟩ := x1
  obtain ⟨k, rfl⟩ : ∃ k : Dg, l2 = k.1 := ⟨⟨l2, w2⟩, rfl⟩
  dsimp only at *
  have hcm : ns.length ≤ 9223372036854775807 := by unfold maxLen at hm0; omega
  have hdm : ms.length ≤ 9223372036854775807 := by unfold maxLen at hn0; omega
  obtain ⟨T0, U0, K0, W0⟩ := boxesTTK w A0 D0 ns.length ms.length c0 d0 root r2 k
  have hu := Tryd.underlying23
  have hut := Tryd.underlying44
  have hi := hid (sizeDgT k)
  have hiT := hid (show (Tryd.prog.info? 44).map (·.size) = some ([Value.slice A0 ns.length c0, .int .i64 root]).length from sizeTr)
  have hiU := hid (show (Tryd.prog.info? 44).map (·.size) = some ([Value.slice D0 ms.length d0, .int .i64 r2]).length from sizeTr)
  have R0 := hid (hr.bel W0)
  have V0 := hid (hs.bel W0)
  have H0 := hid (hT.bel W0 hT.low)
  have hlow := hid hT.low
  obtain ⟨gb, hgb⟩ : ∃ gb, greatT ns 600 = gb := ⟨_, rfl⟩
  have hGr := fun W hW => RGreatT_any (fun b => b < w.heap.size) A0 c0 600 ns root W hW hcm
  rw [hgb] at hGr
  obtain ⟨gb2, hgb2⟩ : ∃ gb, greatT ms 600 = gb := ⟨_, rfl⟩
  have hGr2 := fun W hW => RGreatT_any (fun b => b < w.heap.size) D0 d0 600 ms r2 W hW hdm
  rw [hgb2] at hGr2
  replace hGr := hid hGr
  replace hgb := hid hgb
  replace hGr2 := hid hGr2
  replace hgb2 := hid hgb2
  replace T0 := hid T0
  replace U0 := hid U0
  replace K0 := hid K0
  replace W0 := hid W0
  clear hr hs w0 w1 w3 hI hJ hT
  generalize hdk : k.1.map bv = dk at *
  replace hdk := hid hdk
  go_enter Tryd.func5, Tryd.ntmps5
  go_wp2_with (first
    | ((with_reducible refine wpList_load_rng ?_ 44 (.tmp 4) rfl w.heap.size 0 rfl [Value.slice A0 ns.length c0, .int .i64 root] _ ?_ hut rfl hiT.out ?_); rfl; exact T0.out.all))
  generalize ((w.alloc (.cells #[.slice A0 ns.length c0, .int .i64 root] 44)).alloc (.cells #[.slice D0 ms.length d0, .int .i64 r2] 44)).alloc (.cells dk.toArray 23) = w0 at *
  refine (hGr.out _ R0.out).mono ?_
  rintro e w1 ⟨rfl, hb⟩
  have T1 := hid (T0.out.bel hb)
  have U1 := hid (U0.out.bel hb)
  have K1 := hid (rangeBel2 hb K0.out)
  have R1 := hid (R0.out.bel hb)
  have V1 := hid (V0.out.bel hb)
  have H1 := hid (H0.out.bel hb (Nat.lt_of_lt_of_le hlow.out W0.out.size))
  have W1 := hid (W0.out.trans (hb.mono W0.out.size))
  clear T0 U0 K0 R0 V0 H0 W0
  clear hb hGr
  cases gb with
  | true =>
    go_wp2
    go_ret
    exact ⟨rfl, W1.out⟩
  | false =>
    go_wp2_with (first
      | ((with_reducible refine wpList_load_rng ?_ 44 (.tmp 5) rfl (w.heap.size + 1) 0 rfl [Value.slice D0 ms.length d0, .int .i64 r2] _ ?_ hut rfl hiU.out ?_); rfl; exact U1.out.all))
    refine (hGr2.out _ V1.out).mono ?_
    rintro e w2 ⟨rfl, hb⟩
    have T2 := hid (T1.out.bel hb)
    have U2 := hid (U1.out.bel hb)
    have K2 := hid (rangeBel2 hb K1.out)
    have R2 := hid (R1.out.bel hb)
    have V2 := hid (V1.out.bel hb)
    have H2 := hid (H1.out.bel hb (Nat.lt_of_lt_of_le hlow.out W1.out.size))
    have W2 := hid (W1.out.trans (hb.mono W1.out.size))
    clear T1 U1 K1 R1 V1 H1 W1
    clear hb hGr2
    cases gb2 with
    | true =>
      go_wp2
      go_ret
      exact ⟨rfl, W2.out⟩
    | false =>
      obtain ⟨hlen, hvs⟩ := greatT_no hgb.out
      obtain ⟨hlen2, -⟩ := greatT_no hgb2.out
      have hvs2 : ∀ x ∈ ns, x.v.length ≤ 1000000 := fun x hx => Nat.le_trans (hvs x hx) (by decide)
      clear hgb hgb2
      have hTw := hid (fun W hW => RTwinT_any (fun b => b < w.heap.size) A0 c0 ns root W hW (by omega) hvs2)
      have hGP := hid (fun F A c W hW => PGetT_any F A c ns root k W hW (by omega))
      have hGR := hid (fun W hW => RGetT_any (fun b => b < w.heap.size) A0 c0 ns root k W hW (by omega))
      rw [hdk.out] at hGP hGR
      have hAP := hid (fun F A c W hW => PTAt_any F A c ns root a3 W hW (by omega))
      have hAR := hid (fun W hW => RAtT_any (fun b => b < w.heap.size) A0 c0 ns root a3 W hW (by omega))
      have hPP : Hid (∀ (F : Nat → Prop) (A : Option Addr) (c : Nat) (W : World), Row F W A ns → Calls Tryd.prog 27 #[.agg #[.slice A ns.length c, .int .i64 root]] W fun e w' => ∃ A' c', e = .returned (.tuple #[.slice A' (pairsL ⟨ns, root⟩).length c', .int .i64 (codeT ⟨ns, root⟩)]) ∧ OwnR 26 w' W.heap.size A' c' (pairsL ⟨ns, root⟩) ∧ Below W.heap.size W w') := hid (fun F A c W hW => PTPairs_any F A c ns root W hW (by omega))
      have hPR := hid (fun W hW => RPairsT_any (fun b => b < w.heap.size) A0 c0 ns root W hW (by omega))
      have hSP : Hid (∀ (F : Nat → Prop) (A : Option Addr) (c : Nat) (W : World), Row F W A ns → Tab W → Calls Tryd.prog 37 #[.agg #[.slice A ns.length c, .int .i64 root]] W fun e w' => e = .returned (.tuple #[.agg ((sumT ⟨ns, root⟩).1.map bv).toArray, .int .i64 (codeT ⟨ns, root⟩)]) ∧ Below W.heap.size W w') := hid (fun F A c W hW hTW => PTSum_any F A c ns root W hW (by omega) hTW)
      have hSR := hid (fun W hW => RSumT_any (fun b => b < w.heap.size) A0 c0 ns root W hW (by omega))
      have hCP : Hid (∀ (F : Nat → Prop) (A : Option Addr) (c : Nat) (W : World), Row F W A ns → Calls Tryd.prog 28 #[.agg #[.slice A ns.length c, .int .i64 root]] W fun e w' => e = .returned (.int .i64 (codeT ⟨ns, root⟩)) ∧ Below W.heap.size W w') := hid (fun F A c W hW => PTCheck_any F A c ns root W hW (by omega))
      have hCR := hid (fun W hW => RCheckT_any (fun b => b < w.heap.size) A0 c0 ns root W hW (by omega))
      obtain ⟨sb, hsb⟩ : ∃ sb, sameT ⟨ns, root⟩ ⟨ms, r2⟩ = sb := ⟨_, rfl⟩
      have hQP := hid (fun F A c W hW hV => PSameT_is F (fun b => b < w.heap.size) A D0 c d0 ns ms root r2 sb W hW hV (by omega) (by omega) hsb)
      have hQR := hid (fun W hW hV => RSameT_is (fun b => b < w.heap.size) (fun b => b < w.heap.size) A0 D0 c0 d0 ns ms root r2 sb W hW hV (by omega) (by omega) hsb)
      have hQS := hid (fun F A c W hW hV => PSameT_is F (fun b => b < w.heap.size) A A0 c c0 ns ns root root true W hW hV (by omega) (by omega) (sameT_self _))
      have hTP := hid (fun F A c W hW => PTTwin_any F A c ns root W hW (by omega) hvs2)
      have hSm := hid (fun F G A D c d W hW hV => RSameT_eq F G A D c d ns root W hW hV (by omega))
      have hla := at_len (t := ⟨ns, root⟩) (r := a3) hlen
      have hSc := hid (fun F G A D c d W hW hV => RSameT_eq F G A D c d (atT ⟨ns, root⟩ a3).ns (atT ⟨ns, root⟩ a3).root W hW hV (by omega))
      have hpl := pairs_len (t := ⟨ns, root⟩) hlen
      have hpv := pairs_vals (t := ⟨ns, root⟩)
      have hSq := fun F G A D c d W hW hV => RSameP_any F G A D c d _ _ (pairsL ⟨ns, root⟩) (pairsL ⟨ns, root⟩) W hW hV rfl rfl (by omega) (by omega)
      rw [decide_eq_true rfl] at hSq
      replace hSq := hid hSq
      have hSl := hid (fun A D c d W hW hV => Same_is A D c d (getTL ⟨ns, root⟩ k) (getTL ⟨ns, root⟩ k) true W hW hV (decide_eq_true rfl))
      have hE := fun W => eqd_is (sumT ⟨ns, root⟩) (sumT ⟨ns, root⟩) true (decide_eq_true rfl) W
      have hiS := hid (sizeDgT (sumT ⟨ns, root⟩))
      generalize codeT ⟨ns, root⟩ = z1 at *
      generalize atE ⟨ns, root⟩ a3 = z2 at *
      generalize pairsL ⟨ns, root⟩ = ps at *
      generalize sumT ⟨ns, root⟩ = sm at *
      generalize getTL ⟨ns, root⟩ k = vl at *
      generalize getTB ⟨ns, root⟩ k = vb at *
      generalize atT ⟨ns, root⟩ a3 = ta at *
      obtain ⟨na, ra⟩ := ta
      dsimp only at hla hSc hAP hAR
      replace hvs := trivial
      replace hvs2 := trivial
      replace hpv := hid hpv
      have f1 : (z1 == z1) = true := by simp
      have f2 : (z2 == z2) = true := by simp
      have f3 : (vb == vb) = true := by simp
      have f4 : (sb == sb) = true := by simp
      go_wp2_with (first
        | ((with_reducible refine wpList_load_rng rfl 44 (.tmp 4) rfl w.heap.size 0 rfl [Value.slice A0 ns.length c0, .int .i64 root] _ ?_ hut rfl hiT.out ?_); exact T2.out.all))
      refine (hTw.out _ R2.out).mono ?_
      rintro e w3 ⟨A3, c3, rfl, ho, hb⟩
      have T3 := hid (T2.out.bel hb)
      have U3 := hid (U2.out.bel hb)
      have K3 := hid (rangeBel2 hb K2.out)
      have R3 := hid (R2.out.bel hb)
      have V3 := hid (V2.out.bel hb)
      have H3 := hid (H2.out.bel hb (Nat.lt_of_lt_of_le hlow.out W2.out.size))
      have W3 := hid (W2.out.trans (hb.mono W2.out.size))
      clear T2 U2 K2 R2 V2 H2 W2
      have O3 := hid ((OwnR.row ho).mono (G := fun b => b < w3.heap.size) fun b _ h => h)
      clear hb ho hTw
      have e3 := hid (heap_alloc_new w3 (.cells zTrC 44))
      have hiO := hid (show (Tryd.prog.info? 44).map (·.size) = some ([Value.slice A3 ns.length c3, .int .i64 root]).length from sizeTr)
      have s03 := hid U3.out.lt
      have sk3 := hid (show w.heap.size + 1 + 1 < w3.heap.size from Nat.lt_of_not_le fun hle => by
        have := K3.out 0 _ (show dk[0]? = some (bv (k.1[0]'(by rw [k.2]; decide))) by rw [← hdk.out, List.getElem?_map, List.getElem?_eq_getElem (by rw [k.2]; decide)]; rfl)
        exact absurd (World.block_lt_of_cell? _ _ this) (by simpa using hle))
      go_wp2_with (first
        | (with_reducible refine wpList_alloc_row rfl 44 rfl zTrC zInfoTr ?_)
        | ((with_reducible refine wpList_store_row rfl 44 (.tmp 9) (.tmp 37) rfl _ _ rfl rfl 44 zTrC ?_ ?_ ?_ ?_ ?_); exact e3.out; exact sizeTr; rfl; exact one_trP A3 ns.length c3 root; intro w4 hgS hbS hsS; have X4 := hid (xnew3 rfl hbS); have lt4 := hid (block_lt hgS); have D4 := hid (BoxT.of (rangeOf (l := [Value.slice A3 ns.length c3, .int .i64 root]) hgS)); clear hgS hbS hsS; have T4 := hid (T3.out.bel X4.out); have U4 := hid (U3.out.bel X4.out); have K4 := hid (rangeBel2 X4.out K3.out); have R4 := hid (R3.out.bel X4.out); have V4 := hid (V3.out.bel X4.out); have H4 := hid (H3.out.bel X4.out (Nat.lt_of_lt_of_le hlow.out W3.out.size)); have W4 := hid (W3.out.trans (X4.out.mono W3.out.size)); have O4 := hid (O3.out.bel X4.out); clear T3 U3 K3 R3 V3 H3 W3 O3)
        | ((with_reducible refine wpList_load_rng rfl 44 (.tmp 9) rfl w3.heap.size 0 rfl [Value.slice A3 ns.length c3, .int .i64 root] _ ?_ hut rfl hiO.out ?_); exact D4.out.all)
        | ((with_reducible refine wpList_load_rng rfl 23 (.tmp 6) rfl (w.heap.size + 1 + 1) 0 rfl dk _ ?_ hu rfl hi.out ?_); exact K4.out))
      refine (hGP.out _ A3 c3 _ O4.out).mono ?_
      rintro e w5 ⟨A5, c5, rfl, ho, hb⟩
      have T5 := hid (T4.out.bel hb)
      have U5 := hid (U4.out.bel hb)
      have K5 := hid (rangeBel2 hb K4.out)
      have R5 := hid (R4.out.bel hb)
      have V5 := hid (V4.out.bel hb)
      have H5 := hid (H4.out.bel hb (Nat.lt_of_lt_of_le hlow.out W4.out.size))
      have W5 := hid (W4.out.trans (hb.mono W4.out.size))
      have O5 := hid (O4.out.bel hb)
      have D5 := hid (D4.out.bel hb)
      clear T4 U4 K4 R4 V4 H4 W4 O4 D4
      have a5 := hid ho.rd
      have s45 := hid hb.size
      clear hb ho hGP
      go_wp2_with (first
        | ((with_reducible refine wpList_load_rng rfl 44 (.tmp 4) rfl w.heap.size 0 rfl [Value.slice A0 ns.length c0, .int .i64 root] _ ?_ hut rfl hiT.out ?_); exact T5.out.all)
        | ((with_reducible refine wpList_load_rng rfl 23 (.tmp 6) rfl (w.heap.size + 1 + 1) 0 rfl dk _ ?_ hu rfl hi.out ?_); exact K5.out))
      refine (hGR.out _ R5.out).mono ?_
      rintro e w6 ⟨A6, c6, rfl, ho, hb⟩
      have T6 := hid (T5.out.bel hb)
      have U6 := hid (U5.out.bel hb)
      have K6 := hid (rangeBel2 hb K5.out)
      have R6 := hid (R5.out.bel hb)
      have V6 := hid (V5.out.bel hb)
      have H6 := hid (H5.out.bel hb (Nat.lt_of_lt_of_le hlow.out W5.out.size))
      have W6 := hid (W5.out.trans (hb.mono W5.out.size))
      have O6 := hid (O5.out.bel hb)
      have D6 := hid (D5.out.bel hb)
      have a6 := hid (a5.out.bel hb)
      clear T5 U5 K5 R5 V5 H5 W5 O5 D5 a5
      have b6 := hid ho
      have s46 := hid (show w4.heap.size ≤ w6.heap.size from Nat.le_trans s45.out hb.size)
      clear hb ho hGR
      go_wp2_with (first
        | ((with_reducible refine wpList_load_rng rfl 44 (.tmp 9) rfl w3.heap.size 0 rfl [Value.slice A3 ns.length c3, .int .i64 root] _ ?_ hut rfl hiO.out ?_); exact D6.out.all))
      refine (hAP.out _ A3 c3 _ O6.out).mono ?_
      rintro e w7 ⟨A7, c7, rfl, ho, hb⟩
      have T7 := hid (T6.out.bel hb)
      have U7 := hid (U6.out.bel hb)
      have K7 := hid (rangeBel2 hb K6.out)
      have R7 := hid (R6.out.bel hb)
      have V7 := hid (V6.out.bel hb)
      have H7 := hid (H6.out.bel hb (Nat.lt_of_lt_of_le hlow.out W6.out.size))
      have W7 := hid (W6.out.trans (hb.mono W6.out.size))
      have O7 := hid (O6.out.bel hb)
      have D7 := hid (D6.out.bel hb)
      have a7 := hid (a6.out.bel hb)
      have b7 := hid (b6.out.bel hb)
      clear T6 U6 K6 R6 V6 H6 W6 O6 D6 a6 b6
      have x7 := hid (OwnR.held ho)
      have y7 := hid (OwnR.row ho)
      have s67 := hid hb.size
      clear hb ho hAP
      have e7 := hid (heap_alloc_new w7 (.cells zTrC 44))
      have hiA := hid (show (Tryd.prog.info? 44).map (·.size) = some ([Value.slice A7 na.length c7, .int .i64 ra]).length from sizeTr)
      go_wp2_with (first
        | (with_reducible refine wpList_alloc_row rfl 44 rfl zTrC zInfoTr ?_)
        | ((with_reducible refine wpList_store_row rfl 44 (.tmp 14) (.tmp 54) rfl _ _ rfl rfl 44 zTrC ?_ ?_ ?_ ?_ ?_); exact e7.out; exact sizeTr; rfl; exact one_trP A7 na.length c7 ra; intro w8 hgS hbS hsS; have X8 := hid (xnew3 rfl hbS); have lt8 := hid (block_lt hgS); have E8 := hid (BoxT.of (rangeOf (l := [Value.slice A7 na.length c7, .int .i64 ra]) hgS)); clear hgS hbS hsS; have T8 := hid (T7.out.bel X8.out); have U8 := hid (U7.out.bel X8.out); have K8 := hid (rangeBel2 X8.out K7.out); have R8 := hid (R7.out.bel X8.out); have V8 := hid (V7.out.bel X8.out); have H8 := hid (H7.out.bel X8.out (Nat.lt_of_lt_of_le hlow.out W7.out.size)); have W8 := hid (W7.out.trans (X8.out.mono W7.out.size)); have O8 := hid (O7.out.bel X8.out); have D8 := hid (D7.out.bel X8.out); have a8 := hid (a7.out.bel X8.out); have b8 := hid (b7.out.bel X8.out); have x8 := hid (x7.out.bel X8.out); have y8 := hid (y7.out.bel X8.out); clear T7 U7 K7 R7 V7 H7 W7 O7 D7 a7 b7 x7 y7)
        | ((with_reducible refine wpList_load_rng rfl 44 (.tmp 4) rfl w.heap.size 0 rfl [Value.slice A0 ns.length c0, .int .i64 root] _ ?_ hut rfl hiT.out ?_); exact T8.out.all))
      refine (hAR.out _ R8.out).mono ?_
      rintro e w9 ⟨A9, c9, rfl, ho, hb⟩
      have T9 := hid (T8.out.bel hb)
      have U9 := hid (U8.out.bel hb)
      have K9 := hid (rangeBel2 hb K8.out)
      have R9 := hid (R8.out.bel hb)
      have V9 := hid (V8.out.bel hb)
      have H9 := hid (H8.out.bel hb (Nat.lt_of_lt_of_le hlow.out W8.out.size))
      have W9 := hid (W8.out.trans (hb.mono W8.out.size))
      have O9 := hid (O8.out.bel hb)
      have D9 := hid (D8.out.bel hb)
      have a9 := hid (a8.out.bel hb)
      have b9 := hid (b8.out.bel hb)
      have x9 := hid (x8.out.bel hb)
      have y9 := hid (y8.out.bel hb)
      have E9 := hid (E8.out.bel hb)
      clear T8 U8 K8 R8 V8 H8 W8 O8 D8 a8 b8 x8 y8 E8
      have m9 := hid (OwnR.row ho)
      have s89 := hid hb.size
      clear hb ho hAR
      have e9 := hid (heap_alloc_new w9 (.cells zTrC 44))
      have hiB := hid (show (Tryd.prog.info? 44).map (·.size) = some ([Value.slice A9 na.length c9, .int .i64 ra]).length from sizeTr)
      go_wp2_with (first
        | (with_reducible refine wpList_alloc_row rfl 44 rfl zTrC zInfoTr ?_)
        | ((with_reducible refine wpList_store_row rfl 44 (.tmp 16) (.tmp 60) rfl _ _ rfl rfl 44 zTrC ?_ ?_ ?_ ?_ ?_); exact e9.out; exact sizeTr; rfl; exact one_trP A9 na.length c9 ra; intro w10 hgS hbS hsS; have X10 := hid (xnew3 rfl hbS); have G10 := hid (BoxT.of (rangeOf (l := [Value.slice A9 na.length c9, .int .i64 ra]) hgS)); clear hgS hbS hsS; have T10 := hid (T9.out.bel X10.out); have U10 := hid (U9.out.bel X10.out); have K10 := hid (rangeBel2 X10.out K9.out); have R10 := hid (R9.out.bel X10.out); have V10 := hid (V9.out.bel X10.out); have H10 := hid (H9.out.bel X10.out (Nat.lt_of_lt_of_le hlow.out W9.out.size)); have W10 := hid (W9.out.trans (X10.out.mono W9.out.size)); have O10 := hid (O9.out.bel X10.out); have D10 := hid (D9.out.bel X10.out); have a10 := hid (a9.out.bel X10.out); have b10 := hid (b9.out.bel X10.out); have x10 := hid (x9.out.bel X10.out); have y10 := hid (y9.out.bel X10.out); have E10 := hid (E9.out.bel X10.out); have m10 := hid (m9.out.bel X10.out); clear T9 U9 K9 R9 V9 H9 W9 O9 D9 a9 b9 x9 y9 E9 m9)
        | ((with_reducible refine wpList_load_rng rfl 44 (.tmp 9) rfl w3.heap.size 0 rfl [Value.slice A3 ns.length c3, .int .i64 root] _ ?_ hut rfl hiO.out ?_); exact D10.out.all))
      refine (hPP.out _ A3 c3 _ O10.out).mono ?_
      rintro e w11 ⟨A11, c11, rfl, ho, hb⟩
      have T11 := hid (T10.out.bel hb)
      have U11 := hid (U10.out.bel hb)
      have K11 := hid (rangeBel2 hb K10.out)
      have R11 := hid (R10.out.bel hb)
      have V11 := hid (V10.out.bel hb)
      have H11 := hid (H10.out.bel hb (Nat.lt_of_lt_of_le hlow.out W10.out.size))
      have W11 := hid (W10.out.trans (hb.mono W10.out.size))
      have O11 := hid (O10.out.bel hb)
      have D11 := hid (D10.out.bel hb)
      have a11 := hid (a10.out.bel hb)
      have b11 := hid (b10.out.bel hb)
      have x11 := hid (x10.out.bel hb)
      have y11 := hid (y10.out.bel hb)
      have E11 := hid (E10.out.bel hb)
      have m11 := hid (m10.out.bel hb)
      have G11 := hid (G10.out.bel hb)
      clear T10 U10 K10 R10 V10 H10 W10 O10 D10 a10 b10 x10 y10 E10 m10 G10
      have p11 := hid (OwnR.held ho)
      have q11 := hid (OwnR.row ho)
      have s1011 := hid hb.size
      clear hb ho hPP
      go_wp2_with (first
        | ((with_reducible refine wpList_load_rng rfl 44 (.tmp 4) rfl w.heap.size 0 rfl [Value.slice A0 ns.length c0, .int .i64 root] _ ?_ hut rfl hiT.out ?_); exact T11.out.all))
      refine (hPR.out _ R11.out).mono ?_
      rintro e w12 ⟨A12, c12, rfl, ho, hb⟩
      have T12 := hid (T11.out.bel hb)
      have U12 := hid (U11.out.bel hb)
      have K12 := hid (rangeBel2 hb K11.out)
      have R12 := hid (R11.out.bel hb)
      have V12 := hid (V11.out.bel hb)
      have H12 := hid (H11.out.bel hb (Nat.lt_of_lt_of_le hlow.out W11.out.size))
      have W12 := hid (W11.out.trans (hb.mono W11.out.size))
      have O12 := hid (O11.out.bel hb)
      have D12 := hid (D11.out.bel hb)
      have a12 := hid (a11.out.bel hb)
      have b12 := hid (b11.out.bel hb)
      have x12 := hid (x11.out.bel hb)
      have y12 := hid (y11.out.bel hb)
      have E12 := hid (E11.out.bel hb)
      have m12 := hid (m11.out.bel hb)
      have G12 := hid (G11.out.bel hb)
      have p12 := hid (p11.out.bel hb)
      have q12 := hid (q11.out.bel hb)
      clear T11 U11 K11 R11 V11 H11 W11 O11 D11 a11 b11 x11 y11 E11 m11 G11 p11 q11
      have u12 := hid (OwnR.row ho)
      have s1112 := hid hb.size
      clear hb ho hPR
      go_wp2_with (first
        | ((with_reducible refine wpList_load_rng rfl 44 (.tmp 9) rfl w3.heap.size 0 rfl [Value.slice A3 ns.length c3, .int .i64 root] _ ?_ hut rfl hiO.out ?_); exact D12.out.all))
      refine (hSP.out _ A3 c3 _ O12.out H12.out).mono ?_
      rintro e w13 ⟨rfl, hb⟩
      have T13 := hid (T12.out.bel hb)
      have U13 := hid (U12.out.bel hb)
      have K13 := hid (rangeBel2 hb K12.out)
      have R13 := hid (R12.out.bel hb)
      have V13 := hid (V12.out.bel hb)
      have H13 := hid (H12.out.bel hb (Nat.lt_of_lt_of_le hlow.out W12.out.size))
      have W13 := hid (W12.out.trans (hb.mono W12.out.size))
      have O13 := hid (O12.out.bel hb)
      have D13 := hid (D12.out.bel hb)
      have a13 := hid (a12.out.bel hb)
      have b13 := hid (b12.out.bel hb)
      have x13 := hid (x12.out.bel hb)
      have y13 := hid (y12.out.bel hb)
      have E13 := hid (E12.out.bel hb)
      have m13 := hid (m12.out.bel hb)
      have G13 := hid (G12.out.bel hb)
      have p13 := hid (p12.out.bel hb)
      have q13 := hid (q12.out.bel hb)
      have u13 := hid (u12.out.bel hb)
      clear T12 U12 K12 R12 V12 H12 W12 O12 D12 a12 b12 x12 y12 E12 m12 G12 p12 q12 u12
      have s1213 := hid hb.size
      clear hb hSP
      have e13 := hid (heap_alloc_new w13 (.cells z32 23))
      go_wp2_with (first
        | (with_reducible refine wpList_alloc_row rfl 23 rfl z32 info32 ?_)
        | ((with_reducible refine wpList_store_row rfl 23 (.tmp 22) (.tmp 75) rfl _ _ rfl rfl 23 z32 ?_ ?_ ?_ ?_ ?_); exact e13.out; exact sizeDgA sm; exact zDg sm; exact oneDg sm; intro w14 hgS hbS hsS; have X14 := hid (xnew3 rfl hbS); have Y14 := hid (rangeOf (l := sm.1.map bv) hgS); clear hgS hbS hsS; have T14 := hid (T13.out.bel X14.out); have U14 := hid (U13.out.bel X14.out); have K14 := hid (rangeBel2 X14.out K13.out); have R14 := hid (R13.out.bel X14.out); have V14 := hid (V13.out.bel X14.out); have H14 := hid (H13.out.bel X14.out (Nat.lt_of_lt_of_le hlow.out W13.out.size)); have W14 := hid (W13.out.trans (X14.out.mono W13.out.size)); have O14 := hid (O13.out.bel X14.out); have D14 := hid (D13.out.bel X14.out); have a14 := hid (a13.out.bel X14.out); have b14 := hid (b13.out.bel X14.out); have x14 := hid (x13.out.bel X14.out); have y14 := hid (y13.out.bel X14.out); have E14 := hid (E13.out.bel X14.out); have m14 := hid (m13.out.bel X14.out); have G14 := hid (G13.out.bel X14.out); have p14 := hid (p13.out.bel X14.out); have q14 := hid (q13.out.bel X14.out); have u14 := hid (u13.out.bel X14.out); clear T13 U13 K13 R13 V13 H13 W13 O13 D13 a13 b13 x13 y13 E13 m13 G13 p13 q13 u13)
        | ((with_reducible refine wpList_load_rng rfl 44 (.tmp 4) rfl w.heap.size 0 rfl [Value.slice A0 ns.length c0, .int .i64 root] _ ?_ hut rfl hiT.out ?_); exact T14.out.all))
      refine (hSR.out _ R14.out).mono ?_
      rintro e w15 ⟨rfl, hb⟩
      have T15 := hid (T14.out.bel hb)
      have U15 := hid (U14.out.bel hb)
      have K15 := hid (rangeBel2 hb K14.out)
      have R15 := hid (R14.out.bel hb)
      have V15 := hid (V14.out.bel hb)
      have H15 := hid (H14.out.bel hb (Nat.lt_of_lt_of_le hlow.out W14.out.size))
      have W15 := hid (W14.out.trans (hb.mono W14.out.size))
      have O15 := hid (O14.out.bel hb)
      have D15 := hid (D14.out.bel hb)
      have a15 := hid (a14.out.bel hb)
      have b15 := hid (b14.out.bel hb)
      have x15 := hid (x14.out.bel hb)
      have y15 := hid (y14.out.bel hb)
      have E15 := hid (E14.out.bel hb)
      have m15 := hid (m14.out.bel hb)
      have G15 := hid (G14.out.bel hb)
      have p15 := hid (p14.out.bel hb)
      have q15 := hid (q14.out.bel hb)
      have u15 := hid (u14.out.bel hb)
      have Y15 := hid (rangeBel2 hb Y14.out)
      clear T14 U14 K14 R14 V14 H14 W14 O14 D14 a14 b14 x14 y14 E14 m14 G14 p14 q14 u14 Y14
      have s1415 := hid hb.size
      clear hb hSR
      have e15 := hid (heap_alloc_new w15 (.cells z32 23))
      go_wp2_with (first
        | (with_reducible refine wpList_alloc_row rfl 23 rfl z32 info32 ?_)
        | ((with_reducible refine wpList_store_row rfl 23 (.tmp 24) (.tmp 80) rfl _ _ rfl rfl 23 z32 ?_ ?_ ?_ ?_ ?_); exact e15.out; exact sizeDgA sm; exact zDg sm; exact oneDg sm; intro w16 hgS hbS hsS; have X16 := hid (xnew3 rfl hbS); have Z16 := hid (rangeOf (l := sm.1.map bv) hgS); clear hgS hbS hsS; have T16 := hid (T15.out.bel X16.out); have U16 := hid (U15.out.bel X16.out); have K16 := hid (rangeBel2 X16.out K15.out); have R16 := hid (R15.out.bel X16.out); have V16 := hid (V15.out.bel X16.out); have H16 := hid (H15.out.bel X16.out (Nat.lt_of_lt_of_le hlow.out W15.out.size)); have W16 := hid (W15.out.trans (X16.out.mono W15.out.size)); have O16 := hid (O15.out.bel X16.out); have D16 := hid (D15.out.bel X16.out); have a16 := hid (a15.out.bel X16.out); have b16 := hid (b15.out.bel X16.out); have x16 := hid (x15.out.bel X16.out); have y16 := hid (y15.out.bel X16.out); have E16 := hid (E15.out.bel X16.out); have m16 := hid (m15.out.bel X16.out); have G16 := hid (G15.out.bel X16.out); have p16 := hid (p15.out.bel X16.out); have q16 := hid (q15.out.bel X16.out); have u16 := hid (u15.out.bel X16.out); have Y16 := hid (rangeBel2 X16.out Y15.out); clear T15 U15 K15 R15 V15 H15 W15 O15 D15 a15 b15 x15 y15 E15 m15 G15 p15 q15 u15 Y15))
      refine (hSl.out A5 A6 c5 c6 _ a16.out b16.out).mono ?_
      rintro e wq ⟨rfl, rfl⟩
      go_wp2_with (first
        | ((with_reducible refine wpList_load_rng ?_ 44 (.tmp 14) rfl w7.heap.size 0 rfl [Value.slice A7 na.length c7, .int .i64 ra] _ ?_ hut rfl hiA.out ?_); rfl; exact E16.out.all)
        | ((with_reducible refine wpList_load_rng ?_ 44 (.tmp 16) rfl w9.heap.size 0 rfl [Value.slice A9 na.length c9, .int .i64 ra] _ ?_ hut rfl hiB.out ?_); rfl; exact G16.out.all))
      refine (hSc.out _ _ A7 A9 c7 c9 _ y16.out m16.out).mono ?_
      rintro e w17 ⟨rfl, hb⟩
      have T17 := hid (T16.out.bel hb)
      have U17 := hid (U16.out.bel hb)
      have K17 := hid (rangeBel2 hb K16.out)
      have R17 := hid (R16.out.bel hb)
      have V17 := hid (V16.out.bel hb)
      have H17 := hid (H16.out.bel hb (Nat.lt_of_lt_of_le hlow.out W16.out.size))
      have W17 := hid (W16.out.trans (hb.mono W16.out.size))
      have O17 := hid (O16.out.bel hb)
      have D17 := hid (D16.out.bel hb)
      have a17 := hid (a16.out.bel hb)
      have b17 := hid (b16.out.bel hb)
      have x17 := hid (x16.out.bel hb)
      have y17 := hid (y16.out.bel hb)
      have E17 := hid (E16.out.bel hb)
      have m17 := hid (m16.out.bel hb)
      have G17 := hid (G16.out.bel hb)
      have p17 := hid (p16.out.bel hb)
      have q17 := hid (q16.out.bel hb)
      have u17 := hid (u16.out.bel hb)
      have Y17 := hid (rangeBel2 hb Y16.out)
      have Z17 := hid (rangeBel2 hb Z16.out)
      clear T16 U16 K16 R16 V16 H16 W16 O16 D16 a16 b16 x16 y16 E16 m16 G16 p16 q16 u16 Y16 Z16
      have s1617 := hid hb.size
      clear hb hSc
      clear a17
      clear b17
      clear m17
      clear G17
      clear y17
      go_wp2_with fail
      refine (hSq.out _ _ A11 A12 c11 c12 _ q17.out u17.out).mono ?_
      rintro e w18 ⟨rfl, hb⟩
      have T18 := hid (T17.out.bel hb)
      have U18 := hid (U17.out.bel hb)
      have K18 := hid (rangeBel2 hb K17.out)
      have R18 := hid (R17.out.bel hb)
      have V18 := hid (V17.out.bel hb)
      have H18 := hid (H17.out.bel hb (Nat.lt_of_lt_of_le hlow.out W17.out.size))
      have W18 := hid (W17.out.trans (hb.mono W17.out.size))
      have O18 := hid (O17.out.bel hb)
      have D18 := hid (D17.out.bel hb)
      have x18 := hid (x17.out.bel hb)
      have E18 := hid (E17.out.bel hb)
      have p18 := hid (p17.out.bel hb)
      have q18 := hid (q17.out.bel hb)
      have u18 := hid (u17.out.bel hb)
      have Y18 := hid (rangeBel2 hb Y17.out)
      have Z18 := hid (rangeBel2 hb Z17.out)
      clear T17 U17 K17 R17 V17 H17 W17 O17 D17 x17 E17 p17 q17 u17 Y17 Z17
      have s1718 := hid hb.size
      clear hb hSq
      clear u18
      go_wp2_with (first
        | ((with_reducible refine wpList_load_rng ?_ 23 (.tmp 22) rfl w13.heap.size 0 rfl (sm.1.map bv) _ ?_ hu rfl hiS.out ?_); rfl; exact Y18.out)
        | ((with_reducible refine wpList_load_rng ?_ 23 (.tmp 24) rfl w15.heap.size 0 rfl (sm.1.map bv) _ ?_ hu rfl hiS.out ?_); rfl; exact Z18.out))
      refine wp_region_noPanic ?_
      refine wp_region_held_drew (S := fun w' => Below w18.heap.size w18 w') (by kernel_rfl) ?_ (fun hHeld => ?_)
      · exact bel_drew w18
      refine' wpAnyH_take (i := 0) (oi := _) (v := _) rfl (by kernel_rfl) (by kernel_rfl) (by kernel_rfl) (fun _ _ _ h => h) (yieldsIf_load_mid (by rfl) _ _ rfl _ _ rfl _ _ (fun _ h => rangeBel2 h D18.out.all) hut rfl hiO.out) (by assumption) ?_
      try simp only [Act.put, List.setIfInBounds_toArray, List.set_cons_zero, List.set_cons_succ, List.getElem_toArray, List.getElem_cons_succ, List.getElem_cons_zero]
      refine' wpAnyH_take (i := 2) (oi := _) (v := _) rfl (by kernel_rfl) (by kernel_rfl) (by kernel_rfl) (fun _ _ _ h => h) (yieldsIf_load_mid (by rfl) _ _ rfl _ _ rfl _ _ (fun _ h => rangeBel2 h T18.out.all) hut rfl hiT.out) (by assumption) ?_
      try simp only [Act.put, List.setIfInBounds_toArray, List.set_cons_zero, List.set_cons_succ, List.getElem_toArray, List.getElem_cons_succ, List.getElem_cons_zero]
      refine wpAnyH_ready (rs := [1]) (by kernel_rfl) (by simp) ?_
      refine AllReadyH.cons (o := _) rfl (fun K hK => ?_) AllReadyH.nil
      go_simp
      refine (hCP.out _ A3 c3 _ (O18.out.bel hHeld)).mono ?_
      rintro e v1 ⟨rfl, hB⟩
      go_wp2_with fail
      refine hK.out _ _ ?_ (fun hHeld => ?_)
      · exact hHeld.trans (hB.mono hHeld.size)
      clear hK K
      try simp only [Act.put, List.setIfInBounds_toArray, List.set_cons_zero, List.set_cons_succ, List.getElem_toArray, List.getElem_cons_succ, List.getElem_cons_zero]
      refine wpAnyH_ready (rs := [3]) (by kernel_rfl) (by simp) ?_
      refine AllReadyH.cons (o := _) rfl (fun K hK => ?_) AllReadyH.nil
      go_simp
      refine (hCR.out _ (R18.out.bel hHeld)).mono ?_
      rintro e v2 ⟨rfl, hB⟩
      go_wp2_with fail
      refine hK.out _ _ ?_ (fun hHeld => ?_)
      · exact hHeld.trans (hB.mono hHeld.size)
      clear hK K
      try simp only [Act.put, List.setIfInBounds_toArray, List.set_cons_zero, List.set_cons_succ, List.getElem_toArray, List.getElem_cons_succ, List.getElem_cons_zero]
      refine' wpAnyH_take (i := 4) (oi := _) (v := ?_) rfl (by kernel_rfl) (by kernel_rfl) (by kernel_rfl) (fun _ _ _ h => h) (Or.inl ⟨by rfl, ?_⟩) (by assumption) ?_
      rotate_left
      · intro W hSw
        go_simp
        first | done | (with_reducible rfl)
      try simp only [Act.put, List.setIfInBounds_toArray, List.set_cons_zero, List.set_cons_succ, List.getElem_toArray, List.getElem_cons_succ, List.getElem_cons_zero]
      refine' wpAnyH_take (i := 5) (oi := _) (v := ?_) rfl (by kernel_rfl) (by kernel_rfl) (by kernel_rfl) (fun _ _ _ h => h) (Or.inl ⟨by rfl, ?_⟩) (by assumption) ?_
      rotate_left
      · intro W hSw
        go_simp
        first | done | (with_reducible rfl)
      try simp only [Act.put, List.setIfInBounds_toArray, List.set_cons_zero, List.set_cons_succ, List.getElem_toArray, List.getElem_cons_succ, List.getElem_cons_zero]
      refine' wpAnyH_take (i := 6) (oi := _) (v := _) rfl (by kernel_rfl) (by kernel_rfl) (by kernel_rfl) (fun _ _ _ h => h) (yieldsIf_load_mid (by rfl) _ _ rfl _ _ rfl _ _ (fun _ h => rangeBel2 h D18.out.all) hut rfl hiO.out) (by assumption) ?_
      try simp only [Act.put, List.setIfInBounds_toArray, List.set_cons_zero, List.set_cons_succ, List.getElem_toArray, List.getElem_cons_succ, List.getElem_cons_zero]
      refine' wpAnyH_take (i := 7) (oi := _) (v := _) rfl (by kernel_rfl) (by kernel_rfl) (by kernel_rfl) (fun _ _ _ h => h) (yieldsIf_load_mid (by rfl) _ _ rfl _ _ rfl _ _ (fun _ h => rangeBel2 h U18.out.all) hut rfl hiU.out) (by assumption) ?_
      try simp only [Act.put, List.setIfInBounds_toArray, List.set_cons_zero, List.set_cons_succ, List.getElem_toArray, List.getElem_cons_succ, List.getElem_cons_zero]
      refine' wpAnyH_take (i := 9) (oi := _) (v := _) rfl (by kernel_rfl) (by kernel_rfl) (by kernel_rfl) (fun _ _ _ h => h) (yieldsIf_load_mid (by rfl) _ _ rfl _ _ rfl _ _ (fun _ h => rangeBel2 h T18.out.all) hut rfl hiT.out) (by assumption) ?_
      try simp only [Act.put, List.setIfInBounds_toArray, List.set_cons_zero, List.set_cons_succ, List.getElem_toArray, List.getElem_cons_succ, List.getElem_cons_zero]
      refine' wpAnyH_take (i := 10) (oi := _) (v := _) rfl (by kernel_rfl) (by kernel_rfl) (by kernel_rfl) (fun _ _ _ h => h) (yieldsIf_load_mid (by rfl) _ _ rfl _ _ rfl _ _ (fun _ h => rangeBel2 h U18.out.all) hut rfl hiU.out) (by assumption) ?_
      try simp only [Act.put, List.setIfInBounds_toArray, List.set_cons_zero, List.set_cons_succ, List.getElem_toArray, List.getElem_cons_succ, List.getElem_cons_zero]
      refine wpAnyH_ready (rs := [8]) (by kernel_rfl) (by simp) ?_
      refine AllReadyH.cons (o := _) rfl (fun K hK => ?_) AllReadyH.nil
      go_simp
      refine (hQP.out _ A3 c3 _ (O18.out.bel hHeld) (V18.out.bel hHeld)).mono ?_
      rintro e v3 ⟨rfl, hB⟩
      go_wp2_with fail
      refine hK.out _ _ ?_ (fun hHeld => ?_)
      · exact hHeld.trans (hB.mono hHeld.size)
      clear hK K
      try simp only [Act.put, List.setIfInBounds_toArray, List.set_cons_zero, List.set_cons_succ, List.getElem_toArray, List.getElem_cons_succ, List.getElem_cons_zero]
      refine wpAnyH_ready (rs := [11]) (by kernel_rfl) (by simp) ?_
      refine AllReadyH.cons (o := _) rfl (fun K hK => ?_) AllReadyH.nil
      go_simp
      refine (hQR.out _ (R18.out.bel hHeld) (V18.out.bel hHeld)).mono ?_
      rintro e v4 ⟨rfl, hB⟩
      go_wp2_with fail
      refine hK.out _ _ ?_ (fun hHeld => ?_)
      · exact hHeld.trans (hB.mono hHeld.size)
      clear hK K
      try simp only [Act.put, List.setIfInBounds_toArray, List.set_cons_zero, List.set_cons_succ, List.getElem_toArray, List.getElem_cons_succ, List.getElem_cons_zero]
      refine' wpAnyH_take (i := 12) (oi := _) (v := ?_) rfl (by kernel_rfl) (by kernel_rfl) (by kernel_rfl) (fun _ _ _ h => h) (Or.inl ⟨by rfl, ?_⟩) (by assumption) ?_
      rotate_left
      · intro W hSw
        go_simp
        first | done | (with_reducible rfl)
      try simp only [Act.put, List.setIfInBounds_toArray, List.set_cons_zero, List.set_cons_succ, List.getElem_toArray, List.getElem_cons_succ, List.getElem_cons_zero]
      refine' wpAnyH_take (i := 13) (oi := _) (v := ?_) rfl (by kernel_rfl) (by kernel_rfl) (by kernel_rfl) (fun _ _ _ h => h) (Or.inl ⟨by rfl, ?_⟩) (by assumption) ?_
      rotate_left
      · intro W hSw
        go_simp
        first | done | (with_reducible rfl)
      try simp only [Act.put, List.setIfInBounds_toArray, List.set_cons_zero, List.set_cons_succ, List.getElem_toArray, List.getElem_cons_succ, List.getElem_cons_zero]
      refine' wpAnyH_take (i := 14) (oi := _) (v := ?_) rfl (by kernel_rfl) (by kernel_rfl) (by kernel_rfl) (fun _ _ _ h => h) (Or.inl ⟨by rfl, ?_⟩) (by assumption) ?_
      rotate_left
      · intro W hSw
        go_simp
        first | done | (with_reducible rfl)
      try simp only [Act.put, List.setIfInBounds_toArray, List.set_cons_zero, List.set_cons_succ, List.getElem_toArray, List.getElem_cons_succ, List.getElem_cons_zero]
      refine' wpAnyH_take (i := 15) (oi := _) (v := _) rfl (by kernel_rfl) (by kernel_rfl) (by kernel_rfl) (fun _ _ _ h => h) (yieldsIf_load_mid (by rfl) _ _ rfl _ _ rfl _ _ (fun _ h => rangeBel2 h D18.out.all) hut rfl hiO.out) (by assumption) ?_
      try simp only [Act.put, List.setIfInBounds_toArray, List.set_cons_zero, List.set_cons_succ, List.getElem_toArray, List.getElem_cons_succ, List.getElem_cons_zero]
      refine' wpAnyH_take (i := 16) (oi := _) (v := _) rfl (by kernel_rfl) (by kernel_rfl) (by kernel_rfl) (fun _ _ _ h => h) (yieldsIf_load_mid (by rfl) _ _ rfl _ _ rfl _ _ (fun _ h => rangeBel2 h T18.out.all) hut rfl hiT.out) (by assumption) ?_
      try simp only [Act.put, List.setIfInBounds_toArray, List.set_cons_zero, List.set_cons_succ, List.getElem_toArray, List.getElem_cons_succ, List.getElem_cons_zero]
      refine wpAnyH_ready (rs := [17]) (by kernel_rfl) (by simp) ?_
      refine AllReadyH.cons (o := _) rfl (fun K hK => ?_) AllReadyH.nil
      go_simp
      refine (hQS.out _ A3 c3 _ (O18.out.bel hHeld) (R18.out.bel hHeld)).mono ?_
      rintro e v5 ⟨rfl, hB⟩
      go_wp2_with fail
      refine hK.out _ _ ?_ (fun hHeld => ?_)
      · exact hHeld.trans (hB.mono hHeld.size)
      clear hK K
      try simp only [Act.put, List.setIfInBounds_toArray, List.set_cons_zero, List.set_cons_succ, List.getElem_toArray, List.getElem_cons_succ, List.getElem_cons_zero]
      refine' wpAnyH_take (i := 18) (oi := _) (v := ?_) rfl (by kernel_rfl) (by kernel_rfl) (by kernel_rfl) (fun _ _ _ h => h) (Or.inl ⟨by rfl, ?_⟩) (by assumption) ?_
      rotate_left
      · intro W hSw
        go_simp
        first | done | (with_reducible rfl)
      try simp only [Act.put, List.setIfInBounds_toArray, List.set_cons_zero, List.set_cons_succ, List.getElem_toArray, List.getElem_cons_succ, List.getElem_cons_zero]
      refine' wpAnyH_take (i := 19) (oi := _) (v := ?_) rfl (by kernel_rfl) (by kernel_rfl) (by kernel_rfl) (fun _ _ _ h => h) (Or.inl ⟨by rfl, ?_⟩) (by assumption) ?_
      rotate_left
      · intro W hSw
        go_simp
        first | done | (with_reducible rfl)
      try simp only [Act.put, List.setIfInBounds_toArray, List.set_cons_zero, List.set_cons_succ, List.getElem_toArray, List.getElem_cons_succ, List.getElem_cons_zero]
      refine wpAnyH_done (by kernel_rfl) ?_ _
      refine NoPanic.normal ?_
      have hb := hid hHeld
      have T19 := hid (T18.out.bel hb.out)
      have R19 := hid (R18.out.bel hb.out)
      have W19 := hid (W18.out.trans (hb.out.mono W18.out.size))
      have O19 := hid (O18.out.bel hb.out)
      have D19 := hid (D18.out.bel hb.out)
      have x19 := hid (x18.out.bel hb.out)
      have E19 := hid (E18.out.bel hb.out)
      have p19 := hid (p18.out.bel hb.out)
      clear T18 R18 W18 O18 D18 x18 E18 p18
      have s1819 := hid hb.out.size
      clear hb hHeld
      try clear hB
      go_wp2_with (first
        | ((with_reducible refine wpList_load_rng rfl 44 (.tmp 9) rfl w3.heap.size 0 rfl [Value.slice A3 ns.length c3, .int .i64 root] _ ?_ hut rfl hiO.out ?_); exact D19.out.all))
      refine (hTP.out _ A3 c3 _ O19.out).mono ?_
      rintro e w20 ⟨A20, c20, rfl, ho, hb⟩
      have T20 := hid (T19.out.bel hb)
      have R20 := hid (R19.out.bel hb)
      have W20 := hid (W19.out.trans (hb.mono W19.out.size))
      have O20 := hid (O19.out.bel hb)
      have D20 := hid (D19.out.bel hb)
      have x20 := hid (x19.out.bel hb)
      have E20 := hid (E19.out.bel hb)
      have p20 := hid (p19.out.bel hb)
      clear T19 R19 W19 O19 D19 x19 E19 p19
      have z20 := hid (OwnR.held ho)
      have zr20 := hid (OwnR.row ho)
      have s1920 := hid hb.size
      clear hb ho hTP
      have e20 := hid (heap_alloc_new w20 (.cells zTrC 44))
      have hiZ := hid (show (Tryd.prog.info? 44).map (·.size) = some ([Value.slice A20 ns.length c20, .int .i64 root]).length from sizeTr)
      go_wp2_with (first
        | (with_reducible refine wpList_alloc_row rfl 44 rfl zTrC zInfoTr ?_)
        | ((with_reducible refine wpList_store_row rfl 44 (.tmp 28) (.tmp 140) rfl _ _ rfl rfl 44 zTrC ?_ ?_ ?_ ?_ ?_); exact e20.out; exact sizeTr; rfl; exact one_trP A20 ns.length c20 root; intro w21 hgS hbS hsS; have X21 := hid (xnew3 rfl hbS); have lt21 := hid (block_lt hgS); have J21 := hid (BoxT.of (rangeOf (l := [Value.slice A20 ns.length c20, .int .i64 root]) hgS)); clear hgS hbS hsS; have T21 := hid (T20.out.bel X21.out); have R21 := hid (R20.out.bel X21.out); have W21 := hid (W20.out.trans (X21.out.mono W20.out.size)); have O21 := hid (O20.out.bel X21.out); have D21 := hid (D20.out.bel X21.out); have x21 := hid (x20.out.bel X21.out); have E21 := hid (E20.out.bel X21.out); have p21 := hid (p20.out.bel X21.out); have z21 := hid (z20.out.bel X21.out); have zr21 := hid (zr20.out.bel X21.out); clear T20 R20 W20 O20 D20 x20 E20 p20 z20 zr20)
        | ((with_reducible refine wpList_load_rng ?_ 44 (.tmp 28) rfl w20.heap.size 0 rfl [Value.slice A20 ns.length c20, .int .i64 root] _ ?_ hut rfl hiZ.out ?_); rfl; exact J21.out.all)
        | ((with_reducible refine wpList_load_rng ?_ 44 (.tmp 4) rfl w.heap.size 0 rfl [Value.slice A0 ns.length c0, .int .i64 root] _ ?_ hut rfl hiT.out ?_); rfl; exact T21.out.all))
      refine (hSm.out _ _ A20 A0 c20 c0 _ zr21.out R21.out).mono ?_
      rintro e w22 ⟨rfl, hb⟩
      have T22 := hid (T21.out.bel hb)
      have R22 := hid (R21.out.bel hb)
      have W22 := hid (W21.out.trans (hb.mono W21.out.size))
      have O22 := hid (O21.out.bel hb)
      have D22 := hid (D21.out.bel hb)
      have x22 := hid (x21.out.bel hb)
      have E22 := hid (E21.out.bel hb)
      have p22 := hid (p21.out.bel hb)
      have z22 := hid (z21.out.bel hb)
      have zr22 := hid (zr21.out.bel hb)
      have J22 := hid (J21.out.bel hb)
      clear T21 R21 W21 O21 D21 x21 E21 p21 z21 zr21 J21
      have s2122 := hid hb.size
      clear hb zr22
      go_wp2_with (first
        | ((with_reducible refine wpList_load_rng rfl 44 (.tmp 28) rfl w20.heap.size 0 rfl [Value.slice A20 ns.length c20, .int .i64 root] _ ?_ hut rfl hiZ.out ?_); exact J22.out.all))
      have om : Hid (w.heap.size + 1 < w3.heap.size ∧ w3.heap.size < w4.heap.size ∧ w4.heap.size ≤ w6.heap.size ∧ w6.heap.size ≤ w7.heap.size ∧ w7.heap.size < w8.heap.size ∧ w8.heap.size ≤ w10.heap.size ∧ w10.heap.size ≤ w11.heap.size ∧ w11.heap.size ≤ v5.heap.size ∧ v5.heap.size ≤ w20.heap.size) := hid (by have := s46.out; have := s03.out; have := sk3.out; have := X4.out.size; have := lt4.out; have := s67.out; have := X8.out.size; have := lt8.out; have := s89.out; have := X10.out.size; have := s1011.out; have := s1112.out; have := s1213.out; have := X14.out.size; have := s1415.out; have := X16.out.size; have := s1617.out; have := s1718.out; have := s1819.out; have := s1920.out; have := X21.out.size; have := s2122.out; omega)
      refine (spoil6_held _ _ A20 c20 ns root _ z22.out (by omega)).mono ?_
      rintro e w23 ⟨rfl, hch⟩
      have T23 := hid (range_chg hch T22.out.all (.inl (by have := om.out; omega)))
      have D23 := hid (range_chg hch D22.out.all (.inl (by have := om.out; omega)))
      have E23 := hid (range_chg hch E22.out.all (.inl (by have := om.out; omega)))
      have R23 := hid (Row.chgLow R22.out hch (by have := om.out; omega))
      have O23 := hid (Row.chgLow O22.out hch (by have := om.out; omega))
      have x23 := hid (x22.out.chg hch (.inl (by have := om.out; omega)))
      have p23 := hid (p22.out.chg hch (.inl (by have := om.out; omega)))
      have W23 := hid (W22.out.trans (Chg.below hch W22.out.size (fun b h1 h2 => by have := om.out; omega)))
      clear hch T22 D22 E22 R22 O22 x22 p22 W22 z22 J22
      go_wp2_with (first
        | ((with_reducible refine wpList_load_rng rfl 44 (.tmp 14) rfl w7.heap.size 0 rfl [Value.slice A7 na.length c7, .int .i64 ra] _ ?_ hut rfl hiA.out ?_); exact E23.out))
      refine (spoil6_held _ _ A7 c7 na ra _ x23.out (by omega)).mono ?_
      rintro e w24 ⟨rfl, hch⟩
      have T24 := hid (range_chg hch T23.out (.inl (by have := om.out; omega)))
      have D24 := hid (range_chg hch D23.out (.inl (by have := om.out; omega)))
      have R24 := hid (Row.chgLow R23.out hch (by have := om.out; omega))
      have O24 := hid (Row.chgLow O23.out hch (by have := om.out; omega))
      have p24 := hid (p23.out.chg hch (.inr (by have := om.out; omega)))
      have W24 := hid (W23.out.trans (Chg.below hch W23.out.size (fun b h1 h2 => by have := om.out; omega)))
      clear hch T23 D23 E23 R23 O23 x23 p23 W23
      obtain ⟨FP, hFP1, hFP2⟩ := p24.out
      have hpl2 : ps.length ≤ 9223372036854775807 := by omega
      clear p24
      go_wp2
      go_loopw [29] (fun i wr => ∃ j : Nat, j ≤ ps.length ∧ i = .int .i64 j ∧ Mut FP w24 wr) (fun i _ => ps.length - (intOf i).toNat)
      case atStart => exact ⟨0, Nat.zero_le _, rfl, Mut.refl _ _⟩
      case round =>
        obtain ⟨j, hj, rfl, hm⟩ := hrel
        by_cases hlt : j < ps.length
        · obtain ⟨b, o, rfl, hFb, -, hcs⟩ := hFP1 (by omega)
          obtain ⟨r1, A', c', r2, -, hv1, hv2, hrv⟩ := cells_pr hcs hlt
          have hsb := (hFP2 b hFb).2.2
          have cS := hm.same hsb r2 (not_u8_slice _ _ _)
          have hvl : ps[j].v.length ≤ 9223372036854775807 := by unfold maxLen at hv2; omega
          have hv0 : 0 < ps[j].v.length := hpv.out _ (List.getElem_mem hlt)
          obtain ⟨b2, o2, rfl, hFb2, -, hcs2⟩ := hrv hv0
          have hsb2 := (hFP2 b2 hFb2).2.2
          obtain ⟨n, hn⟩ : ∃ n : Int, wr.cell? ⟨b2, o2, none⟩ = some (.int .u8 n) := by
            obtain ⟨vs, rfl, h5⟩ := hcs2 0 _ (List.getElem?_eq_getElem hv0)
            have h6 := h5 0 (bv ps[j].v[0]) rfl
            rw [Nat.add_zero, Nat.zero_mul, Nat.add_zero] at h6
            exact hm.byte hsb2 h6
          have hf := (hsb2.mut hm).free o2
          have Hn := hid hn
          have Hm := hid hm
          have HF2 := hid hFb2
          have HS2 := hid hsb2
          have FPP := hid hFP2
          have FP1 := hid hFP1
          clear hm hFb2 hsb2 hsb hcs hcs2 hrv r1 r2 hFP2 hFP1 hv1 hv2 hFb
          generalize ps[j].v.length = vn at *
          go_wp2
          go_still_tail 14, (by kernel_rfl)
          go_wp2
          go_roundw
          case rel => exact ⟨j + 1, by omega, by go_num, (Hm.out.store HF2.out HS2.out Hn.out _).drew⟩
          case measure => simp [intOf]; omega
        · obtain rfl : j = ps.length := by omega
          have hch : Chg (fun b => w10.heap.size ≤ b ∧ b < w11.heap.size) w24 wr := hm.chg.mono fun b _ hb => ⟨(hFP2 b hb).1, (hFP2 b hb).2.1⟩
          have T25 := hid (range_chg hch T24.out (.inl (by have := om.out; omega)))
          have D25 := hid (range_chg hch D24.out (.inl (by have := om.out; omega)))
          have R25 := hid (Row.chgLow R24.out hch (by have := om.out; omega))
          have O25 := hid (Row.chgLow O24.out hch (by have := om.out; omega))
          have W25 := hid (W24.out.trans (Chg.below hch W24.out.size (fun b h1 h2 => by have := om.out; omega)))
          clear hch hm T24 D24 R24 O24 W24 hFP1 hFP2
          go_wp2_with (first
            | ((with_reducible refine wpList_load_rng rfl 44 (.tmp 9) rfl w3.heap.size 0 rfl [Value.slice A3 ns.length c3, .int .i64 root] _ ?_ hut rfl hiO.out ?_); exact D25.out)
            | ((with_reducible refine wpList_load_rng rfl 44 (.tmp 4) rfl w.heap.size 0 rfl [Value.slice A0 ns.length c0, .int .i64 root] _ ?_ hut rfl hiT.out ?_); exact T25.out))
          refine (hSm.out _ _ A3 A0 c3 c0 _ O25.out R25.out).mono ?_
          rintro e w26 ⟨rfl, hb⟩
          go_wp2
          go_ret
          exact ⟨rfl, W25.out.trans (hb.mono W25.out.size)⟩

/-! ### WHAT THE WALK GIVES, FOR EVERY ARGUMENT AND EVERY WORLD THAT HOLDS THE TABLE -/
set_option maxRecDepth 100000 in
theorem contract (H : Type) (enc : TypeId × Value → H) (W : World) (base : Nat) (args : Array Value) (ds gs : List (DataW H)) (before : List MemPlace)
    (hval0 : ∀ (j : Nat) t v, Tryd.f5.params[j]? = some t → args[j]? = some v → Value.okWide Tryd.prog W .any base t v)
    (hW : DataW.Whole enc Tryd.prog Tryd.f5.params.toList Rows.treeTellsSpec.vars false W args.toList ds gs before) (hL : laidMetH Tryd.prog Rows.treeTellsRow.laid W) :
    Calls Tryd.prog 5 args W fun e W' => ∃ v, e = .returned v ∧ Rows.treeTellsSpec.post enc Tryd.prog Tryd.f5 false true false false W args v W' := by
  have hval : ∀ (j : Nat) t v, Tryd.f5.params[j]? = some t → args[j]? = some v → Value.okWide Tryd.prog W .any base t v := hval0
  have hW' := hW
  obtain ⟨p, q, hA0, hV, rfl, hfz, hnd⟩ := hW
  have hA : DataW.TrodAll enc Tryd.prog W 0 (fun _ => true) true Tryd.f5.params.toList args.toList ds p := hA0
  rw [Tryd.params5] at hA hval
  obtain ⟨v0, vs0, d0, ds0, p0, q0, hargs, rfl, rfl, h0, r0⟩ := trodAll_cons hA
  obtain ⟨v1, vs1, d1, ds1, p1, q1, rfl, rfl, rfl, h1, r1⟩ := trodAll_cons r0
  obtain ⟨v2, vs2, d2, ds2, p2, q2, rfl, rfl, rfl, h2, r2⟩ := trodAll_cons r1
  obtain ⟨v3, vs3, d3, ds3, p3, q3, rfl, rfl, rfl, h3, r3⟩ := trodAll_cons r2
  obtain ⟨rfl, rfl, rfl⟩ := trodAll_nil r3
  obtain rfl : args = #[v0, v1, v2, v3] := by cases args; simp_all
  obtain ⟨rfl, rfl⟩ := trodVars_none hV
  have k0 := h0
  have lt0 : ∀ x ∈ p0, x.block < W.heap.size := by obtain ⟨m, hm⟩ := k0; exact DataW.trod_lt m _ _ _ hm
  obtain ⟨x0, vs0, rfl, w0⟩ := open_struct opensTr Tryd.underlying44 (hval 0 44 v0 rfl rfl) h0
  have k1 := h1
  have lt1 : ∀ x ∈ p1, x.block < W.heap.size := by obtain ⟨m, hm⟩ := k1; exact DataW.trod_lt m _ _ _ hm
  obtain ⟨x1, vs1, rfl, w1⟩ := open_struct opensTr Tryd.underlying44 (hval 1 44 v1 rfl rfl) h1
  have k2 := h2
  have lt2 : ∀ x ∈ p2, x.block < W.heap.size := by obtain ⟨m, hm⟩ := k2; exact DataW.trod_lt m _ _ _ hm
  obtain ⟨l2, w2, rfl⟩ := open_dig Tryd.underlying23 Tryd.underlying5 cellsByte cellsDig (hval 2 23 v2 rfl rfl) h2
  obtain ⟨a3, rfl, rfl, rfl, w3⟩ := open_int Tryd.underlying3 (hval 3 3 v3 rfl rfl) h3
  clear hA0 hval0
  refine (walk x0 vs0 x1 vs1 l2 a3 W w0 w1 w2 w3 (tab_of hL)).mono fun e W' ⟨he, bel⟩ => ?_
  subst he
  exact ⟨_, rfl, _, _, _, [], _, [], hW', trodAll_mk1 (shut_bool Tryd.underlying4 _), (trodAll_cons_mk (Below.trod laidOut (by kernel_rfl) (of_decide_eq_true (by kernel_rfl)) k0 bel lt0) (trodAll_cons_mk (Below.trod laidOut (by kernel_rfl) (of_decide_eq_true (by kernel_rfl)) k1 bel lt1) (trodAll_cons_mk (Below.trod laidOut (by kernel_rfl) (of_decide_eq_true (by kernel_rfl)) k2 bel lt2) (trodAll_cons_mk (shut_int Tryd.underlying3 w3) trodAll_mk0)))), rfl, bel.frame _, fun h => by cases h⟩

theorem laid_met (os : Os) : laidMet Tryd.prog Rows.treeTellsRow.laid ((laidWorld os).forCall (fun _ _ => 0) ⟨#[], #[.agg zTrC, .agg zTrC, .agg z32, .int .i64 0], []⟩).memory :=
  laidMet_of_run' 8 (by kernel_rfl) (by kernel_rfl)
theorem reads (os : Os) {H : Type} (enc : TypeId × Value → H) : ∃ places, DataW.whole enc Tryd.prog ((laidWorld os).forCall (fun _ _ => 0) ⟨#[], #[.agg zTrC, .agg zTrC, .agg z32, .int .i64 0], []⟩).memory Tryd.f5.params.toList Rows.treeTellsSpec.vars false (#[.agg zTrC, .agg zTrC, .agg z32, .int .i64 0] : Array Value).toList 8 = some ([.agg [.nil, .lit (.int .i64 0)], .agg [.nil, .lit (.int .i64 0)], .agg (List.replicate 32 (.lit (.int .u8 0))), .lit (.int .i64 0)], [], places) :=
  ⟨[], by kernel_rfl⟩
set_option maxRecDepth 100000 in
theorem lifted (os : Os) (started : os.Started) (H : Type) (enc : TypeId × Value → H) (F : Stop.Interp) :
    ReturnsInHanded {} Tryd.checked os 5 .any ((OpenSpec.ofChange Rows.treeTellsSpec).preRow enc Tryd.prog Tryd.f5 Rows.treeTellsRow.domain false Rows.treeTellsRow.laid) (((OpenSpec.ofChange Rows.treeTellsSpec).at F).post enc Tryd.prog Tryd.f5 false true false false) := by
  obtain ⟨places, hx⟩ := reads os enc
  refine returnsInHanded_of_row (C := Tryd.checked) (s := OpenSpec.ofChange Rows.treeTellsSpec) own started (by kernel_rfl) Tryd.func5
    (witness_row_at (enc := enc) (C := Tryd.checked) false (laidWorld os) #[.agg zTrC, .agg zTrC, .agg z32, .int .i64 0] rfl (by kernel_rfl) (by kernel_rfl) (by kernel_rfl)
      (OpenSpec.preRow_of_cond 8 hx (by kernel_rfl) (fun k hk => by cases hk) (by kernel_rfl) (laid_met os))) ?_
  intro W base args ds gs before hval hW _ _ _ hL _ _
  exact contract H enc W base args ds gs before hval hW hL
theorem said : Rows.TreeTellsSaid :=
  OpenClaim.holds_of_cond 5 Tryd.f5 rfl rfl rfl rfl rfl rfl rfl ⟨rfl, rfl, rfl, rfl, rfl⟩ rfl rfl rfl rfl rfl (by kernel_rfl) Tryd.func5 (by kernel_rfl)
    (of_decide_eq_true (by kernel_rfl)) (by unfold Func.isWrapper; first | (rw [if_pos (by decide +kernel)]; kernel_rfl) | (rw [if_neg (by decide +kernel)]; exact ⟨rfl, rfl⟩))
    (fun os started H enc _ F => by rw [OpenClaim.pre_eq_preRow]; exact lifted os started H enc F)
set_option maxRecDepth 100000 in
/-- No parameter wants a stand-in; the program's own looks are off: what the card asks. -/
theorem plain (f : FuncId) (fn : Func) (hf : Tryd.pinned.checked.prog.funcNamed "beadroll/beadrolllaw06.TreeTells" = some f) (hfn : Tryd.pinned.checked.prog.funcs[f]? = some fn) :
    false = Tryd.pinned.checked.prog.looks [] ∧ ∀ (j : Nat) t, fn.params[j]? = some t → Tryd.pinned.checked.prog.wantsStandIn t = false := by
  obtain rfl : f = 5 := Option.some.inj ((show Tryd.prog.funcNamed "beadroll/beadrolllaw06.TreeTells" = some 5 by kernel_rfl).symm.trans hf) |>.symm
  obtain rfl : fn = Tryd.f5 := (Option.some.inj (Tryd.func5.symm.trans hfn)).symm
  refine ⟨by kernel_rfl, fun j t ht => ?_⟩
  rw [Tryd.params5] at ht
  have hm := Array.mem_of_getElem? ht
  simp only [List.mem_toArray, List.mem_cons, List.not_mem_nil, or_false] at hm
  rcases hm with rfl | rfl | rfl | rfl
  all_goals first | exact (show Tryd.prog.wantsStandIn 44 = false by kernel_rfl) | exact (show Tryd.prog.wantsStandIn 23 = false by kernel_rfl) | exact (show Tryd.prog.wantsStandIn 3 = false by kernel_rfl)
set_option maxRecDepth 100000 in
/-- ████ THE CARD ████ -/
theorem proved : Rows.TreeTellsCardSaid :=
  Claim7.holds_tied_plain_at .later [] _ _ _ _ said (fun _ h => by cases h) (by kernel_rfl) (fun _ h => by cases h) treeTells_row_tie rfl ⟨rfl, rfl⟩ (by kernel_rfl) rfl plain (by kernel_rfl)
#print axioms proved
end Go.Proofs.YtnoglodggchgpaaDoor.treeTells
