/-
  The Go function ProofOne returns true: a proof hangs on what the tree stands for alone: made anew pair by pair, the tree makes the same one: any tree and key; its arguments read afterwards as before.
  Conditions: none. The frame around the walk was written by program (proof-skeleton.mjs).
-/
import Derived.Test.YtfjkcdccnbggnaaDoorRows
import Derived.Test.YtfjkcdccnbggnaaDoorDoor
import Derived.WalkKit
import Derived.ProofKit
import Derived.OpenShut
import Derived.ShutString
import Derived.ChangeOld
import Derived.Below
import Derived.Test.YtfjkcdccnbggnaaDoorAlive07
import Derived.Test.YtfjkcdccnbggnaaDoorPfOne
import Derived.Test.YtfjkcdccnbggnaaDoorPfK
import Derived.Test.YtfjkcdccnbggnaaDoorRef06a
import Derived.Test.YtfjkcdccnbggnaaDoorRef07b
import Derived.Test.YtfjkcdccnbggnaaDoorTreeMb
import Derived.Test.YtfjkcdccnbggnaaDoorTreeB
namespace Go.Proofs.YtfjkcdccnbggnaaDoor.proofOne
open Go.ChangeShapes Go.WideShapes Go.ChangeAt Go.RowKit
open Go.ChangeMaps (open_string shut_string)
set_option linter.unusedVariables false

theorem own : ownKnob Tryd.prog.godebug = none := by kernel_rfl
theorem laidOut : laidOutB Tryd.prog = true := by kernel_rfl

/-- WHAT THE WALK IS TOLD OF A SLICE OF INTEGERS THAT CAME IN: it is nil; or it leads to a row of 'cap' cells, the numbers 'zs' (the first 'len' are its elements, the rest its spare room), each fitting its kind. -/
def IsRow (k : IntKind) (w : World) (a : Option Addr) (len cap : Nat) (zs : List Int) : Prop :=
  (a = none ∧ len = 0 ∧ cap = 0 ∧ zs = []) ∨
  ∃ x, a = some x ∧ len ≤ cap ∧ cap ≤ maxLen ∧ zs.length = cap ∧ (∀ i, i < zs.length → w.cell? (x.add i) = some (.int k (zs.getD i 0))) ∧ ∀ n ∈ zs, (Lit.int k n).wf = true

/-! ### the walk -/
open Go.Proofs.YtfjkcdccnbggnaaDoor
set_option linter.unusedSimpArgs false
set_option maxRecDepth 100000 in
set_option maxHeartbeats 16000000 in
theorem walk (x0 : Tr) (vs0 : List Value) (l1 : List UInt8) (w : World) (w0 : Enc.rep (fun b => b < w.heap.size) w x0 vs0) (w1 : l1.length = 32) (hT : Tab w) :
    Calls Tryd.prog 8 #[.agg vs0.toArray, .agg (l1.map bv).toArray] w fun e w' => e = .returned (.bool true) ∧ Below w.heap.size w w' := by
  obtain ⟨A0, c0, rfl, hc0, hm0, hr, hI⟩ := rep_tr w0
  obtain ⟨ns, root⟩ := x0
  obtain ⟨k, rfl⟩ : ∃ k : Dg, l1 = k.1 := ⟨⟨l1, w1⟩, rfl⟩
  dsimp only at *
  have hcm : ns.length ≤ 9223372036854775807 := by unfold maxLen at hm0; omega
  obtain ⟨T0, K0, W0⟩ := boxesTDp w A0 ns.length c0 root k 44 23
  have hu := Tryd.underlying23
  have hut := Tryd.underlying44
  have hup := Tryd.underlying61
  have hi := hid (sizeDgT k)
  have hiT := hid (show (Tryd.prog.info? 44).map (·.size) = some ([Value.slice A0 ns.length c0, .int .i64 root]).length from sizeTr)
  have R0 := hid (hr.bel W0)
  have H0 := hid (hT.bel W0 hT.low)
  have hlow := hid hT.low
  obtain ⟨gb, hgb⟩ : ∃ gb, greatT ns 600 = gb := ⟨_, rfl⟩
  have hGr := fun W hW => RGreatT_any (fun b => b < w.heap.size) A0 c0 600 ns root W hW hcm
  rw [hgb] at hGr
  replace hGr := hid hGr
  replace hgb := hid hgb
  have hAl := hid (fun W hTW => alive7_any W hTW)
  replace T0 := hid T0
  replace K0 := hid K0
  replace W0 := hid W0
  clear hr w0 w1 hI hT
  generalize hdk : k.1.map bv = dk at *
  replace hdk := hid hdk
  go_enter Tryd.func8, Tryd.ntmps8
  go_wp2_with fail
  generalize (w.alloc (.cells #[.slice A0 ns.length c0, .int .i64 root] 44)).alloc (.cells dk.toArray 23) = w0 at *
  refine (hAl.out _ H0.out).mono ?_
  rintro e w1 ⟨rfl, hb⟩
  have T1 := hid (T0.out.bel hb)
  have K1 := hid (rangeBel2 hb K0.out)
  have R1 := hid (R0.out.bel hb)
  have H1 := hid (H0.out.bel hb (Nat.lt_of_lt_of_le hlow.out W0.out.size))
  have W1 := hid (W0.out.trans (hb.mono W0.out.size))
  clear T0 K0 R0 H0 W0
  clear hb hAl
  go_wp2_with (first
    | ((with_reducible refine wpList_load_rng rfl 44 (.tmp 2) rfl w.heap.size 0 rfl [Value.slice A0 ns.length c0, .int .i64 root] _ ?_ hut rfl hiT.out ?_); exact T1.out.all))
  refine (hGr.out _ R1.out).mono ?_
  rintro e w2 ⟨rfl, hb⟩
  have T2 := hid (T1.out.bel hb)
  have K2 := hid (rangeBel2 hb K1.out)
  have R2 := hid (R1.out.bel hb)
  have H2 := hid (H1.out.bel hb (Nat.lt_of_lt_of_le hlow.out W1.out.size))
  have W2 := hid (W1.out.trans (hb.mono W1.out.size))
  clear T1 K1 R1 H1 W1
  clear hb hGr
  cases gb with
  | true =>
    go_wp2
    go_ret
    exact ⟨rfl, W2.out⟩
  | false =>
    obtain ⟨hlen, -⟩ := greatT_no hgb.out
    clear hgb
    obtain ⟨z, hz⟩ : ∃ z : Int, (if mayT ⟨ns, root⟩ = true then 0 else 8) = z := ⟨_, rfl⟩
    have hP0 := fun F A c W hW => PTPairs_any F A c ns root W hW (by omega)
    have hMk := fun F A c W hW hTW => PfMake_any F A c ns root k W hW (by omega) hTW
    rw [hz] at hP0 hMk
    rw [hdk.out] at hMk
    have hvl : (makeF ⟨ns, root⟩ k).v.length ≤ 1000000 := by
      unfold makeF
      split
      · split
        · split
          · have := end_short (t := ⟨ns, root⟩) k; simp only; omega
          · have := end_short (t := ⟨ns, root⟩) k; simp only; omega
        · simp
      · simp [pf0]
    have hsl : (makeF ⟨ns, root⟩ k).ss.length ≤ 1000000 := Nat.le_trans (makeF_sl _ _) (by decide)
    have hmt : z = 0 → mayT ⟨ns, root⟩ = true := fun h => by
      by_cases hm : mayT ⟨ns, root⟩ = true
      · exact hm
      · rw [if_neg hm] at hz; omega
    have hpt : z = 0 → pairsM ⟨ns, root⟩ = allT ⟨ns, root⟩ := fun h => by unfold pairsM; rw [if_pos (hmt h)]
    have hNew : Hid (z = 0 → ∀ tn tr, mayT ⟨tn, tr⟩ = true → allT ⟨tn, tr⟩ = pairsM ⟨ns, root⟩ → tn.length ≤ 1000000 → ∀ (F : Nat → Prop) (A : Option Addr) (c : Nat) (W : World), Row F W A tn → Tab W → Calls Tryd.prog 30 #[.agg #[.slice A tn.length c, .int .i64 tr], .agg dk.toArray] W fun e w' => ∃ A1 c1 A2 c2, e = .returned (.tuple #[.agg (pfC (makeF ⟨ns, root⟩ k) A1 c1 A2 c2).toArray, .int .i64 0]) ∧
        Own 5 w' W.heap.size A1 c1 (makeF ⟨ns, root⟩ k).v ∧ Row (fun b => b < w'.heap.size) w' A2 (makeF ⟨ns, root⟩ k).ss ∧ Below W.heap.size W w') := hid (fun h tn tr h1 h2 h3 F A c W hW hTW => by
      have := PfMake_any F A c tn tr k W hW h3 hTW
      rw [if_pos h1, makeF_all h1 (hmt h) (h2.trans (hpt h)), hdk.out] at this
      exact this)
    have hPut : Hid (z = 0 → ∀ (tn : List Nd) (tr : Int) (j : Nat) (hj : j < (pairsM ⟨ns, root⟩).length), mayT ⟨tn, tr⟩ = true → allT ⟨tn, tr⟩ = (pairsM ⟨ns, root⟩).drop (j + 1) → tn.length ≤ 200000 → ∀ (F : Nat → Prop) (A V : Option Addr) (c d : Nat) (W : World), Row F W A tn → Rd W V (pairsM ⟨ns, root⟩)[j].v → (pairsM ⟨ns, root⟩)[j].v.length ≤ d → d ≤ maxLen →
        Calls Tryd.prog 20 #[.agg #[.slice A tn.length c, .int .i64 tr], .agg ((pairsM ⟨ns, root⟩)[j].k.1.map bv).toArray, .slice V (pairsM ⟨ns, root⟩)[j].v.length d] W fun e w' => ∃ (un : List Nd) (ur : Int) (A' : Option Addr) (c' : Nat), mayT ⟨un, ur⟩ = true ∧ allT ⟨un, ur⟩ = (pairsM ⟨ns, root⟩).drop j ∧ un.length ≤ tn.length + 257 ∧ e = .returned (.tuple #[.agg #[.slice A' un.length c', .int .i64 ur], .int .i64 0]) ∧ OwnR 50 w' W.heap.size A' c' un ∧ Below W.heap.size W w') := hid (fun h tn tr j hj h1 h2 h3 F A V c d W hW hV h4 h5 => by
      have q := all_spec (hmt h)
      rw [← hpt h] at q
      obtain ⟨e1, e2, e3, e4⟩ := anew_put (t := ⟨tn, tr⟩) (n := tn.length) q.1 q.2.1 hj (Nat.le_refl _) (by omega) h1 h2
      have := PTPut_any F A V c d tn tr (pairsM ⟨ns, root⟩)[j].k (pairsM ⟨ns, root⟩)[j].v W hW (by omega) hV h4 h5
      rw [e1] at this
      refine this.mono ?_
      rintro e w' ⟨A', c', rfl, ho, hb⟩
      exact ⟨_, _, A', c', e2, e3, e4, rfl, ho, hb⟩)
    have hSm := hid (fun F G A A2 c c2 D D2 d d2 W h1 h2 h3 h4 => RPfSame_is F G (makeF ⟨ns, root⟩ k) (makeF ⟨ns, root⟩ k) A A2 c c2 D D2 d d2 true W h1 h2 h3 h4 hvl hvl hsl hsl (decide_eq_true rfl))
    have hpl := fun A c D d => hid (sizePfC (makeF ⟨ns, root⟩ k) A c D d)
    have hps := fun A c D d => hid (sizePfS (makeF ⟨ns, root⟩ k) A c D d)
    have hpz := fun A c D d => hid (show zPfC.size = (pfC (makeF ⟨ns, root⟩ k) A c D d).toArray.size by rw [zSizePf, List.size_toArray, len_pf])
    have hp1 := fun A c D d => hid (one_pf (makeF ⟨ns, root⟩ k) A c D d)
    clear hmt hpt hvl hsl hz
    generalize makeF ⟨ns, root⟩ k = pf at *
    generalize pairsM ⟨ns, root⟩ = ps at *
    replace hP0 := hid hP0
    replace hMk := hid hMk
    go_wp2_with (first
      | ((with_reducible refine wpList_load_rng ?_ 44 (.tmp 2) rfl w.heap.size 0 rfl [Value.slice A0 ns.length c0, .int .i64 root] _ ?_ hut rfl hiT.out ?_); rfl; exact T2.out.all))
    refine (hP0.out _ A0 c0 _ R2.out).mono ?_
    rintro e w3 ⟨ad3, c3, rfl, ho, hb⟩
    have T3 := hid (T2.out.bel hb)
    have K3 := hid (rangeBel2 hb K2.out)
    have R3 := hid (R2.out.bel hb)
    have H3 := hid (H2.out.bel hb (Nat.lt_of_lt_of_le hlow.out W2.out.size))
    have W3 := hid (W2.out.trans (hb.mono W2.out.size))
    clear T2 K2 R2 H2 W2
    have l3 := hid (OwnR.row ho)
    have hpc3 := hid (show ps.length ≤ 9223372036854775807 from by have := (OwnQ.cap ho); unfold maxLen at this; omega)
    clear hb ho hP0
    go_wp2_with (first
      | ((with_reducible refine wpList_load_rng rfl 44 (.tmp 2) rfl w.heap.size 0 rfl [Value.slice A0 ns.length c0, .int .i64 root] _ ?_ hut rfl hiT.out ?_); exact T3.out.all)
      | ((with_reducible refine wpList_load_rng rfl 23 (.tmp 3) rfl (w.heap.size + 1) 0 rfl dk _ ?_ hu rfl hi.out ?_); exact K3.out))
    refine (hMk.out _ A0 c0 _ R3.out H3.out).mono ?_
    rintro e w4 ⟨ad4, c4, de4, d4, rfl, ho, hq, hb⟩
    have T4 := hid (T3.out.bel hb)
    have K4 := hid (rangeBel2 hb K3.out)
    have R4 := hid (R3.out.bel hb)
    have H4 := hid (H3.out.bel hb (Nat.lt_of_lt_of_le hlow.out W3.out.size))
    have W4 := hid (W3.out.trans (hb.mono W3.out.size))
    have l4 := hid (l3.out.bel hb)
    clear T3 K3 R3 H3 W3 l3
    have v4 := hid ho.rd
    have s4 := hid hq
    clear hb ho hq hMk
    clear T4
    clear R4
    have e4 := hid (heap_alloc_new w4 (.cells zPfC 61))
    have iP4 := hid (hpl ad4 c4 de4 d4).out
    have jP4 := hid (hps ad4 c4 de4 d4).out
    have zP4 := hid (hpz ad4 c4 de4 d4).out
    have oP4 := hid (hp1 ad4 c4 de4 d4).out
    by_cases h0 : z = 0
    rotate_left
    · have g0 : (z == 0) = false := beq_eq_false_iff_ne.2 h0
      have g1 : ((z == 0) == (z == 0)) = true := by simp
      go_wp2_with (first
        | (with_reducible refine wpList_alloc_row rfl 61 rfl zPfC zInfoPf ?_)
        | ((with_reducible refine wpList_store_row rfl 61 (.tmp 8) (.tmp 33) rfl _ _ rfl rfl 61 zPfC ?_ ?_ ?_ ?_ ?_); exact e4.out; exact jP4.out; exact zP4.out; exact oP4.out; intro w5 hgS hbS hsS; have X5 := hid (xnewP rfl hbS); have P5 := hid (rangeOf (l := pfC pf ad4 c4 de4 d4) hgS); clear hgS hbS hsS; have K5 := hid (rangeBel2 X5.out K4.out); have H5 := hid (H4.out.bel X5.out (Nat.lt_of_lt_of_le hlow.out W4.out.size)); have W5 := hid (W4.out.trans (X5.out.mono W4.out.size)); have l5 := hid (l4.out.bel X5.out); have v5 := hid (v4.out.bel X5.out); have s5 := hid (s4.out.bel X5.out); clear K4 H4 W4 l4 v4 s4))
      go_ret
      exact ⟨rfl, W5.out⟩
    replace hNew := hid (hNew.out h0)
    replace hPut := hid (hPut.out h0)
    subst h0
    by_cases hl20 : 20 < ps.length
    · have q2 : decide ((20 : Int) < (ps.length : Int)) = true := decide_eq_true (by omega)
      go_wp2_with (first
        | (with_reducible refine wpList_alloc_row rfl 61 rfl zPfC zInfoPf ?_)
        | ((with_reducible refine wpList_store_row rfl 61 (.tmp 8) (.tmp 33) rfl _ _ rfl rfl 61 zPfC ?_ ?_ ?_ ?_ ?_); exact e4.out; exact jP4.out; exact zP4.out; exact oP4.out; intro w5 hgS hbS hsS; have X5 := hid (xnewP rfl hbS); have P5 := hid (rangeOf (l := pfC pf ad4 c4 de4 d4) hgS); clear hgS hbS hsS; have K5 := hid (rangeBel2 X5.out K4.out); have H5 := hid (H4.out.bel X5.out (Nat.lt_of_lt_of_le hlow.out W4.out.size)); have W5 := hid (W4.out.trans (X5.out.mono W4.out.size)); have l5 := hid (l4.out.bel X5.out); have v5 := hid (v4.out.bel X5.out); have s5 := hid (s4.out.bel X5.out); clear K4 H4 W4 l4 v4 s4))
      go_ret
      exact ⟨rfl, W5.out⟩
    have q2 : decide ((20 : Int) < (ps.length : Int)) = false := decide_eq_false (by omega)
    have hwr : IntKind.i64.wrap ((ps.length : Int) - 1) = (ps.length : Int) - 1 := by rw [IntKind.wrap_i64]; omega
    go_wp2_with (first
      | (with_reducible refine wpList_alloc_row rfl 61 rfl zPfC zInfoPf ?_)
      | ((with_reducible refine wpList_store_row rfl 61 (.tmp 8) (.tmp 33) rfl _ _ rfl rfl 61 zPfC ?_ ?_ ?_ ?_ ?_); exact e4.out; exact jP4.out; exact zP4.out; exact oP4.out; intro w5 hgS hbS hsS; have X5 := hid (xnewP rfl hbS); have P5 := hid (rangeOf (l := pfC pf ad4 c4 de4 d4) hgS); clear hgS hbS hsS; have K5 := hid (rangeBel2 X5.out K4.out); have H5 := hid (H4.out.bel X5.out (Nat.lt_of_lt_of_le hlow.out W4.out.size)); have W5 := hid (W4.out.trans (X5.out.mono W4.out.size)); have l5 := hid (l4.out.bel X5.out); have v5 := hid (v4.out.bel X5.out); have s5 := hid (s4.out.bel X5.out); clear K4 H4 W4 l4 v4 s4)
      | (with_reducible refine wpList_alloc_row rfl 44 rfl zTrC zInfoTr ?_))
    have e5 := heap_alloc_new w5 (.cells zTrC 44)
    go_loopw [11] (fun i wr => ∃ (j : Nat) (i0 : Int) (tn : List Nd) (tr : Int) (tA : Option Addr) (tc : Nat), j ≤ ps.length ∧ i = .int .i64 i0 ∧ i0 + 1 = (j : Int) ∧ mayT ⟨tn, tr⟩ = true ∧ allT ⟨tn, tr⟩ = ps.drop j ∧ tn.length ≤ (ps.length - j) * 257 ∧ wr.heap[w5.heap.size]? = some (.cells #[.slice tA tn.length tc, .int .i64 tr] 44) ∧ Row (fun b => w5.heap.size < b) wr tA tn ∧ Below w5.heap.size w5 wr) (fun i _ => (intOf i + 1).toNat)
    case atStart => exact ⟨ps.length, _, [], 0, none, 0, Nat.le_refl _, rfl, by omega, nil_may, by rw [List.drop_length]; exact forP_zero, by simp, e5, Row.nil _ _ _, ext_alloc _ _⟩
    case round =>
      obtain ⟨j, i0, tn, tr, tA, tc, hj, rfl, hi0, hm, ha, hn, hbox, hrow, hb⟩ := hrel
      clear hwr e5
      rcases j with _ | j
      · skip
        obtain rfl : i0 = -1 := by omega
        rw [List.drop_zero] at ha
        replace hn := hid (show tn.length ≤ 1000000 by omega)
        have U6 := hid (rangeOf (l := [Value.slice tA tn.length tc, .int .i64 tr]) hbox)
        have hiU := hid (show (Tryd.prog.info? 44).map (·.size) = some ([Value.slice tA tn.length tc, .int .i64 tr]).length from sizeTr)
        replace hm := hid hm
        replace ha := hid ha
        have r6 := hid hrow
        clear hPut hbox hrow hj
        have K6 := hid (rangeBel2 hb K5.out)
        have H6 := hid (H5.out.bel hb (Nat.lt_of_lt_of_le hlow.out W5.out.size))
        have W6 := hid (W5.out.trans (hb.mono W5.out.size))
        have l6 := hid (l5.out.bel hb)
        have v6 := hid (v5.out.bel hb)
        have s6 := hid (s5.out.bel hb)
        have P6 := hid (rangeBel2 hb P5.out)
        clear K5 H5 W5 l5 v5 s5 P5
        clear hb q2
        go_wp2_with (first
          | ((with_reducible refine wpList_load_rng rfl 44 (.tmp 10) rfl w5.heap.size 0 rfl [Value.slice tA tn.length tc, .int .i64 tr] _ ?_ hut rfl hiU.out ?_); exact U6.out)
          | ((with_reducible refine wpList_load_rng rfl 23 (.tmp 3) rfl (w.heap.size + 1) 0 rfl dk _ ?_ hu rfl hi.out ?_); exact K6.out))
        refine (hNew.out tn tr hm.out ha.out hn.out _ tA tc _ r6.out H6.out).mono ?_
        rintro e w7 ⟨ad7, c7, de7, d7, rfl, ho, hq, hb⟩
        have K7 := hid (rangeBel2 hb K6.out)
        have H7 := hid (H6.out.bel hb (Nat.lt_of_lt_of_le hlow.out W6.out.size))
        have W7 := hid (W6.out.trans (hb.mono W6.out.size))
        have l7 := hid (l6.out.bel hb)
        have v7 := hid (v6.out.bel hb)
        have s7 := hid (s6.out.bel hb)
        have P7 := hid (rangeBel2 hb P6.out)
        have U7 := hid (rangeBel2 hb U6.out)
        have r7 := hid (r6.out.bel hb)
        clear K6 H6 W6 l6 v6 s6 P6 U6 r6
        have y7 := hid ho.rd
        have x7 := hid hq
        clear hb ho hq hNew
        clear U7
        clear r7
        have e7 := hid (heap_alloc_new w7 (.cells zPfC 61))
        have iP7 := hid (hpl ad7 c7 de7 d7).out
        have jP7 := hid (hps ad7 c7 de7 d7).out
        have zP7 := hid (hpz ad7 c7 de7 d7).out
        have oP7 := hid (hp1 ad7 c7 de7 d7).out
        go_wp2_with (first
          | (with_reducible refine wpList_alloc_row rfl 61 rfl zPfC zInfoPf ?_)
          | ((with_reducible refine wpList_store_row rfl 61 (.tmp 14) (.tmp 79) rfl _ _ rfl rfl 61 zPfC ?_ ?_ ?_ ?_ ?_); exact e7.out; exact jP7.out; exact zP7.out; exact oP7.out; intro w8 hgS hbS hsS; have X8 := hid (xnewP rfl hbS); have Q8 := hid (rangeOf (l := pfC pf ad7 c7 de7 d7) hgS); clear hgS hbS hsS; have K8 := hid (rangeBel2 X8.out K7.out); have H8 := hid (H7.out.bel X8.out (Nat.lt_of_lt_of_le hlow.out W7.out.size)); have W8 := hid (W7.out.trans (X8.out.mono W7.out.size)); have l8 := hid (l7.out.bel X8.out); have v8 := hid (v7.out.bel X8.out); have s8 := hid (s7.out.bel X8.out); have P8 := hid (rangeBel2 X8.out P7.out); have y8 := hid (y7.out.bel X8.out); have x8 := hid (x7.out.bel X8.out); clear K7 H7 W7 l7 v7 s7 P7 y7 x7)
          | ((with_reducible refine wpList_load_rng ?_ 61 (.tmp 8) rfl w4.heap.size 0 rfl (pfC pf ad4 c4 de4 d4) _ ?_ hup rfl iP4.out ?_); rfl; exact P8.out)
          | ((with_reducible refine wpList_load_rng ?_ 61 (.tmp 14) rfl w7.heap.size 0 rfl (pfC pf ad7 c7 de7 d7) _ ?_ hup rfl iP7.out ?_); rfl; exact Q8.out))
        refine (hSm.out _ _ ad4 ad7 c4 c7 de4 de7 d4 d7 _ v8.out y8.out s8.out x8.out).mono ?_
        rintro e w9 ⟨rfl, hb⟩
        go_wp2
        go_ret
        exact ⟨rfl, W8.out.trans (hb.mono W8.out.size)⟩
      · obtain rfl : i0 = (j : Int) := by omega
        have hlt : j < ps.length := by omega
        obtain ⟨b, o, hA, r1, V, d, hcell, -, h1, h2, h3⟩ := row_pr (l5.out.bel hb) hlt
        subst hA
        have hrd := hid h3.rd
        have hPj := hid (hPut.out tn tr j hlt hm ha (by omega))
        have O6 := hid (rangeOf (l := [Value.slice tA tn.length tc, .int .i64 tr]) hbox)
        have hiO := hid (show (Tryd.prog.info? 44).map (·.size) = some ([Value.slice tA tn.length tc, .int .i64 tr]).length from sizeTr)
        have hiK := hid (sizeDg ps[j].k)
        have hbl := block_lt hbox
        have hbs := hb.size
        replace r1 := hid r1
        replace hcell := hid hcell
        replace hbox := hid hbox
        replace hrow := hid hrow
        replace hb := hid hb
        replace h1 := hid h1
        replace h2 := hid h2
        replace hn := hid hn
        replace hj := hid hj
        replace hpc3 := hid hpc3.out
        have hwj : IntKind.i64.wrap ((j : Int) - 1) = (j : Int) - 1 := by have := hpc3.out; rw [IntKind.wrap_i64]; omega
        have q3 : decide ((0 : Int) ≤ (j : Int)) = true := decide_eq_true (by omega)
        clear hm ha h3 hPut hNew hSm
        generalize ps[j].k = kk at *
        generalize ps[j].v = vv at *
        go_wp2
        refine wp_region_noPanic ?_
        refine wp_region_held_drew (S := fun w' => Below wr.heap.size wr w') (by kernel_rfl) ?_ (fun hHeld => ?_)
        · exact bel_drew wr
        refine' wpAnyH_take (i := 0) (oi := _) (v := _) rfl (by kernel_rfl) (by kernel_rfl) (by kernel_rfl) (fun _ _ _ h => h) (yieldsIf_load_mid (by rfl) _ _ rfl _ _ rfl _ _ (fun _ h => rangeBel2 h O6.out) hut rfl hiO.out) (by assumption) ?_
        try simp only [Act.put, sQa, sQb, sQc, gQa, gQb, gQc]
        refine' wpAnyH_take (i := 1) (oi := _) (v := ?_) rfl (by kernel_rfl) (by kernel_rfl) (by kernel_rfl) (fun _ _ _ h => h) (Or.inl ⟨by rfl, ?_⟩) (by assumption) ?_
        rotate_left
        · intro W hSw
          go_simp
          first | done | (with_reducible rfl)
        try simp only [Act.put, sQa, sQb, sQc, gQa, gQb, gQc]
        refine' wpAnyH_take (i := 2) (oi := _) (v := ?_) rfl (by kernel_rfl) (by kernel_rfl) (by kernel_rfl) (fun _ _ _ h => h) (Or.inl ⟨by rfl, ?_⟩) (by assumption) ?_
        rotate_left
        · intro W hSw
          go_simp
          first | done | (with_reducible rfl)
        try simp only [Act.put, sQa, sQb, sQc, gQa, gQb, gQc]
        refine' wpAnyH_take (i := 3) (oi := _) (v := ?_) rfl (by kernel_rfl) (by kernel_rfl) (by kernel_rfl) (fun _ _ _ h => h) (Or.inl ⟨by rfl, ?_⟩) (by assumption) ?_
        rotate_left
        · intro W hSw
          go_simp
          first | done | (with_reducible rfl)
        try simp only [Act.put, sQa, sQb, sQc, gQa, gQb, gQc]
        refine' wpAnyH_take (i := 4) (oi := _) (v := ?_) rfl (by kernel_rfl) (by kernel_rfl) (by kernel_rfl) (fun _ _ _ h => h) (Or.inl ⟨by rfl, ?_⟩) (by assumption) ?_
        rotate_left
        · intro W hSw
          go_simp
          first | done | (with_reducible rfl)
        try simp only [Act.put, sQa, sQb, sQc, gQa, gQb, gQc]
        refine' wpAnyH_take (i := 5) (oi := _) (v := _) rfl (by kernel_rfl) (by kernel_rfl) (by kernel_rfl) (fun _ _ _ h => h) (yieldsIf_load_mid (by rfl) _ _ rfl _ _ rfl _ _ (fun _ h => rangeBel2 h r1.out) hu rfl hiK.out) (by assumption) ?_
        try simp only [Act.put, sQa, sQb, sQc, gQa, gQb, gQc]
        refine' wpAnyH_take (i := 6) (oi := _) (v := ?_) rfl (by kernel_rfl) (by kernel_rfl) (by kernel_rfl) (fun _ _ _ h => h) (Or.inl ⟨by rfl, ?_⟩) (by assumption) ?_
        rotate_left
        · intro W hSw
          go_simp
          first | done | (with_reducible rfl)
        try simp only [Act.put, sQa, sQb, sQc, gQa, gQb, gQc]
        refine' wpAnyH_take (i := 7) (oi := _) (v := ?_) rfl (by kernel_rfl) (by kernel_rfl) (by kernel_rfl) (fun _ _ _ h => h) (Or.inl ⟨by rfl, ?_⟩) (by assumption) ?_
        rotate_left
        · intro W hSw
          go_simp
          first | done | (with_reducible rfl)
        try simp only [Act.put, sQa, sQb, sQc, gQa, gQb, gQc]
        refine' wpAnyH_take (i := 8) (oi := _) (v := ?_) rfl (by kernel_rfl) (by kernel_rfl) (by kernel_rfl) (fun _ _ _ h => h) (Or.inl ⟨by rfl, ?_⟩) (by assumption) ?_
        rotate_left
        · intro W hSw
          go_simp
          first | done | (with_reducible rfl)
        try simp only [Act.put, sQa, sQb, sQc, gQa, gQb, gQc]
        refine' wpAnyH_take (i := 9) (oi := _) (v := ?_) rfl (by kernel_rfl) (by kernel_rfl) (by kernel_rfl) (fun _ _ _ h => h) (Or.inl ⟨by rfl, ?_⟩) (by assumption) ?_
        rotate_left
        · intro W hSw
          go_simp
          first | done | (with_reducible rfl)
        try simp only [Act.put, sQa, sQb, sQc, gQa, gQb, gQc]
        refine' wpAnyH_take (i := 10) (oi := _) (v := ?_) rfl (by kernel_rfl) (by kernel_rfl) (by kernel_rfl) (fun _ _ _ h => h) (Or.inl ⟨by rfl, ?_⟩) (by assumption) ?_
        rotate_left
        · intro W hSw
          have hCell := (hSw.cell (World.block_lt_of_cell? _ _ hcell.out)).trans hcell.out
          go_simp
          first | done | (with_reducible rfl)
        try simp only [Act.put, sQa, sQb, sQc, gQa, gQb, gQc]
        refine wpAnyH_ready (rs := [11, 15]) (by kernel_rfl) (by simp) ?_
        refine AllReadyH.cons (o := _) rfl (fun K hK => ?_) ?_
        · skip
          go_simp
          refine (hPj.out _ tA V tc d _ (hrow.out.bel hHeld) (hrd.out.bel hHeld) h1.out h2.out).mono ?_
          rintro e7 w7 ⟨un, ur, A', c', u1, u2, u3, rfl, ho, hB⟩
          first
            | have r7 := (OwnR.row ho).mono (G := fun b => wr.heap.size ≤ b ∧ b ≠ g6) fun b h1 h2 => ⟨Nat.le_trans hHeld.size h1, fun e => by have := block_lt e6; omega⟩
            | have r7 := (OwnR.row ho).mono (G := fun b => wr.heap.size ≤ b ∧ b < w7.heap.size) fun b h1 h2 => ⟨Nat.le_trans hHeld.size h1, h2⟩
          try replace e6 := (hB.block _ (block_lt e6)).trans e6
          go_wp2_with fail
          refine hK.out _ _ ?_ (fun hHeld => ?_)
          · exact hHeld.trans (hB.mono hHeld.size)
          clear hK K
          try simp only [Act.put, sQa, sQb, sQc, gQa, gQb, gQc]
          refine' wpAnyH_take (i := 12) (oi := _) (v := ?_) rfl (by kernel_rfl) (by kernel_rfl) (by kernel_rfl) (fun _ _ _ h => h) (Or.inl ⟨by rfl, ?_⟩) (by assumption) ?_
          rotate_left
          · intro W hSw
            go_simp
            first | done | (with_reducible rfl)
          try simp only [Act.put, sQa, sQb, sQc, gQa, gQb, gQc]
          refine' wpAnyH_take (i := 13) (oi := _) (v := ?_) rfl (by kernel_rfl) (by kernel_rfl) (by kernel_rfl) (fun _ _ _ h => h) (Or.inl ⟨by rfl, ?_⟩) (by assumption) ?_
          rotate_left
          · intro W hSw
            go_simp
            first | done | (with_reducible rfl)
          try simp only [Act.put, sQa, sQb, sQc, gQa, gQb, gQc]
          refine' wpAnyH_take (i := 14) (oi := _) (v := ?_) rfl (by kernel_rfl) (by kernel_rfl) (by kernel_rfl) (fun _ _ _ h => h) (Or.inl ⟨by rfl, ?_⟩) (by assumption) ?_
          rotate_left
          · intro W hSw
            go_simp
            first | done | (with_reducible rfl)
          try simp only [Act.put, sQa, sQb, sQc, gQa, gQb, gQc]
          refine wpAnyH_ready (rs := [15]) (by kernel_rfl) (by simp) ?_
          refine AllReadyH.cons (o := _) rfl (fun K hK => ?_) AllReadyH.nil
          refine step_alloc_rowT rfl 44 rfl zTrC zInfoTr ?_
          intro g6 w8 b6 e6 hB
          have m6 := Nat.le_trans hHeld.size b6
          try replace r7 := (r7.bel hB).mono (G := fun b => wr.heap.size ≤ b ∧ b ≠ g6) fun b h _ => ⟨h.1, fun e => by have := h.2; omega⟩
          refine hK.out _ _ ?_ (fun hHeld => ?_)
          · exact hHeld.trans (hB.mono hHeld.size)
          clear hK K
          try simp only [Act.put, sQa, sQb, sQc, gQa, gQb, gQc]
          refine wpAnyH_ready (rs := [16]) (by kernel_rfl) (by simp) ?_
          refine AllReadyH.cons (o := _) rfl (fun K hK => ?_) AllReadyH.nil
          refine step_store_rowT rfl 44 (.tmp 12) (.tmp 70) rfl g6 _ rfl rfl 44 zTrC e6 sizeTr rfl (one_trP A' un.length c' ur) ?_
          intro w2 d6 hG
          refine hK.out _ _ ?_ (fun hHeld => ?_)
          · exact hHeld.grown hG hHeld.size (by intro k hk; injection hk with hk; subst hk; exact m6)
          clear hK K
          try simp only [Act.put, sQa, sQb, sQc, gQa, gQb, gQc]
          refine' wpAnyH_take (i := 17) (oi := _) (v := ?_) rfl (by kernel_rfl) (by kernel_rfl) (by kernel_rfl) (fun _ _ _ h => h) (Or.inl ⟨by rfl, ?_⟩) (by assumption) ?_
          rotate_left
          · intro W hSw
            go_simp
            first | done | (with_reducible rfl)
          try simp only [Act.put, sQa, sQb, sQc, gQa, gQb, gQc]
          refine wpAnyH_done (by kernel_rfl) ?_ _
          refine NoPanic.normal ?_
          have r2 := r7.kept (fun b hF _ => hG.block b (by assumption) (by simpa using hF.2)) hG.size
          have hB2 := hb.out.trans (hHeld.mono hbs)
          have x2 := hid ((hHeld.block _ hbl).trans hbox.out)
          have O2 := hid (rangeOf (l := [Value.slice A' un.length c', .int .i64 ur]) d6)
          have hiN := hid (show (Tryd.prog.info? 44).map (·.size) = some ([Value.slice A' un.length c', .int .i64 ur]).length from sizeTr)
          clear r7 e6
          go_wp2_with (first
            | ((with_reducible refine wpList_load_rng rfl 44 (.tmp 12) rfl g6 0 rfl [Value.slice A' un.length c', .int .i64 ur] _ ?_ hut rfl hiN.out ?_); exact O2.out)
            | ((with_reducible refine wpList_store_row rfl 44 (.tmp 10) (.tmp 74) rfl _ _ rfl rfl 44 #[Value.slice tA tn.length tc, .int .i64 tr] ?_ ?_ ?_ ?_ ?_); exact x2.out; exact sizeTr; rfl; exact one_trP A' un.length c' ur; intro w9 hg9 hb9 hs9))
          go_roundw
          case rel =>
            refine ⟨j, _, un, ur, A', c', by have := hj.out; omega, rfl, by omega, u1, u2, ?_, hg9, r2.kept (fun b hF _ => hb9.block b (by assumption) (by simpa using (by have := hF.1; omega))) hb9.size |>.mono fun b hF _ => by have := hF.1; omega, hB2.grown hb9 hB2.size (by intro k hk; injection hk with hk; omega)⟩
            have := hn.out; have := hj.out; have : ps.length - j = ps.length - (j + 1) + 1 := by omega
            rw [this, Nat.add_mul]; omega
          case measure => simp [intOf]
        refine AllReadyH.cons (o := _) rfl (fun K hK => ?_) ?_
        · skip
          refine step_alloc_rowT rfl 44 rfl zTrC zInfoTr ?_
          intro g6 w8 b6 e6 hB
          have m6 := Nat.le_trans hHeld.size b6
          try replace r7 := (r7.bel hB).mono (G := fun b => wr.heap.size ≤ b ∧ b ≠ g6) fun b h _ => ⟨h.1, fun e => by have := h.2; omega⟩
          refine hK.out _ _ ?_ (fun hHeld => ?_)
          · exact hHeld.trans (hB.mono hHeld.size)
          clear hK K
          try simp only [Act.put, sQa, sQb, sQc, gQa, gQb, gQc]
          refine wpAnyH_ready (rs := [11]) (by kernel_rfl) (by simp) ?_
          refine AllReadyH.cons (o := _) rfl (fun K hK => ?_) AllReadyH.nil
          go_simp
          refine (hPj.out _ tA V tc d _ (hrow.out.bel hHeld) (hrd.out.bel hHeld) h1.out h2.out).mono ?_
          rintro e7 w7 ⟨un, ur, A', c', u1, u2, u3, rfl, ho, hB⟩
          first
            | have r7 := (OwnR.row ho).mono (G := fun b => wr.heap.size ≤ b ∧ b ≠ g6) fun b h1 h2 => ⟨Nat.le_trans hHeld.size h1, fun e => by have := block_lt e6; omega⟩
            | have r7 := (OwnR.row ho).mono (G := fun b => wr.heap.size ≤ b ∧ b < w7.heap.size) fun b h1 h2 => ⟨Nat.le_trans hHeld.size h1, h2⟩
          try replace e6 := (hB.block _ (block_lt e6)).trans e6
          go_wp2_with fail
          refine hK.out _ _ ?_ (fun hHeld => ?_)
          · exact hHeld.trans (hB.mono hHeld.size)
          clear hK K
          try simp only [Act.put, sQa, sQb, sQc, gQa, gQb, gQc]
          refine' wpAnyH_take (i := 12) (oi := _) (v := ?_) rfl (by kernel_rfl) (by kernel_rfl) (by kernel_rfl) (fun _ _ _ h => h) (Or.inl ⟨by rfl, ?_⟩) (by assumption) ?_
          rotate_left
          · intro W hSw
            go_simp
            first | done | (with_reducible rfl)
          try simp only [Act.put, sQa, sQb, sQc, gQa, gQb, gQc]
          refine' wpAnyH_take (i := 13) (oi := _) (v := ?_) rfl (by kernel_rfl) (by kernel_rfl) (by kernel_rfl) (fun _ _ _ h => h) (Or.inl ⟨by rfl, ?_⟩) (by assumption) ?_
          rotate_left
          · intro W hSw
            go_simp
            first | done | (with_reducible rfl)
          try simp only [Act.put, sQa, sQb, sQc, gQa, gQb, gQc]
          refine' wpAnyH_take (i := 14) (oi := _) (v := ?_) rfl (by kernel_rfl) (by kernel_rfl) (by kernel_rfl) (fun _ _ _ h => h) (Or.inl ⟨by rfl, ?_⟩) (by assumption) ?_
          rotate_left
          · intro W hSw
            go_simp
            first | done | (with_reducible rfl)
          try simp only [Act.put, sQa, sQb, sQc, gQa, gQb, gQc]
          refine wpAnyH_ready (rs := [16]) (by kernel_rfl) (by simp) ?_
          refine AllReadyH.cons (o := _) rfl (fun K hK => ?_) AllReadyH.nil
          refine step_store_rowT rfl 44 (.tmp 12) (.tmp 70) rfl g6 _ rfl rfl 44 zTrC e6 sizeTr rfl (one_trP A' un.length c' ur) ?_
          intro w2 d6 hG
          refine hK.out _ _ ?_ (fun hHeld => ?_)
          · exact hHeld.grown hG hHeld.size (by intro k hk; injection hk with hk; subst hk; exact m6)
          clear hK K
          try simp only [Act.put, sQa, sQb, sQc, gQa, gQb, gQc]
          refine' wpAnyH_take (i := 17) (oi := _) (v := ?_) rfl (by kernel_rfl) (by kernel_rfl) (by kernel_rfl) (fun _ _ _ h => h) (Or.inl ⟨by rfl, ?_⟩) (by assumption) ?_
          rotate_left
          · intro W hSw
            go_simp
            first | done | (with_reducible rfl)
          try simp only [Act.put, sQa, sQb, sQc, gQa, gQb, gQc]
          refine wpAnyH_done (by kernel_rfl) ?_ _
          refine NoPanic.normal ?_
          have r2 := r7.kept (fun b hF _ => hG.block b (by assumption) (by simpa using hF.2)) hG.size
          have hB2 := hb.out.trans (hHeld.mono hbs)
          have x2 := hid ((hHeld.block _ hbl).trans hbox.out)
          have O2 := hid (rangeOf (l := [Value.slice A' un.length c', .int .i64 ur]) d6)
          have hiN := hid (show (Tryd.prog.info? 44).map (·.size) = some ([Value.slice A' un.length c', .int .i64 ur]).length from sizeTr)
          clear r7 e6
          go_wp2_with (first
            | ((with_reducible refine wpList_load_rng rfl 44 (.tmp 12) rfl g6 0 rfl [Value.slice A' un.length c', .int .i64 ur] _ ?_ hut rfl hiN.out ?_); exact O2.out)
            | ((with_reducible refine wpList_store_row rfl 44 (.tmp 10) (.tmp 74) rfl _ _ rfl rfl 44 #[Value.slice tA tn.length tc, .int .i64 tr] ?_ ?_ ?_ ?_ ?_); exact x2.out; exact sizeTr; rfl; exact one_trP A' un.length c' ur; intro w9 hg9 hb9 hs9))
          go_roundw
          case rel =>
            refine ⟨j, _, un, ur, A', c', by have := hj.out; omega, rfl, by omega, u1, u2, ?_, hg9, r2.kept (fun b hF _ => hb9.block b (by assumption) (by simpa using (by have := hF.1; omega))) hb9.size |>.mono fun b hF _ => by have := hF.1; omega, hB2.grown hb9 hB2.size (by intro k hk; injection hk with hk; omega)⟩
            have := hn.out; have := hj.out; have : ps.length - j = ps.length - (j + 1) + 1 := by omega
            rw [this, Nat.add_mul]; omega
          case measure => simp [intOf]
        exact AllReadyH.nil

/-! ### WHAT THE WALK GIVES, FOR EVERY ARGUMENT AND EVERY WORLD THAT HOLDS THE TABLE -/
set_option maxRecDepth 100000 in
theorem contract (H : Type) (enc : TypeId × Value → H) (W : World) (base : Nat) (args : Array Value) (ds gs : List (DataW H)) (before : List MemPlace)
    (hval0 : ∀ (j : Nat) t v, Tryd.f8.params[j]? = some t → args[j]? = some v → Value.okWide Tryd.prog W .any base t v)
    (hW : DataW.Whole enc Tryd.prog Tryd.f8.params.toList Rows.proofOneSpec.vars false W args.toList ds gs before) (hL : laidMetH Tryd.prog Rows.proofOneRow.laid W) :
    Calls Tryd.prog 8 args W fun e W' => ∃ v, e = .returned v ∧ Rows.proofOneSpec.post enc Tryd.prog Tryd.f8 false true false false W args v W' := by
  have hval : ∀ (j : Nat) t v, Tryd.f8.params[j]? = some t → args[j]? = some v → Value.okWide Tryd.prog W .any base t v := hval0
  have hW' := hW
  obtain ⟨p, q, hA0, hV, rfl, hfz, hnd⟩ := hW
  have hA : DataW.TrodAll enc Tryd.prog W 0 (fun _ => true) true Tryd.f8.params.toList args.toList ds p := hA0
  rw [Tryd.params8] at hA hval
  obtain ⟨v0, vs0, d0, ds0, p0, q0, hargs, rfl, rfl, h0, r0⟩ := trodAll_cons hA
  obtain ⟨v1, vs1, d1, ds1, p1, q1, rfl, rfl, rfl, h1, r1⟩ := trodAll_cons r0
  obtain ⟨rfl, rfl, rfl⟩ := trodAll_nil r1
  obtain rfl : args = #[v0, v1] := by cases args; simp_all
  obtain ⟨rfl, rfl⟩ := trodVars_none hV
  have k0 := h0
  have lt0 : ∀ x ∈ p0, x.block < W.heap.size := by obtain ⟨m, hm⟩ := k0; exact DataW.trod_lt m _ _ _ hm
  obtain ⟨x0, vs0, rfl, w0⟩ := open_struct opensTr Tryd.underlying44 (hval 0 44 v0 rfl rfl) h0
  have k1 := h1
  have lt1 : ∀ x ∈ p1, x.block < W.heap.size := by obtain ⟨m, hm⟩ := k1; exact DataW.trod_lt m _ _ _ hm
  obtain ⟨l1, w1, rfl⟩ := open_dig Tryd.underlying23 Tryd.underlying5 cellsByte cellsDig (hval 1 23 v1 rfl rfl) h1
  clear hA0 hval0
  refine (walk x0 vs0 l1 W w0 w1 (tab_of hL)).mono fun e W' ⟨he, bel⟩ => ?_
  subst he
  exact ⟨_, rfl, _, _, _, [], _, [], hW', trodAll_mk1 (shut_bool Tryd.underlying4 _), (trodAll_cons_mk (Below.trod laidOut (by kernel_rfl) (of_decide_eq_true (by kernel_rfl)) k0 bel lt0) (trodAll_cons_mk (Below.trod laidOut (by kernel_rfl) (of_decide_eq_true (by kernel_rfl)) k1 bel lt1) trodAll_mk0)), rfl, bel.frame _, fun h => by cases h⟩

theorem laid_met (os : Os) : laidMet Tryd.prog Rows.proofOneRow.laid ((laidWorld os).forCall (fun _ _ => 0) ⟨#[], #[.agg zTrC, .agg z32], []⟩).memory :=
  laidMet_of_run' 8 (by kernel_rfl) (by kernel_rfl)
theorem reads (os : Os) {H : Type} (enc : TypeId × Value → H) : ∃ places, DataW.whole enc Tryd.prog ((laidWorld os).forCall (fun _ _ => 0) ⟨#[], #[.agg zTrC, .agg z32], []⟩).memory Tryd.f8.params.toList Rows.proofOneSpec.vars false (#[.agg zTrC, .agg z32] : Array Value).toList 8 = some ([.agg [.nil, .lit (.int .i64 0)], .agg (List.replicate 32 (.lit (.int .u8 0)))], [], places) :=
  ⟨[], by kernel_rfl⟩
set_option maxRecDepth 100000 in
theorem lifted (os : Os) (started : os.Started) (H : Type) (enc : TypeId × Value → H) (F : Stop.Interp) :
    ReturnsInHanded {} Tryd.checked os 8 .any ((OpenSpec.ofChange Rows.proofOneSpec).preRow enc Tryd.prog Tryd.f8 Rows.proofOneRow.domain false Rows.proofOneRow.laid) (((OpenSpec.ofChange Rows.proofOneSpec).at F).post enc Tryd.prog Tryd.f8 false true false false) := by
  obtain ⟨places, hx⟩ := reads os enc
  refine returnsInHanded_of_row (C := Tryd.checked) (s := OpenSpec.ofChange Rows.proofOneSpec) own started (by kernel_rfl) Tryd.func8
    (witness_row_at (enc := enc) (C := Tryd.checked) false (laidWorld os) #[.agg zTrC, .agg z32] rfl (by kernel_rfl) (by kernel_rfl) (by kernel_rfl)
      (OpenSpec.preRow_of_cond 8 hx (by kernel_rfl) (fun k hk => by cases hk) (by kernel_rfl) (laid_met os))) ?_
  intro W base args ds gs before hval hW _ _ _ hL _ _
  exact contract H enc W base args ds gs before hval hW hL
theorem said : Rows.ProofOneSaid :=
  OpenClaim.holds_of_cond 8 Tryd.f8 rfl rfl rfl rfl rfl rfl rfl ⟨rfl, rfl, rfl, rfl, rfl⟩ rfl rfl rfl rfl rfl (by kernel_rfl) Tryd.func8 (by kernel_rfl)
    (of_decide_eq_true (by kernel_rfl)) (by unfold Func.isWrapper; first | (rw [if_pos (by decide +kernel)]; kernel_rfl) | (rw [if_neg (by decide +kernel)]; exact ⟨rfl, rfl⟩))
    (fun os started H enc _ F => by rw [OpenClaim.pre_eq_preRow]; exact lifted os started H enc F)
set_option maxRecDepth 100000 in
/-- No parameter wants a stand-in; the program's own looks are off: what the card asks. -/
theorem plain (f : FuncId) (fn : Func) (hf : Tryd.pinned.checked.prog.funcNamed "beadroll/beadrolllaw07.ProofOne" = some f) (hfn : Tryd.pinned.checked.prog.funcs[f]? = some fn) :
    false = Tryd.pinned.checked.prog.looks [] ∧ ∀ (j : Nat) t, fn.params[j]? = some t → Tryd.pinned.checked.prog.wantsStandIn t = false := by
  obtain rfl : f = 8 := Option.some.inj ((show Tryd.prog.funcNamed "beadroll/beadrolllaw07.ProofOne" = some 8 by kernel_rfl).symm.trans hf) |>.symm
  obtain rfl : fn = Tryd.f8 := (Option.some.inj (Tryd.func8.symm.trans hfn)).symm
  refine ⟨by kernel_rfl, fun j t ht => ?_⟩
  rw [Tryd.params8] at ht
  have hm := Array.mem_of_getElem? ht
  simp only [List.mem_toArray, List.mem_cons, List.not_mem_nil, or_false] at hm
  rcases hm with rfl | rfl
  all_goals first | exact (show Tryd.prog.wantsStandIn 44 = false by kernel_rfl) | exact (show Tryd.prog.wantsStandIn 23 = false by kernel_rfl)
set_option maxRecDepth 100000 in
/-- ████ THE CARD ████ -/
theorem proved : Rows.ProofOneCardSaid :=
  Claim7.holds_tied_plain_at .later [] _ _ _ _ said (fun _ h => by cases h) (by kernel_rfl) (fun _ h => by cases h) proofOne_row_tie rfl ⟨rfl, rfl⟩ (by kernel_rfl) rfl plain (by kernel_rfl)
#print axioms proved
end Go.Proofs.YtfjkcdccnbggnaaDoor.proofOne
