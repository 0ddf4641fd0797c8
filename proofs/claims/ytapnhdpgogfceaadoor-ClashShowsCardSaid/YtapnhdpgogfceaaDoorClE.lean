/-
  Contracts of the landed package clash: Of.
-/
import Derived.Test.YtapnhdpgogfceaaDoorClB
import Derived.Test.YtapnhdpgogfceaaDoorClC
import Derived.Test.YtapnhdpgogfceaaDoorClQ
import Derived.Test.YtapnhdpgogfceaaDoorVfX
import Derived.Test.YtapnhdpgogfceaaDoorTrB
import Derived.Test.YtapnhdpgogfceaaDoorPfK
namespace Go.Proofs.YtapnhdpgogfceaaDoor
open Go.RowKit
set_option linter.unusedVariables false
set_option linter.unusedSimpArgs false
set_option maxRecDepth 100000

theorem boxesTP (w : World) (A : Option Addr) (n c : Nat) (root : Int) (y : Pf) (A2 : Option Addr) (c2 : Nat) (D2 : Option Addr) (d2 : Nat) (t u : TypeId) :
    BoxT ((w.alloc (.cells #[.slice A n c, .int .i64 root] t)).alloc (.cells (pfC y A2 c2 D2 d2).toArray u)) w.heap.size A n c root ∧ BoxP ((w.alloc (.cells #[.slice A n c, .int .i64 root] t)).alloc (.cells (pfC y A2 c2 D2 d2).toArray u)) (w.heap.size + 1) y A2 c2 D2 d2 ∧
    Below w.heap.size w ((w.alloc (.cells #[.slice A n c, .int .i64 root] t)).alloc (.cells (pfC y A2 c2 D2 d2).toArray u)) := by
  have h2 := BoxP.new (w.alloc (.cells #[.slice A n c, .int .i64 root] t)) y A2 c2 D2 d2 u
  rw [World.size_alloc] at h2
  exact ⟨(BoxT.new w A n c root t).bel (ext_alloc _ _), h2, ext_trans (ext_alloc _ _) (ext_alloc _ _)⟩
set_option maxHeartbeats 4000000 in
theorem ClOf_any (F G : Nat → Prop) (A : Option Addr) (c : Nat) (ns : List Nd) (root : Int) (y : Pf) (A2 : Option Addr) (c2 : Nat) (D2 : Option Addr) (d2 : Nat) (w : World) (hr : Row F w A ns) (hc : ns.length ≤ 1000000) (hr2 : Rd w A2 y.v) (h3 : y.v.length ≤ c2) (h4 : c2 ≤ maxLen) (hs2 : Row G w D2 y.ss) (hT : Tab w) :
    Calls Tryd.prog 9 #[.agg #[.slice A ns.length c, .int .i64 root], .agg (pfC y A2 c2 D2 d2).toArray] w fun e w' => ∃ A5 c5 A6 c6, e = .returned (.tuple #[.slice A5 (ofP ⟨ns, root⟩ y).1.length c5, .slice A6 (ofP ⟨ns, root⟩ y).2.length c6, .int .i64 (ofE ⟨ns, root⟩ y)]) ∧ Txt w' A5 c5 (ofP ⟨ns, root⟩ y).1 ∧ Txt w' A6 c6 (ofP ⟨ns, root⟩ y).2 ∧ Below w.heap.size w w' := by
  obtain ⟨B1, B2, W0⟩ := boxesTP w A ns.length c root y A2 c2 D2 d2 34 30
  have hup := Tryd.underlying30
  have hut := Tryd.underlying34
  have hu := Tryd.underlying27
  have T0 := hid B1.all
  have Q0 := hid B2.all
  have K0 := hid B2.key
  have jT := hid (show (Tryd.prog.info? 34).map (·.size) = some ([Value.slice A ns.length c, .int .i64 root]).length from sizeTr)
  have jP := hid (sizePfC y A2 c2 D2 d2)
  have jK := hid (sizeDg y.k)
  obtain ⟨r0, hr0⟩ : ∃ r0, sumM ⟨ns, root⟩ = r0 := ⟨_, rfl⟩
  have jS := hid (sizeDg r0)
  have zd : (r0.1.map bv).toArray.size = 32 := by simp [r0.2]
  have zo := bvs_all r0.1
  obtain ⟨m1, hm1⟩ : ∃ m, mayT ⟨ns, root⟩ = m := ⟨_, rfl⟩
  obtain ⟨m2, hm2⟩ : ∃ m, mayF y = m := ⟨_, rfl⟩
  obtain ⟨fb, hfb⟩ : ∃ fb, decide (rootV y = rootT ⟨ns, root⟩) = fb := ⟨_, rfl⟩
  obtain ⟨o, ho⟩ : ∃ o, makeF ⟨ns, root⟩ y.k = o := ⟨_, rfl⟩
  obtain ⟨u, hu'⟩ : ∃ u, unlikeF o y = u := ⟨_, rfl⟩
  obtain ⟨P, hP⟩ : ∃ P, ofP ⟨ns, root⟩ y = P := ⟨_, rfl⟩
  obtain ⟨E, hE⟩ : ∃ E, ofE ⟨ns, root⟩ y = E := ⟨_, rfl⟩
  rw [hP, hE]
  unfold ofP at hP
  unfold ofE at hE
  rw [hm1, hm2, hfb, ho, hu'] at hP hE
  have CS := fun W (h : Row F W A ns) (h' : Tab W) => PTSum_any F A c ns root W h hc h'
  rw [hr0, hm1] at CS
  have C2 := hid (fun W (h : Rd W A2 y.v) => PfCheck_is y A2 c2 D2 d2 m2 W h h3 h4 hm2)
  have CF := fun (hb : fitsF y r0 = fb) W (h : Rd W A2 y.v) (hs : Row G W D2 y.ss) (h' : Tab W) => VfFits_is y A2 c2 D2 d2 r0 G fb W hb h h3 h4 hs h'
  have CM := fun W (h : Row F W A ns) (h' : Tab W) => PfMake_any F A c ns root y.k W h hc h'
  rw [ho, hm1] at CM
  have fit : m1 = true → m2 = true → fitsF y r0 = fb := fun k1 k2 => by
    have : sumM ⟨ns, root⟩ = rootT ⟨ns, root⟩ := by unfold sumM; rw [hm1, k1]; rfl
    unfold fitsF
    rw [hm2, k2, Bool.true_and, ← hfb, ← hr0, this]
  have om : m1 = true → mayF o = true := fun k1 => by rw [← ho]; exact makeF_may y.k (hm1.trans k1)
  have U := fun (k1 : o.v.length ≤ 1000000) (k2 : y.v.length ≤ 1000000) A c D d W (h : Rd W A o.v) (h1 : o.v.length ≤ c) (h2 : c ≤ maxLen) (h' : Rd W A2 y.v) => ClTell_is (fun _ => True) (fun _ => True) o y A A2 c c2 D D2 d d2 u W h h1 h2 k1 h' h3 h4 k2 hu'
  have V := fun (k1 : mayF o = true) (k2 : mayF y = true) (hne : (firstI (inP o) (inP y)).1 ≠ (firstI (inP o) (inP y)).2) F A c D d W (h : Rd W A o.v) (h1 : o.v.length ≤ c) (h2 : c ≤ maxLen) (hs : Row F W D o.ss) (h' : Rd W A2 y.v) (hs2 : Row G W D2 y.ss) (hT : Tab W) => ClFirst_any o y A A2 c c2 D D2 d d2 F G _ _ W k1 k2 rfl rfl hne h h1 h2 hs h' h3 h4 hs2 hT
  have fl : Hid (∀ W, Below w.heap.size w W → Row F W A ns ∧ Rd W A2 y.v ∧ Row G W D2 y.ss ∧ Tab W) := hid fun W hb => ⟨hr.bel hb, hr2.bel hb, hs2.bel hb, hT.bel hb hT.low⟩
  have sm := fun (x : Pf) h => Nat.le_trans (may_small (x := x) h).1 (show 1000 ≤ 1000000 by omega)
  have cf := fun h k l => (clash_found (a := o) (b := y) h k l).1
  have jN := fun A c D d => hid (sizePfC o A c D d)
  have jN2 := fun A c D d => hid (sizePfS o A c D d)
  have jN3 := fun A c D d => hid (show zPfC.size = (pfC o A c D d).toArray.size from Eq.trans (show zPfC.size = 67 from rfl) (by rw [List.size_toArray, len_pf]))
  have jN1 := fun A c D d => hid (one_pf o A c D d)
  replace W0 := hid W0
  clear hr hr2 hs2 B1 B2 hT hr0 hfb ho
  generalize pfC y A2 c2 D2 d2 = cs2 at *
  generalize y.k.1.map bv = dk at *
  generalize r0.1.map bv = dS at *
  obtain ⟨csT, hcsT⟩ : ∃ cs, [Value.slice A ns.length c, .int .i64 root] = cs := ⟨_, rfl⟩
  have hcsA : #[Value.slice A ns.length c, .int .i64 root] = csT.toArray := by rw [← hcsT]
  rw [hcsA] at W0 T0 Q0 K0 CS CM ⊢
  rw [hcsT] at T0 jT
  clear hcsA hcsT
  generalize pfC o = fN at *
  cases m1 with
  | false =>
    simp only [Bool.false_eq_true, ↓reduceIte] at CS
    replace CS := hid CS
    clear CF CM U V fit om sm cf jN jN2 jN3 jN1
    simp only [Bool.false_and, Bool.and_false, Bool.true_and, Bool.and_true, Bool.false_eq_true, ↓reduceIte] at hP hE
    replace hP := hid hP
    replace hE := hid hE
    go_enter Tryd.func9, Tryd.ntmps9
    go_wp2_with (first
      | ((with_reducible refine wpList_load_rng ?_ 34 (.tmp 2) rfl w.heap.size 0 rfl csT _ ?_ hut rfl jT.out ?_); rfl; exact T0.out))
    refine (CS.out _ (fl.out _ W0.out).1 (fl.out _ W0.out).2.2.2).mono ?_
    rintro e w1 ⟨rfl, hb1⟩
    have W1 := hid (W0.out.trans (hb1.mono W0.out.size))
    have T1 := hid (rangeBel2 hb1 T0.out)
    have Q1 := hid (rangeBel2 hb1 Q0.out)
    have K1 := hid (rangeBel2 hb1 K0.out)
    clear hb1
    have e1 := hid (heap_alloc_new w1 (.cells z32 27))
    go_wp2_with (first
      | (with_reducible refine wpList_alloc_row rfl 27 rfl z32 info32 ?_)
      | ((with_reducible refine wpList_store_row rfl 27 (.tmp 7) (.tmp 13) rfl _ _ rfl rfl 27 z32 ?_ ?_ ?_ ?_ ?_); exact e1.out; (rw [zd]; exact size32); (rw [zd]; exact z32_size); exact zo; intro w2 hg2 hb2 hs2; have X2 := hid (xnewP rfl hb2); have W2 := hid (W1.out.trans (X2.out.mono W1.out.size)); have T2 := hid (rangeBel2 X2.out T1.out); have Q2 := hid (rangeBel2 X2.out Q1.out); have K2 := hid (rangeBel2 X2.out K1.out); have S2 := hid (rangeOf hg2); clear hg2 hb2 hs2))
    replace hP := hP.out
    replace hE := hE.out
    go_ret3
    refine ⟨none, 0, none, 0, ?_, ?_, ?_, W2.out⟩
    · rw [← hP, ← hE]; rfl
    · rw [← hP]; exact ⟨Rd.nil _ _, Nat.le_refl _, Nat.zero_le _⟩
    · rw [← hP]; exact ⟨Rd.nil _ _, Nat.le_refl _, Nat.zero_le _⟩
  | true =>
    simp only [↓reduceIte] at CS CM
    replace CS := hid CS
    replace CM := hid CM
    replace fit := fit rfl
    replace om := om rfl
    cases m2 with
    | false =>
      clear CF CM U V fit om sm cf jN jN2 jN3 jN1
      simp only [Bool.false_and, Bool.and_false, Bool.true_and, Bool.and_true, Bool.false_eq_true, ↓reduceIte] at hP hE
      replace hP := hid hP
      replace hE := hid hE
      simp only [Bool.false_eq_true, ↓reduceIte] at C2
      go_enter Tryd.func9, Tryd.ntmps9
      go_wp2_with (first
        | ((with_reducible refine wpList_load_rng ?_ 34 (.tmp 2) rfl w.heap.size 0 rfl csT _ ?_ hut rfl jT.out ?_); rfl; exact T0.out))
      refine (CS.out _ (fl.out _ W0.out).1 (fl.out _ W0.out).2.2.2).mono ?_
      rintro e w1 ⟨rfl, hb1⟩
      have W1 := hid (W0.out.trans (hb1.mono W0.out.size))
      have T1 := hid (rangeBel2 hb1 T0.out)
      have Q1 := hid (rangeBel2 hb1 Q0.out)
      have K1 := hid (rangeBel2 hb1 K0.out)
      clear hb1
      have e1 := hid (heap_alloc_new w1 (.cells z32 27))
      go_wp2_with (first
        | (with_reducible refine wpList_alloc_row rfl 27 rfl z32 info32 ?_)
        | ((with_reducible refine wpList_store_row rfl 27 (.tmp 7) (.tmp 13) rfl _ _ rfl rfl 27 z32 ?_ ?_ ?_ ?_ ?_); exact e1.out; (rw [zd]; exact size32); (rw [zd]; exact z32_size); exact zo; intro w2 hg2 hb2 hs2; have X2 := hid (xnewP rfl hb2); have W2 := hid (W1.out.trans (X2.out.mono W1.out.size)); have T2 := hid (rangeBel2 X2.out T1.out); have Q2 := hid (rangeBel2 X2.out Q1.out); have K2 := hid (rangeBel2 X2.out K1.out); have S2 := hid (rangeOf hg2); clear hg2 hb2 hs2)
        | ((with_reducible refine wpList_load_rng ?_ 30 (.tmp 3) rfl (w.heap.size + 1) 0 rfl cs2 _ ?_ hup rfl jP.out ?_); rfl; exact Q2.out))
      refine (C2.out _ (fl.out _ W2.out).2.1).mono ?_
      rintro e w3 ⟨rfl, hb3⟩
      have W3 := hid (W2.out.trans (hb3.mono W2.out.size))
      have T3 := hid (rangeBel2 hb3 T2.out)
      have Q3 := hid (rangeBel2 hb3 Q2.out)
      have K3 := hid (rangeBel2 hb3 K2.out)
      have S3 := hid (rangeBel2 hb3 S2.out)
      clear hb3
      go_wp2
      replace hP := hP.out
      replace hE := hE.out
      go_ret3
      refine ⟨none, 0, none, 0, ?_, ?_, ?_, W3.out⟩
      · rw [← hP, ← hE]; rfl
      · rw [← hP]; exact ⟨Rd.nil _ _, Nat.le_refl _, Nat.zero_le _⟩
      · rw [← hP]; exact ⟨Rd.nil _ _, Nat.le_refl _, Nat.zero_le _⟩
    | true =>
      simp only [↓reduceIte] at C2
      replace CF := hid (CF (fit rfl))
      cases fb with
      | false =>
        clear CM U V om sm cf jN jN2 jN3 jN1
        simp only [Bool.false_and, Bool.and_false, Bool.true_and, Bool.and_true, Bool.false_eq_true, ↓reduceIte] at hP hE
        replace hP := hid hP
        replace hE := hid hE
        go_enter Tryd.func9, Tryd.ntmps9
        go_wp2_with (first
          | ((with_reducible refine wpList_load_rng ?_ 34 (.tmp 2) rfl w.heap.size 0 rfl csT _ ?_ hut rfl jT.out ?_); rfl; exact T0.out))
        refine (CS.out _ (fl.out _ W0.out).1 (fl.out _ W0.out).2.2.2).mono ?_
        rintro e w1 ⟨rfl, hb1⟩
        have W1 := hid (W0.out.trans (hb1.mono W0.out.size))
        have T1 := hid (rangeBel2 hb1 T0.out)
        have Q1 := hid (rangeBel2 hb1 Q0.out)
        have K1 := hid (rangeBel2 hb1 K0.out)
        clear hb1
        have e1 := hid (heap_alloc_new w1 (.cells z32 27))
        go_wp2_with (first
          | (with_reducible refine wpList_alloc_row rfl 27 rfl z32 info32 ?_)
          | ((with_reducible refine wpList_store_row rfl 27 (.tmp 7) (.tmp 13) rfl _ _ rfl rfl 27 z32 ?_ ?_ ?_ ?_ ?_); exact e1.out; (rw [zd]; exact size32); (rw [zd]; exact z32_size); exact zo; intro w2 hg2 hb2 hs2; have X2 := hid (xnewP rfl hb2); have W2 := hid (W1.out.trans (X2.out.mono W1.out.size)); have T2 := hid (rangeBel2 X2.out T1.out); have Q2 := hid (rangeBel2 X2.out Q1.out); have K2 := hid (rangeBel2 X2.out K1.out); have S2 := hid (rangeOf hg2); clear hg2 hb2 hs2)
          | ((with_reducible refine wpList_load_rng ?_ 30 (.tmp 3) rfl (w.heap.size + 1) 0 rfl cs2 _ ?_ hup rfl jP.out ?_); rfl; exact Q2.out))
        refine (C2.out _ (fl.out _ W2.out).2.1).mono ?_
        rintro e w3 ⟨rfl, hb3⟩
        have W3 := hid (W2.out.trans (hb3.mono W2.out.size))
        have T3 := hid (rangeBel2 hb3 T2.out)
        have Q3 := hid (rangeBel2 hb3 Q2.out)
        have K3 := hid (rangeBel2 hb3 K2.out)
        have S3 := hid (rangeBel2 hb3 S2.out)
        clear hb3
        go_wp2_with (first
          | ((with_reducible refine wpList_load_rng ?_ 30 (.tmp 3) rfl (w.heap.size + 1) 0 rfl cs2 _ ?_ hup rfl jP.out ?_); rfl; exact Q3.out)
          | ((with_reducible refine wpList_load_rng ?_ 27 (.tmp 7) rfl w1.heap.size 0 rfl dS _ ?_ hu rfl jS.out ?_); rfl; exact S3.out))
        refine (CF.out _ (fl.out _ W3.out).2.1 (fl.out _ W3.out).2.2.1 (fl.out _ W3.out).2.2.2).mono ?_
        rintro e w4 ⟨rfl, hb4⟩
        have W4 := hid (W3.out.trans (hb4.mono W3.out.size))
        have T4 := hid (rangeBel2 hb4 T3.out)
        have Q4 := hid (rangeBel2 hb4 Q3.out)
        have K4 := hid (rangeBel2 hb4 K3.out)
        clear hb4
        go_wp2
        replace hP := hP.out
        replace hE := hE.out
        go_ret3
        refine ⟨none, 0, none, 0, ?_, ?_, ?_, W4.out⟩
        · rw [← hP, ← hE]; rfl
        · rw [← hP]; exact ⟨Rd.nil _ _, Nat.le_refl _, Nat.zero_le _⟩
        · rw [← hP]; exact ⟨Rd.nil _ _, Nat.le_refl _, Nat.zero_le _⟩
      | true =>
        replace U := hid (U (sm o om) (sm y hm2))
        cases u with
        | false =>
          clear V om sm cf
          simp only [Bool.false_and, Bool.and_false, Bool.true_and, Bool.and_true, Bool.false_eq_true, ↓reduceIte] at hP hE
          replace hP := hid hP
          replace hE := hid hE
          go_enter Tryd.func9, Tryd.ntmps9
          go_wp2_with (first
            | ((with_reducible refine wpList_load_rng ?_ 34 (.tmp 2) rfl w.heap.size 0 rfl csT _ ?_ hut rfl jT.out ?_); rfl; exact T0.out))
          refine (CS.out _ (fl.out _ W0.out).1 (fl.out _ W0.out).2.2.2).mono ?_
          rintro e w1 ⟨rfl, hb1⟩
          have W1 := hid (W0.out.trans (hb1.mono W0.out.size))
          have T1 := hid (rangeBel2 hb1 T0.out)
          have Q1 := hid (rangeBel2 hb1 Q0.out)
          have K1 := hid (rangeBel2 hb1 K0.out)
          clear hb1
          have e1 := hid (heap_alloc_new w1 (.cells z32 27))
          go_wp2_with (first
            | (with_reducible refine wpList_alloc_row rfl 27 rfl z32 info32 ?_)
            | ((with_reducible refine wpList_store_row rfl 27 (.tmp 7) (.tmp 13) rfl _ _ rfl rfl 27 z32 ?_ ?_ ?_ ?_ ?_); exact e1.out; (rw [zd]; exact size32); (rw [zd]; exact z32_size); exact zo; intro w2 hg2 hb2 hs2; have X2 := hid (xnewP rfl hb2); have W2 := hid (W1.out.trans (X2.out.mono W1.out.size)); have T2 := hid (rangeBel2 X2.out T1.out); have Q2 := hid (rangeBel2 X2.out Q1.out); have K2 := hid (rangeBel2 X2.out K1.out); have S2 := hid (rangeOf hg2); clear hg2 hb2 hs2)
            | ((with_reducible refine wpList_load_rng ?_ 30 (.tmp 3) rfl (w.heap.size + 1) 0 rfl cs2 _ ?_ hup rfl jP.out ?_); rfl; exact Q2.out))
          refine (C2.out _ (fl.out _ W2.out).2.1).mono ?_
          rintro e w3 ⟨rfl, hb3⟩
          have W3 := hid (W2.out.trans (hb3.mono W2.out.size))
          have T3 := hid (rangeBel2 hb3 T2.out)
          have Q3 := hid (rangeBel2 hb3 Q2.out)
          have K3 := hid (rangeBel2 hb3 K2.out)
          have S3 := hid (rangeBel2 hb3 S2.out)
          clear hb3
          go_wp2_with (first
            | ((with_reducible refine wpList_load_rng ?_ 30 (.tmp 3) rfl (w.heap.size + 1) 0 rfl cs2 _ ?_ hup rfl jP.out ?_); rfl; exact Q3.out)
            | ((with_reducible refine wpList_load_rng ?_ 27 (.tmp 7) rfl w1.heap.size 0 rfl dS _ ?_ hu rfl jS.out ?_); rfl; exact S3.out))
          refine (CF.out _ (fl.out _ W3.out).2.1 (fl.out _ W3.out).2.2.1 (fl.out _ W3.out).2.2.2).mono ?_
          rintro e w4 ⟨rfl, hb4⟩
          have W4 := hid (W3.out.trans (hb4.mono W3.out.size))
          have T4 := hid (rangeBel2 hb4 T3.out)
          have Q4 := hid (rangeBel2 hb4 Q3.out)
          have K4 := hid (rangeBel2 hb4 K3.out)
          clear hb4
          go_wp2_with (first
            | ((with_reducible refine wpList_load_rng ?_ 34 (.tmp 2) rfl w.heap.size 0 rfl csT _ ?_ hut rfl jT.out ?_); rfl; exact T4.out)
            | ((with_reducible refine wpList_load_rng ?_ 27 (.tmp 28) rfl (w.heap.size + 1) 0 rfl dk _ ?_ hu rfl jK.out ?_); rfl; exact K4.out))
          refine (CM.out _ (fl.out _ W4.out).1 (fl.out _ W4.out).2.2.2).mono ?_
          rintro e w5 ⟨A3, c3, D3, d3, rfl, o5, s5, hb5⟩
          have o5c := o5.cap
          replace o5 := hid o5.rd
          replace s5 := hid s5
          have W5 := hid (W4.out.trans (hb5.mono W4.out.size))
          have T5 := hid (rangeBel2 hb5 T4.out)
          have Q5 := hid (rangeBel2 hb5 Q4.out)
          clear hb5
          have e5 := hid (heap_alloc_new w5 (.cells zPfC 30))
          replace jN := jN A3 c3 D3 d3
          replace jN2 := jN2 A3 c3 D3 d3
          replace jN3 := jN3 A3 c3 D3 d3
          replace jN1 := jN1 A3 c3 D3 d3
          replace U := hid (U.out A3 c3 D3 d3)
          generalize fN A3 c3 D3 d3 = csN at *
          go_wp2_with (first
            | (with_reducible refine wpList_alloc_row rfl 30 rfl zPfC zInfoPf ?_)
            | ((with_reducible refine wpList_store_row rfl 30 (.tmp 8) (.tmp 31) rfl _ _ rfl rfl 30 zPfC ?_ ?_ ?_ ?_ ?_); exact e5.out; exact jN2.out; exact jN3.out; exact jN1.out; intro w6 hg6 hb6 hs6; have X6 := hid (xnewP rfl hb6); have W6 := hid (W5.out.trans (X6.out.mono W5.out.size)); have T6 := hid (rangeBel2 X6.out T5.out); have Q6 := hid (rangeBel2 X6.out Q5.out); have N6 := hid (rangeOf hg6); have o6 := hid (o5.out.bel X6.out); have s6 := hid (s5.out.bel X6.out); clear hg6 hb6 hs6)
            | ((with_reducible refine wpList_load_rng ?_ 30 (.tmp 8) rfl w5.heap.size 0 rfl csN _ ?_ hup rfl jN.out ?_); rfl; exact N6.out)
            | ((with_reducible refine wpList_load_rng ?_ 30 (.tmp 3) rfl (w.heap.size + 1) 0 rfl cs2 _ ?_ hup rfl jP.out ?_); rfl; exact Q6.out))
          refine (U.out _ o6.out o5c.1 o5c.2 (fl.out _ W6.out).2.1).mono ?_
          rintro e w7 ⟨rfl, hb7⟩
          have o7 := hid (o6.out.bel hb7)
          have s7 := hid (s6.out.bel hb7)
          have W7 := hid (W6.out.trans (hb7.mono W6.out.size))
          have T7 := hid (rangeBel2 hb7 T6.out)
          have Q7 := hid (rangeBel2 hb7 Q6.out)
          have N7 := hid (rangeBel2 hb7 N6.out)
          clear hb7
          go_wp2
          replace hP := hP.out
          replace hE := hE.out
          go_ret3
          refine ⟨none, 0, none, 0, ?_, ?_, ?_, W7.out⟩
          · rw [← hP, ← hE]; rfl
          · rw [← hP]; exact ⟨Rd.nil _ _, Nat.le_refl _, Nat.zero_le _⟩
          · rw [← hP]; exact ⟨Rd.nil _ _, Nat.le_refl _, Nat.zero_le _⟩
        | true =>
          simp only [Bool.false_and, Bool.and_false, Bool.true_and, Bool.and_true, Bool.false_eq_true, ↓reduceIte] at hP hE
          rw [hP] at V cf
          replace V := hid (V om hm2 (cf om hm2 hu'))
          clear om sm cf hP
          replace hE := hid hE
          go_enter Tryd.func9, Tryd.ntmps9
          go_wp2_with (first
            | ((with_reducible refine wpList_load_rng ?_ 34 (.tmp 2) rfl w.heap.size 0 rfl csT _ ?_ hut rfl jT.out ?_); rfl; exact T0.out))
          refine (CS.out _ (fl.out _ W0.out).1 (fl.out _ W0.out).2.2.2).mono ?_
          rintro e w1 ⟨rfl, hb1⟩
          have W1 := hid (W0.out.trans (hb1.mono W0.out.size))
          have T1 := hid (rangeBel2 hb1 T0.out)
          have Q1 := hid (rangeBel2 hb1 Q0.out)
          have K1 := hid (rangeBel2 hb1 K0.out)
          clear hb1
          have e1 := hid (heap_alloc_new w1 (.cells z32 27))
          go_wp2_with (first
            | (with_reducible refine wpList_alloc_row rfl 27 rfl z32 info32 ?_)
            | ((with_reducible refine wpList_store_row rfl 27 (.tmp 7) (.tmp 13) rfl _ _ rfl rfl 27 z32 ?_ ?_ ?_ ?_ ?_); exact e1.out; (rw [zd]; exact size32); (rw [zd]; exact z32_size); exact zo; intro w2 hg2 hb2 hs2; have X2 := hid (xnewP rfl hb2); have W2 := hid (W1.out.trans (X2.out.mono W1.out.size)); have T2 := hid (rangeBel2 X2.out T1.out); have Q2 := hid (rangeBel2 X2.out Q1.out); have K2 := hid (rangeBel2 X2.out K1.out); have S2 := hid (rangeOf hg2); clear hg2 hb2 hs2)
            | ((with_reducible refine wpList_load_rng ?_ 30 (.tmp 3) rfl (w.heap.size + 1) 0 rfl cs2 _ ?_ hup rfl jP.out ?_); rfl; exact Q2.out))
          refine (C2.out _ (fl.out _ W2.out).2.1).mono ?_
          rintro e w3 ⟨rfl, hb3⟩
          have W3 := hid (W2.out.trans (hb3.mono W2.out.size))
          have T3 := hid (rangeBel2 hb3 T2.out)
          have Q3 := hid (rangeBel2 hb3 Q2.out)
          have K3 := hid (rangeBel2 hb3 K2.out)
          have S3 := hid (rangeBel2 hb3 S2.out)
          clear hb3
          go_wp2_with (first
            | ((with_reducible refine wpList_load_rng ?_ 30 (.tmp 3) rfl (w.heap.size + 1) 0 rfl cs2 _ ?_ hup rfl jP.out ?_); rfl; exact Q3.out)
            | ((with_reducible refine wpList_load_rng ?_ 27 (.tmp 7) rfl w1.heap.size 0 rfl dS _ ?_ hu rfl jS.out ?_); rfl; exact S3.out))
          refine (CF.out _ (fl.out _ W3.out).2.1 (fl.out _ W3.out).2.2.1 (fl.out _ W3.out).2.2.2).mono ?_
          rintro e w4 ⟨rfl, hb4⟩
          have W4 := hid (W3.out.trans (hb4.mono W3.out.size))
          have T4 := hid (rangeBel2 hb4 T3.out)
          have Q4 := hid (rangeBel2 hb4 Q3.out)
          have K4 := hid (rangeBel2 hb4 K3.out)
          clear hb4
          go_wp2_with (first
            | ((with_reducible refine wpList_load_rng ?_ 34 (.tmp 2) rfl w.heap.size 0 rfl csT _ ?_ hut rfl jT.out ?_); rfl; exact T4.out)
            | ((with_reducible refine wpList_load_rng ?_ 27 (.tmp 28) rfl (w.heap.size + 1) 0 rfl dk _ ?_ hu rfl jK.out ?_); rfl; exact K4.out))
          refine (CM.out _ (fl.out _ W4.out).1 (fl.out _ W4.out).2.2.2).mono ?_
          rintro e w5 ⟨A3, c3, D3, d3, rfl, o5, s5, hb5⟩
          have o5c := o5.cap
          replace o5 := hid o5.rd
          replace s5 := hid s5
          have W5 := hid (W4.out.trans (hb5.mono W4.out.size))
          have T5 := hid (rangeBel2 hb5 T4.out)
          have Q5 := hid (rangeBel2 hb5 Q4.out)
          clear hb5
          have e5 := hid (heap_alloc_new w5 (.cells zPfC 30))
          replace jN := jN A3 c3 D3 d3
          replace jN2 := jN2 A3 c3 D3 d3
          replace jN3 := jN3 A3 c3 D3 d3
          replace jN1 := jN1 A3 c3 D3 d3
          replace U := hid (U.out A3 c3 D3 d3)
          replace V := hid (fun F => V.out F A3 c3 D3 d3)
          generalize fN A3 c3 D3 d3 = csN at *
          go_wp2_with (first
            | (with_reducible refine wpList_alloc_row rfl 30 rfl zPfC zInfoPf ?_)
            | ((with_reducible refine wpList_store_row rfl 30 (.tmp 8) (.tmp 31) rfl _ _ rfl rfl 30 zPfC ?_ ?_ ?_ ?_ ?_); exact e5.out; exact jN2.out; exact jN3.out; exact jN1.out; intro w6 hg6 hb6 hs6; have X6 := hid (xnewP rfl hb6); have W6 := hid (W5.out.trans (X6.out.mono W5.out.size)); have T6 := hid (rangeBel2 X6.out T5.out); have Q6 := hid (rangeBel2 X6.out Q5.out); have N6 := hid (rangeOf hg6); have o6 := hid (o5.out.bel X6.out); have s6 := hid (s5.out.bel X6.out); clear hg6 hb6 hs6)
            | ((with_reducible refine wpList_load_rng ?_ 30 (.tmp 8) rfl w5.heap.size 0 rfl csN _ ?_ hup rfl jN.out ?_); rfl; exact N6.out)
            | ((with_reducible refine wpList_load_rng ?_ 30 (.tmp 3) rfl (w.heap.size + 1) 0 rfl cs2 _ ?_ hup rfl jP.out ?_); rfl; exact Q6.out))
          refine (U.out _ o6.out o5c.1 o5c.2 (fl.out _ W6.out).2.1).mono ?_
          rintro e w7 ⟨rfl, hb7⟩
          have o7 := hid (o6.out.bel hb7)
          have s7 := hid (s6.out.bel hb7)
          have W7 := hid (W6.out.trans (hb7.mono W6.out.size))
          have T7 := hid (rangeBel2 hb7 T6.out)
          have Q7 := hid (rangeBel2 hb7 Q6.out)
          have N7 := hid (rangeBel2 hb7 N6.out)
          clear hb7
          go_wp2_with (first
            | ((with_reducible refine wpList_load_rng ?_ 30 (.tmp 8) rfl w5.heap.size 0 rfl csN _ ?_ hup rfl jN.out ?_); rfl; exact N7.out)
            | ((with_reducible refine wpList_load_rng ?_ 30 (.tmp 3) rfl (w.heap.size + 1) 0 rfl cs2 _ ?_ hup rfl jP.out ?_); rfl; exact Q7.out))
          refine (V.out _ _ o7.out o5c.1 o5c.2 s7.out (fl.out _ W7.out).2.1 (fl.out _ W7.out).2.2.1 (fl.out _ W7.out).2.2.2).mono ?_
          rintro e w8 ⟨A7, c7, A8, c8, rfl, t7, t8, hb8⟩
          replace t7 := hid t7
          replace t8 := hid t8
          have W8 := hid (W7.out.trans (hb8.mono W7.out.size))
          clear hb8
          go_wp2
          go_ret3
          exact ⟨A7, c7, A8, c8, by rw [← hE.out]; rfl, t7.out, t8.out, W8.out⟩
end Go.Proofs.YtapnhdpgogfceaaDoor
