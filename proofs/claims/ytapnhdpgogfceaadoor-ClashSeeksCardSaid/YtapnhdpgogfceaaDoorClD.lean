/-
  Contracts of the landed package clash: Seek.
-/
import Derived.Test.YtapnhdpgogfceaaDoorClB
import Derived.Test.YtapnhdpgogfceaaDoorClC
import Derived.Test.YtapnhdpgogfceaaDoorClQ
namespace Go.Proofs.YtapnhdpgogfceaaDoor
open Go.RowKit
set_option linter.unusedVariables false
set_option linter.unusedSimpArgs false
set_option maxRecDepth 100000

set_option maxHeartbeats 2000000 in
theorem ClSeek_any (F G : Nat → Prop) (x y : Pf) (A A2 : Option Addr) (c c2 : Nat) (D D2 : Option Addr) (d d2 : Nat) (w : World) (hr : Rd w A x.v) (h1 : x.v.length ≤ c) (h2 : c ≤ maxLen) (hs : Row F w D x.ss) (hr2 : Rd w A2 y.v) (h3 : y.v.length ≤ c2) (h4 : c2 ≤ maxLen) (hs2 : Row G w D2 y.ss) (hT : Tab w) :
    Calls Tryd.prog 6 #[.agg (pfC x A c D d).toArray, .agg (pfC y A2 c2 D2 d2).toArray] w fun e w' => ∃ A5 c5 A6 c6, e = .returned (.tuple #[.slice A5 (seekP x y).1.length c5, .slice A6 (seekP x y).2.length c6, .int .i64 (seekE x y)]) ∧ Txt w' A5 c5 (seekP x y).1 ∧ Txt w' A6 c6 (seekP x y).2 ∧ Below w.heap.size w w' := by
  obtain ⟨B1, B2, W0⟩ := boxesPPr w x y A A2 c c2 D D2 d d2 30
  have hup := Tryd.underlying30
  have p0 := hid B1.all
  have q0 := hid B2.all
  have j1 := hid (sizePfC x A c D d)
  have j2 := hid (sizePfC y A2 c2 D2 d2)
  obtain ⟨m1, hm1⟩ : ∃ m, mayF x = m := ⟨_, rfl⟩
  obtain ⟨m2, hm2⟩ : ∃ m, mayF y = m := ⟨_, rfl⟩
  obtain ⟨u, hu⟩ : ∃ u, unlikeF x y = u := ⟨_, rfl⟩
  obtain ⟨P, hP⟩ : ∃ P, seekP x y = P := ⟨_, rfl⟩
  obtain ⟨E, hE⟩ : ∃ E, seekE x y = E := ⟨_, rfl⟩
  rw [hP, hE]
  unfold seekP at hP
  unfold seekE at hE
  rw [hm1, hm2, hu] at hP hE
  have C1 := hid (fun W (h : Rd W A x.v) => PfCheck_is x A c D d m1 W h h1 h2 hm1)
  have C2 := hid (fun W (h : Rd W A2 y.v) => PfCheck_is y A2 c2 D2 d2 m2 W h h3 h4 hm2)
  have U := fun (k1 : x.v.length ≤ 1000000) (k2 : y.v.length ≤ 1000000) W (h : Rd W A x.v) (h' : Rd W A2 y.v) => ClTell_is F G x y A A2 c c2 D D2 d d2 u W h h1 h2 k1 h' h3 h4 k2 hu
  have V := fun (k1 : mayF x = true) (k2 : mayF y = true) (hne : (firstI (inP x) (inP y)).1 ≠ (firstI (inP x) (inP y)).2) W (h : Rd W A x.v) (hs : Row F W D x.ss) (h' : Rd W A2 y.v) (hs2 : Row G W D2 y.ss) (hT : Tab W) => ClFirst_any x y A A2 c c2 D D2 d d2 F G _ _ W k1 k2 rfl rfl hne h h1 h2 hs h' h3 h4 hs2 hT
  have fl : Hid (∀ W, Below w.heap.size w W → Rd W A x.v ∧ Row F W D x.ss ∧ Rd W A2 y.v ∧ Row G W D2 y.ss ∧ Tab W) := hid fun W hb => ⟨hr.bel hb, hs.bel hb, hr2.bel hb, hs2.bel hb, hT.bel hb hT.low⟩
  have sm1 := fun h => Nat.le_trans (may_small (x := x) h).1 (show 1000 ≤ 1000000 by omega)
  have sm2 := fun h => Nat.le_trans (may_small (x := y) h).1 (show 1000 ≤ 1000000 by omega)
  have cf := fun h k l => (clash_found (a := x) (b := y) h k l).1
  replace W0 := hid W0
  clear hr hr2 hs hs2 B1 B2 hT
  generalize pfC x A c D d = cs1 at *
  generalize pfC y A2 c2 D2 d2 = cs2 at *
  cases m1 with
  | false =>
    clear V U sm1 sm2 cf
    simp only [Bool.false_and, Bool.and_false, Bool.true_and, Bool.and_true, Bool.false_eq_true, ↓reduceIte] at hP hE
    replace hP := hid hP
    replace hE := hid hE
    try simp only [Bool.false_eq_true, ↓reduceIte] at C1
    go_enter Tryd.func6, Tryd.ntmps6
    go_wp2_with (first
      | ((with_reducible refine wpList_load_rng ?_ 30 (.tmp 2) rfl w.heap.size 0 rfl cs1 _ ?_ hup rfl j1.out ?_); rfl; exact p0.out)
      | ((with_reducible refine wpList_load_rng ?_ 30 (.tmp 3) rfl (w.heap.size + 1) 0 rfl cs2 _ ?_ hup rfl j2.out ?_); rfl; exact q0.out))
    refine (C1.out _ (fl.out _ W0.out).1).mono ?_
    rintro e w1 ⟨rfl, hb1⟩
    have W1 := hid (W0.out.trans (hb1.mono W0.out.size))
    have p1 := hid (rangeBel2 hb1 p0.out)
    have q1 := hid (rangeBel2 hb1 q0.out)
    clear hb1
    go_wp2
    replace hP := hP.out
    replace hE := hE.out
    go_ret3
    refine ⟨none, 0, none, 0, ?_, ?_, ?_, W1.out⟩
    · rw [← hP, ← hE]; rfl
    · rw [← hP]; exact ⟨Rd.nil _ _, Nat.le_refl _, Nat.zero_le _⟩
    · rw [← hP]; exact ⟨Rd.nil _ _, Nat.le_refl _, Nat.zero_le _⟩
  | true =>
    try simp only [↓reduceIte] at C1
    cases m2 with
    | false =>
      clear V U sm1 sm2 cf
      simp only [Bool.false_and, Bool.and_false, Bool.true_and, Bool.and_true, Bool.false_eq_true, ↓reduceIte] at hP hE
      replace hP := hid hP
      replace hE := hid hE
      try simp only [Bool.false_eq_true, ↓reduceIte] at C2
      go_enter Tryd.func6, Tryd.ntmps6
      go_wp2_with (first
        | ((with_reducible refine wpList_load_rng ?_ 30 (.tmp 2) rfl w.heap.size 0 rfl cs1 _ ?_ hup rfl j1.out ?_); rfl; exact p0.out)
        | ((with_reducible refine wpList_load_rng ?_ 30 (.tmp 3) rfl (w.heap.size + 1) 0 rfl cs2 _ ?_ hup rfl j2.out ?_); rfl; exact q0.out))
      refine (C1.out _ (fl.out _ W0.out).1).mono ?_
      rintro e w1 ⟨rfl, hb1⟩
      have W1 := hid (W0.out.trans (hb1.mono W0.out.size))
      have p1 := hid (rangeBel2 hb1 p0.out)
      have q1 := hid (rangeBel2 hb1 q0.out)
      clear hb1
      go_wp2_with (first
        | ((with_reducible refine wpList_load_rng ?_ 30 (.tmp 2) rfl w.heap.size 0 rfl cs1 _ ?_ hup rfl j1.out ?_); rfl; exact p1.out)
        | ((with_reducible refine wpList_load_rng ?_ 30 (.tmp 3) rfl (w.heap.size + 1) 0 rfl cs2 _ ?_ hup rfl j2.out ?_); rfl; exact q1.out))
      refine (C2.out _ (fl.out _ W1.out).2.2.1).mono ?_
      rintro e w2 ⟨rfl, hb2⟩
      have W2 := hid (W1.out.trans (hb2.mono W1.out.size))
      have p2 := hid (rangeBel2 hb2 p1.out)
      have q2 := hid (rangeBel2 hb2 q1.out)
      clear hb2
      go_wp2
      replace hP := hP.out
      replace hE := hE.out
      go_ret3
      refine ⟨none, 0, none, 0, ?_, ?_, ?_, W2.out⟩
      · rw [← hP, ← hE]; rfl
      · rw [← hP]; exact ⟨Rd.nil _ _, Nat.le_refl _, Nat.zero_le _⟩
      · rw [← hP]; exact ⟨Rd.nil _ _, Nat.le_refl _, Nat.zero_le _⟩
    | true =>
      try simp only [↓reduceIte] at C2
      replace U := hid (U (sm1 hm1) (sm2 hm2))
      cases u with
      | false =>
        clear V sm1 sm2 cf
        simp only [Bool.false_and, Bool.and_false, Bool.true_and, Bool.and_true, Bool.false_eq_true, ↓reduceIte] at hP hE
        replace hP := hid hP
        replace hE := hid hE
        go_enter Tryd.func6, Tryd.ntmps6
        go_wp2_with (first
          | ((with_reducible refine wpList_load_rng ?_ 30 (.tmp 2) rfl w.heap.size 0 rfl cs1 _ ?_ hup rfl j1.out ?_); rfl; exact p0.out)
          | ((with_reducible refine wpList_load_rng ?_ 30 (.tmp 3) rfl (w.heap.size + 1) 0 rfl cs2 _ ?_ hup rfl j2.out ?_); rfl; exact q0.out))
        refine (C1.out _ (fl.out _ W0.out).1).mono ?_
        rintro e w1 ⟨rfl, hb1⟩
        have W1 := hid (W0.out.trans (hb1.mono W0.out.size))
        have p1 := hid (rangeBel2 hb1 p0.out)
        have q1 := hid (rangeBel2 hb1 q0.out)
        clear hb1
        go_wp2_with (first
          | ((with_reducible refine wpList_load_rng ?_ 30 (.tmp 2) rfl w.heap.size 0 rfl cs1 _ ?_ hup rfl j1.out ?_); rfl; exact p1.out)
          | ((with_reducible refine wpList_load_rng ?_ 30 (.tmp 3) rfl (w.heap.size + 1) 0 rfl cs2 _ ?_ hup rfl j2.out ?_); rfl; exact q1.out))
        refine (C2.out _ (fl.out _ W1.out).2.2.1).mono ?_
        rintro e w2 ⟨rfl, hb2⟩
        have W2 := hid (W1.out.trans (hb2.mono W1.out.size))
        have p2 := hid (rangeBel2 hb2 p1.out)
        have q2 := hid (rangeBel2 hb2 q1.out)
        clear hb2
        go_wp2_with (first
          | ((with_reducible refine wpList_load_rng ?_ 30 (.tmp 2) rfl w.heap.size 0 rfl cs1 _ ?_ hup rfl j1.out ?_); rfl; exact p2.out)
          | ((with_reducible refine wpList_load_rng ?_ 30 (.tmp 3) rfl (w.heap.size + 1) 0 rfl cs2 _ ?_ hup rfl j2.out ?_); rfl; exact q2.out))
        refine (U.out _ (fl.out _ W2.out).1 (fl.out _ W2.out).2.2.1).mono ?_
        rintro e w3 ⟨rfl, hb3⟩
        have W3 := hid (W2.out.trans (hb3.mono W2.out.size))
        have p3 := hid (rangeBel2 hb3 p2.out)
        have q3 := hid (rangeBel2 hb3 q2.out)
        clear hb3
        go_wp2
        replace hP := hP.out
        replace hE := hE.out
        go_ret3
        refine ⟨none, 0, none, 0, ?_, ?_, ?_, W3.out⟩
        · rw [← hP, ← hE]; rfl
        · rw [← hP]; exact ⟨Rd.nil _ _, Nat.le_refl _, Nat.zero_le _⟩
        · rw [← hP]; exact ⟨Rd.nil _ _, Nat.le_refl _, Nat.zero_le _⟩
      | true =>
        simp only [Bool.false_and, Bool.and_false, Bool.true_and, Bool.and_true, Bool.false_eq_true, ↓reduceIte] at hP hE
        rw [hP] at V cf
        replace V := hid (V hm1 hm2 (cf hm1 hm2 hu))
        clear sm1 sm2 cf hP
        replace hE := hid hE
        go_enter Tryd.func6, Tryd.ntmps6
        go_wp2_with (first
          | ((with_reducible refine wpList_load_rng ?_ 30 (.tmp 2) rfl w.heap.size 0 rfl cs1 _ ?_ hup rfl j1.out ?_); rfl; exact p0.out)
          | ((with_reducible refine wpList_load_rng ?_ 30 (.tmp 3) rfl (w.heap.size + 1) 0 rfl cs2 _ ?_ hup rfl j2.out ?_); rfl; exact q0.out))
        refine (C1.out _ (fl.out _ W0.out).1).mono ?_
        rintro e w1 ⟨rfl, hb1⟩
        have W1 := hid (W0.out.trans (hb1.mono W0.out.size))
        have p1 := hid (rangeBel2 hb1 p0.out)
        have q1 := hid (rangeBel2 hb1 q0.out)
        clear hb1
        go_wp2_with (first
          | ((with_reducible refine wpList_load_rng ?_ 30 (.tmp 2) rfl w.heap.size 0 rfl cs1 _ ?_ hup rfl j1.out ?_); rfl; exact p1.out)
          | ((with_reducible refine wpList_load_rng ?_ 30 (.tmp 3) rfl (w.heap.size + 1) 0 rfl cs2 _ ?_ hup rfl j2.out ?_); rfl; exact q1.out))
        refine (C2.out _ (fl.out _ W1.out).2.2.1).mono ?_
        rintro e w2 ⟨rfl, hb2⟩
        have W2 := hid (W1.out.trans (hb2.mono W1.out.size))
        have p2 := hid (rangeBel2 hb2 p1.out)
        have q2 := hid (rangeBel2 hb2 q1.out)
        clear hb2
        go_wp2_with (first
          | ((with_reducible refine wpList_load_rng ?_ 30 (.tmp 2) rfl w.heap.size 0 rfl cs1 _ ?_ hup rfl j1.out ?_); rfl; exact p2.out)
          | ((with_reducible refine wpList_load_rng ?_ 30 (.tmp 3) rfl (w.heap.size + 1) 0 rfl cs2 _ ?_ hup rfl j2.out ?_); rfl; exact q2.out))
        refine (U.out _ (fl.out _ W2.out).1 (fl.out _ W2.out).2.2.1).mono ?_
        rintro e w3 ⟨rfl, hb3⟩
        have W3 := hid (W2.out.trans (hb3.mono W2.out.size))
        have p3 := hid (rangeBel2 hb3 p2.out)
        have q3 := hid (rangeBel2 hb3 q2.out)
        clear hb3
        go_wp2_with (first
          | ((with_reducible refine wpList_load_rng ?_ 30 (.tmp 2) rfl w.heap.size 0 rfl cs1 _ ?_ hup rfl j1.out ?_); rfl; exact p3.out)
          | ((with_reducible refine wpList_load_rng ?_ 30 (.tmp 3) rfl (w.heap.size + 1) 0 rfl cs2 _ ?_ hup rfl j2.out ?_); rfl; exact q3.out))
        refine (V.out _ (fl.out _ W3.out).1 (fl.out _ W3.out).2.1 (fl.out _ W3.out).2.2.1 (fl.out _ W3.out).2.2.2.1 (fl.out _ W3.out).2.2.2.2).mono ?_
        rintro e w4 ⟨A5, c5, A6, c6, rfl, t5, t6, hb4⟩
        replace t5 := hid t5
        replace t6 := hid t6
        have W4 := hid (W3.out.trans (hb4.mono W3.out.size))
        have p4 := hid (rangeBel2 hb4 p3.out)
        have q4 := hid (rangeBel2 hb4 q3.out)
        clear hb4
        go_wp2
        go_ret3
        exact ⟨A5, c5, A6, c6, by rw [← hE.out]; rfl, t5.out, t6.out, W4.out⟩
end Go.Proofs.YtapnhdpgogfceaaDoor
