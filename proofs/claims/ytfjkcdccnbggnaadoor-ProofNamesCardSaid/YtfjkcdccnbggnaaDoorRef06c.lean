/-
  The document's answers of layer 6: Twin, SameDigests.
-/
import Derived.Test.YtfjkcdccnbggnaaDoorTreeB
import Derived.Test.YtfjkcdccnbggnaaDoorBits
import Derived.Test.YtfjkcdccnbggnaaDoorMem
import Derived.Test.YtfjkcdccnbggnaaDoorRefE
import Derived.Test.YtfjkcdccnbggnaaDoorPlain
import Derived.IntWalk
namespace Go.Proofs.YtfjkcdccnbggnaaDoor
open Go.RowKit
set_option linter.unusedVariables false
set_option linter.unusedSimpArgs false
set_option maxRecDepth 100000


theorem take_eq_succD {ps qs : List Dg} {j : Nat} (h1 : j < ps.length) (h2 : j < qs.length) (h : ps.take j = qs.take j) : ps.take (j + 1) = qs.take (j + 1) ↔ ps[j] = qs[j] := by
  rw [List.take_succ_eq_append_getElem h1, List.take_succ_eq_append_getElem h2, h]
  exact ⟨fun e => by have := List.append_cancel_left e; simpa using this, fun e => by rw [e]⟩
theorem row_dg {F : Nat → Prop} {w : World} {A : Option Addr} {xs : List Dg} (h : Row F w A xs) {j : Nat} (hj : j < xs.length) : ∃ b o, A = some ⟨b, o, none⟩ ∧ w.rangeAt b (o + j * 32) (xs[j].1.map bv) := by
  obtain ⟨b, o, rfl, _, _, h3⟩ := h (by omega)
  obtain ⟨vs, h1, h2⟩ := h3 j _ (List.getElem?_eq_getElem hj)
  have h1 : vs = xs[j].1.map bv := h1
  subst h1
  exact ⟨b, o, rfl, h2⟩
set_option maxHeartbeats 1000000 in
theorem RSameDg_any (F G : Nat → Prop) (A D : Option Addr) (c d : Nat) (ps qs : List Dg) (w : World) (hr : Row F w A ps) (hs : Row G w D qs) (hc : ps.length ≤ 9223372036854775807) (hd : qs.length ≤ 9223372036854775807) :
    Calls Tryd.prog 62 #[.slice A ps.length c, .slice D qs.length d] w fun e w' => e = .returned (.bool (decide (ps = qs))) ∧ Below w.heap.size w w' := by
  obtain ⟨ans, ha⟩ : ∃ ans, decide (ps = qs) = ans := ⟨_, rfl⟩
  rw [ha]
  replace ha := hid ha
  by_cases hl : ps.length = qs.length
  · have hl2 := hid hl
    rw [← hl] at hd ⊢
    replace hl := hl2
    clear hl2
    go_enter Tryd.func62, Tryd.ntmps62
    go_wp2
    go_loopw [5] (fun i wr => ∃ j : Nat, j ≤ ps.length ∧ i = .int .i64 j ∧ ps.take j = qs.take j ∧ Below w.heap.size w wr) (fun i _ => ps.length - (intOf i).toNat)
    case atStart => exact ⟨0, Nat.zero_le _, rfl, by simp, Below.refl _ _⟩
    case round =>
      obtain ⟨j, hj, rfl, hrel, hb⟩ := hrel
      by_cases hlt : j < ps.length
      · have hlt2 : j < qs.length := by rw [← hl.out]; exact hlt
        have E := hid (take_eq_succD hlt hlt2 hrel)
        replace hrel := hid hrel
        have hu := Tryd.underlying23
        obtain ⟨b, o, hA, r1⟩ := row_dg hr hlt
        obtain ⟨b', o', hD, r2⟩ := row_dg hs hlt2
        subst hA hD
        obtain ⟨eb, heb⟩ : ∃ eb, decide (ps[j] = qs[j]) = eb := ⟨_, rfl⟩
        have hE : ∀ W, (Op.equalIn 10000 23 (.agg (ps[j].1.map bv).toArray) (.agg (qs[j].1.map bv).toArray)).run Tryd.prog W = .ok eb W := fun W => eqd_is ps[j] qs[j] eb heb W
        have hno : eb = false → false = ans := by
          intro h
          rw [← ha.out]
          refine (decide_eq_false fun e => ?_).symm
          have := E.out.1 (by rw [e])
          rw [h] at heb; simp [this] at heb
        have hyes : eb = true → ps.take (j + 1) = qs.take (j + 1) := fun h1 => E.out.2 (by simpa [h1] using heb)
        have hi1 := hid (sizeDgT ps[j])
        have hi2 := hid (sizeDgT qs[j])
        clear heb E
        generalize ps[j].1.map bv = d1 at *
        generalize qs[j].1.map bv = d2 at *
        have q1 := hid r1
        have q2 := hid r2
        clear hlt2 r1 r2
        cases eb
        · replace hno := hid (hno rfl)
          clear hyes
          go_wp2
          refine wp_region_noPanic ?_
          refine wp_region_held_drew (S := fun w' => Below wr.heap.size wr w') (by kernel_rfl) ?_ (fun hHeld => ?_)
          · exact bel_drew wr
          refine' wpAnyH_take (i := 0) (oi := _) (v := ?_) rfl (by kernel_rfl) (by kernel_rfl) (by kernel_rfl) (fun _ _ _ h => h) (Or.inl ⟨by rfl, ?_⟩) (by assumption) ?_
          rotate_left
          · intro W hSw
            go_simp
            first | done | (with_reducible rfl)
          try simp only [Act.put, sQa, sQb, sQc, gQa, gQb, gQc]
          refine' wpAnyH_take (i := 1) (oi := _) (v := ?_) rfl (by kernel_rfl) (by kernel_rfl) (by kernel_rfl) (fun _ _ _ h => h) (Or.inl ⟨by rfl, ?_⟩) (by assumption) ?_
          rotate_left
          · intro W hSw
            go_simp
            first | done | (with_reducible rfl)
          try simp only [Act.put, sQa, sQb, sQc, gQa, gQb, gQc]
          refine' wpAnyH_take (i := 2) (oi := _) (v := ?_) rfl (by kernel_rfl) (by kernel_rfl) (by kernel_rfl) (fun _ _ _ h => h) (Or.inl ⟨by rfl, ?_⟩) (by assumption) ?_
          rotate_left
          · intro W hSw
            go_simp
            first | done | (with_reducible rfl)
          try simp only [Act.put, sQa, sQb, sQc, gQa, gQb, gQc]
          refine' wpAnyH_take (i := 3) (oi := _) (v := _) rfl (by kernel_rfl) (by kernel_rfl) (by kernel_rfl) (fun _ _ _ h => h) (yieldsIf_load_mid (by rfl) _ _ rfl _ _ rfl _ _ (fun _ h => rangeBel2 h (rangeBel2 hb q1.out)) hu rfl hi1.out) (by assumption) ?_
          try simp only [Act.put, sQa, sQb, sQc, gQa, gQb, gQc]
          refine' wpAnyH_take (i := 4) (oi := _) (v := ?_) rfl (by kernel_rfl) (by kernel_rfl) (by kernel_rfl) (fun _ _ _ h => h) (Or.inl ⟨by rfl, ?_⟩) (by assumption) ?_
          rotate_left
          · intro W hSw
            go_simp
            first | done | (with_reducible rfl)
          try simp only [Act.put, sQa, sQb, sQc, gQa, gQb, gQc]
          refine' wpAnyH_take (i := 5) (oi := _) (v := ?_) rfl (by kernel_rfl) (by kernel_rfl) (by kernel_rfl) (fun _ _ _ h => h) (Or.inl ⟨by rfl, ?_⟩) (by assumption) ?_
          rotate_left
          · intro W hSw
            go_simp
            first | done | (with_reducible rfl)
          try simp only [Act.put, sQa, sQb, sQc, gQa, gQb, gQc]
          refine' wpAnyH_take (i := 6) (oi := _) (v := ?_) rfl (by kernel_rfl) (by kernel_rfl) (by kernel_rfl) (fun _ _ _ h => h) (Or.inl ⟨by rfl, ?_⟩) (by assumption) ?_
          rotate_left
          · intro W hSw
            go_simp
            first | done | (with_reducible rfl)
          try simp only [Act.put, sQa, sQb, sQc, gQa, gQb, gQc]
          refine' wpAnyH_take (i := 7) (oi := _) (v := _) rfl (by kernel_rfl) (by kernel_rfl) (by kernel_rfl) (fun _ _ _ h => h) (yieldsIf_load_mid (by rfl) _ _ rfl _ _ rfl _ _ (fun _ h => rangeBel2 h (rangeBel2 hb q2.out)) hu rfl hi2.out) (by assumption) ?_
          try simp only [Act.put, sQa, sQb, sQc, gQa, gQb, gQc]
          refine' wpAnyH_take (i := 8) (oi := _) (v := ?_) rfl (by kernel_rfl) (by kernel_rfl) (by kernel_rfl) (fun _ _ _ h => h) (Or.inl ⟨by rfl, ?_⟩) (by assumption) ?_
          rotate_left
          · intro W hSw
            go_simp
            first | done | (with_reducible rfl)
          try simp only [Act.put, sQa, sQb, sQc, gQa, gQb, gQc]
          refine wpAnyH_done (by kernel_rfl) ?_ _
          refine NoPanic.normal ?_
          go_wp2
          go_ret
          exact ⟨ret_b hno.out, hb.trans (hHeld.mono hb.size)⟩
        · replace hyes := hid (hyes rfl)
          clear hno
          go_wp2
          refine wp_region_noPanic ?_
          refine wp_region_held_drew (S := fun w' => Below wr.heap.size wr w') (by kernel_rfl) ?_ (fun hHeld => ?_)
          · exact bel_drew wr
          refine' wpAnyH_take (i := 0) (oi := _) (v := ?_) rfl (by kernel_rfl) (by kernel_rfl) (by kernel_rfl) (fun _ _ _ h => h) (Or.inl ⟨by rfl, ?_⟩) (by assumption) ?_
          rotate_left
          · intro W hSw
            go_simp
            first | done | (with_reducible rfl)
          try simp only [Act.put, sQa, sQb, sQc, gQa, gQb, gQc]
          refine' wpAnyH_take (i := 1) (oi := _) (v := ?_) rfl (by kernel_rfl) (by kernel_rfl) (by kernel_rfl) (fun _ _ _ h => h) (Or.inl ⟨by rfl, ?_⟩) (by assumption) ?_
          rotate_left
          · intro W hSw
            go_simp
            first | done | (with_reducible rfl)
          try simp only [Act.put, sQa, sQb, sQc, gQa, gQb, gQc]
          refine' wpAnyH_take (i := 2) (oi := _) (v := ?_) rfl (by kernel_rfl) (by kernel_rfl) (by kernel_rfl) (fun _ _ _ h => h) (Or.inl ⟨by rfl, ?_⟩) (by assumption) ?_
          rotate_left
          · intro W hSw
            go_simp
            first | done | (with_reducible rfl)
          try simp only [Act.put, sQa, sQb, sQc, gQa, gQb, gQc]
          refine' wpAnyH_take (i := 3) (oi := _) (v := _) rfl (by kernel_rfl) (by kernel_rfl) (by kernel_rfl) (fun _ _ _ h => h) (yieldsIf_load_mid (by rfl) _ _ rfl _ _ rfl _ _ (fun _ h => rangeBel2 h (rangeBel2 hb q1.out)) hu rfl hi1.out) (by assumption) ?_
          try simp only [Act.put, sQa, sQb, sQc, gQa, gQb, gQc]
          refine' wpAnyH_take (i := 4) (oi := _) (v := ?_) rfl (by kernel_rfl) (by kernel_rfl) (by kernel_rfl) (fun _ _ _ h => h) (Or.inl ⟨by rfl, ?_⟩) (by assumption) ?_
          rotate_left
          · intro W hSw
            go_simp
            first | done | (with_reducible rfl)
          try simp only [Act.put, sQa, sQb, sQc, gQa, gQb, gQc]
          refine' wpAnyH_take (i := 5) (oi := _) (v := ?_) rfl (by kernel_rfl) (by kernel_rfl) (by kernel_rfl) (fun _ _ _ h => h) (Or.inl ⟨by rfl, ?_⟩) (by assumption) ?_
          rotate_left
          · intro W hSw
            go_simp
            first | done | (with_reducible rfl)
          try simp only [Act.put, sQa, sQb, sQc, gQa, gQb, gQc]
          refine' wpAnyH_take (i := 6) (oi := _) (v := ?_) rfl (by kernel_rfl) (by kernel_rfl) (by kernel_rfl) (fun _ _ _ h => h) (Or.inl ⟨by rfl, ?_⟩) (by assumption) ?_
          rotate_left
          · intro W hSw
            go_simp
            first | done | (with_reducible rfl)
          try simp only [Act.put, sQa, sQb, sQc, gQa, gQb, gQc]
          refine' wpAnyH_take (i := 7) (oi := _) (v := _) rfl (by kernel_rfl) (by kernel_rfl) (by kernel_rfl) (fun _ _ _ h => h) (yieldsIf_load_mid (by rfl) _ _ rfl _ _ rfl _ _ (fun _ h => rangeBel2 h (rangeBel2 hb q2.out)) hu rfl hi2.out) (by assumption) ?_
          try simp only [Act.put, sQa, sQb, sQc, gQa, gQb, gQc]
          refine' wpAnyH_take (i := 8) (oi := _) (v := ?_) rfl (by kernel_rfl) (by kernel_rfl) (by kernel_rfl) (fun _ _ _ h => h) (Or.inl ⟨by rfl, ?_⟩) (by assumption) ?_
          rotate_left
          · intro W hSw
            go_simp
            first | done | (with_reducible rfl)
          try simp only [Act.put, sQa, sQb, sQc, gQa, gQb, gQc]
          refine wpAnyH_done (by kernel_rfl) ?_ _
          refine NoPanic.normal ?_
          go_wp2
          go_roundw
          case rel => exact ⟨j + 1, by omega, by go_num, hyes.out, hb.trans (hHeld.mono hb.size)⟩
          case measure => simp [intOf]; omega
      · obtain rfl : j = ps.length := by omega
        have e1 : true = ans := by
          rw [← ha.out]
          refine (decide_eq_true ?_).symm
          rw [List.take_length] at hrel
          rw [hrel, hl.out, List.take_length]
        replace e1 := hid e1
        replace hrel := trivial
        go_wp2
        go_ret
        exact ⟨ret_b e1.out, hb⟩
  · have e1 : false = ans := by rw [← ha.out]; exact (decide_eq_false fun e => hl (by rw [e])).symm
    have hne : ((ps.length : Int) != (qs.length : Int)) = true := bne_iff_ne.2 (by omega)
    go_enter Tryd.func62, Tryd.ntmps62
    go_wp2
    go_ret
    exact ⟨ret_b e1, Below.refl _ _⟩
end Go.Proofs.YtfjkcdccnbggnaaDoor
