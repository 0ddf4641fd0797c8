/-
  The library's slices.Equal and slices.Clone of digests, at this program.
-/
import Derived.Test.YtminmkmkaoocaaaPfB
import Derived.Test.YtminmkmkaoocaaaRef06c
import Derived.Test.YtminmkmkaoocaaaBits
import Derived.Test.YtminmkmkaoocaaaTreeLc
import Derived.Great.BuildSlice
namespace Go.Proofs.Ytminmkmkaoocaaa
open Go.RowKit
set_option linter.unusedVariables false
set_option linter.unusedSimpArgs false
set_option maxRecDepth 100000

set_option maxHeartbeats 1000000 in
theorem SEqualDg_any (F G : Nat → Prop) (A D : Option Addr) (c d : Nat) (ps qs : List Dg) (w : World) (hr : Row F w A ps) (hs : Row G w D qs) (hc : ps.length ≤ 9223372036854775807) (hd : qs.length ≤ 9223372036854775807) :
    Calls Try.prog 44 #[.slice A ps.length c, .slice D qs.length d] w fun e w' => e = .returned (.bool (decide (ps = qs))) ∧ Below w.heap.size w w' := by
  obtain ⟨ans, ha⟩ : ∃ ans, decide (ps = qs) = ans := ⟨_, rfl⟩
  rw [ha]
  replace ha := hid ha
  by_cases hl : ps.length = qs.length
  · have hl2 := hid hl
    rw [← hl] at hd ⊢
    replace hl := hl2
    clear hl2
    go_enter Try.func44, Try.ntmps44
    go_wp2
    go_loopw [13] (fun i wr => ∃ j : Nat, j ≤ ps.length ∧ i = .int .i64 j ∧ ps.take j = qs.take j ∧ Below w.heap.size w wr) (fun i _ => ps.length - (intOf i).toNat)
    case atStart => exact ⟨0, Nat.zero_le _, rfl, by simp, Below.refl _ _⟩
    case round =>
      obtain ⟨j, hj, rfl, hrel, hb⟩ := hrel
      by_cases hlt : j < ps.length
      · have hlt2 : j < qs.length := by rw [← hl.out]; exact hlt
        have E := hid (take_eq_succD hlt hlt2 hrel)
        replace hrel := hid hrel
        have hu := Try.underlying26
        obtain ⟨b, o, hA, r1⟩ := row_dg hr hlt
        obtain ⟨b', o', hD, r2⟩ := row_dg hs hlt2
        subst hA hD
        obtain ⟨eb, heb⟩ : ∃ eb, decide (ps[j] = qs[j]) = eb := ⟨_, rfl⟩
        have hE : ∀ W, (Op.equalIn 10000 26 (.agg (ps[j].1.map bv).toArray) (.agg (qs[j].1.map bv).toArray)).run Try.prog W = .ok eb W := fun W => eqd_is ps[j] qs[j] eb heb W
        have hno : eb = false → false = ans := by
          intro h
          rw [← ha.out]
          refine (decide_eq_false fun e => ?_).symm
          have := E.out.1 (by rw [e])
          rw [h] at heb; simp [this] at heb
        have hyes : eb = true → ps.take (j + 1) = qs.take (j + 1) := fun h1 => E.out.2 (by simpa [h1] using heb)
        have hi1 := hid (sizeDgT ps[j])
        have hi2 := hid (sizeDgT qs[j])
        clear heb E
        generalize ps[j].1.map bv = d1 at *
        generalize qs[j].1.map bv = d2 at *
        have q1 := hid r1
        have q2 := hid r2
        clear hlt2 r1 r2
        cases eb
        · replace hno := hid (hno rfl)
          clear hyes
          go_wp2
          refine wp_region_noPanic ?_
          refine wp_region_held_drew (S := fun w' => Below wr.heap.size wr w') (by kernel_rfl) ?_ (fun hHeld => ?_)
          · exact bel_drew wr
          refine' wpAnyH_take (i := 0) (oi := _) (v := ?_) rfl (by kernel_rfl) (by kernel_rfl) (by kernel_rfl) (fun _ _ _ h => h) (Or.inl ⟨by rfl, ?_⟩) (by assumption) ?_
          rotate_left
          · intro W hSw
            go_simp
            first | done | (with_reducible rfl)
          try simp only [Act.put, List.setIfInBounds_toArray, List.set_cons_zero, List.set_cons_succ, List.getElem_toArray, List.getElem_cons_succ, List.getElem_cons_zero]
          refine' wpAnyH_take (i := 1) (oi := _) (v := ?_) rfl (by kernel_rfl) (by kernel_rfl) (by kernel_rfl) (fun _ _ _ h => h) (Or.inl ⟨by rfl, ?_⟩) (by assumption) ?_
          rotate_left
          · intro W hSw
            go_simp
            first | done | (with_reducible rfl)
          try simp only [Act.put, List.setIfInBounds_toArray, List.set_cons_zero, List.set_cons_succ, List.getElem_toArray, List.getElem_cons_succ, List.getElem_cons_zero]
          refine' wpAnyH_take (i := 2) (oi := _) (v := ?_) rfl (by kernel_rfl) (by kernel_rfl) (by kernel_rfl) (fun _ _ _ h => h) (Or.inl ⟨by rfl, ?_⟩) (by assumption) ?_
          rotate_left
          · intro W hSw
            go_simp
            first | done | (with_reducible rfl)
          try simp only [Act.put, List.setIfInBounds_toArray, List.set_cons_zero, List.set_cons_succ, List.getElem_toArray, List.getElem_cons_succ, List.getElem_cons_zero]
          refine' wpAnyH_take (i := 3) (oi := _) (v := _) rfl (by kernel_rfl) (by kernel_rfl) (by kernel_rfl) (fun _ _ _ h => h) (yieldsIf_load_mid (by rfl) _ _ rfl _ _ rfl _ _ (fun _ h => rangeBel2 h (rangeBel2 hb q1.out)) hu rfl hi1.out) (by assumption) ?_
          try simp only [Act.put, List.setIfInBounds_toArray, List.set_cons_zero, List.set_cons_succ, List.getElem_toArray, List.getElem_cons_succ, List.getElem_cons_zero]
          refine' wpAnyH_take (i := 4) (oi := _) (v := ?_) rfl (by kernel_rfl) (by kernel_rfl) (by kernel_rfl) (fun _ _ _ h => h) (Or.inl ⟨by rfl, ?_⟩) (by assumption) ?_
          rotate_left
          · intro W hSw
            go_simp
            first | done | (with_reducible rfl)
          try simp only [Act.put, List.setIfInBounds_toArray, List.set_cons_zero, List.set_cons_succ, List.getElem_toArray, List.getElem_cons_succ, List.getElem_cons_zero]
          refine' wpAnyH_take (i := 5) (oi := _) (v := ?_) rfl (by kernel_rfl) (by kernel_rfl) (by kernel_rfl) (fun _ _ _ h => h) (Or.inl ⟨by rfl, ?_⟩) (by assumption) ?_
          rotate_left
          · intro W hSw
            go_simp
            first | done | (with_reducible rfl)
          try simp only [Act.put, List.setIfInBounds_toArray, List.set_cons_zero, List.set_cons_succ, List.getElem_toArray, List.getElem_cons_succ, List.getElem_cons_zero]
          refine' wpAnyH_take (i := 6) (oi := _) (v := ?_) rfl (by kernel_rfl) (by kernel_rfl) (by kernel_rfl) (fun _ _ _ h => h) (Or.inl ⟨by rfl, ?_⟩) (by assumption) ?_
          rotate_left
          · intro W hSw
            go_simp
            first | done | (with_reducible rfl)
          try simp only [Act.put, List.setIfInBounds_toArray, List.set_cons_zero, List.set_cons_succ, List.getElem_toArray, List.getElem_cons_succ, List.getElem_cons_zero]
          refine' wpAnyH_take (i := 7) (oi := _) (v := _) rfl (by kernel_rfl) (by kernel_rfl) (by kernel_rfl) (fun _ _ _ h => h) (yieldsIf_load_mid (by rfl) _ _ rfl _ _ rfl _ _ (fun _ h => rangeBel2 h (rangeBel2 hb q2.out)) hu rfl hi2.out) (by assumption) ?_
          try simp only [Act.put, List.setIfInBounds_toArray, List.set_cons_zero, List.set_cons_succ, List.getElem_toArray, List.getElem_cons_succ, List.getElem_cons_zero]
          refine' wpAnyH_take (i := 8) (oi := _) (v := ?_) rfl (by kernel_rfl) (by kernel_rfl) (by kernel_rfl) (fun _ _ _ h => h) (Or.inl ⟨by rfl, ?_⟩) (by assumption) ?_
          rotate_left
          · intro W hSw
            go_simp
            first | done | (with_reducible rfl)
          try simp only [Act.put, List.setIfInBounds_toArray, List.set_cons_zero, List.set_cons_succ, List.getElem_toArray, List.getElem_cons_succ, List.getElem_cons_zero]
          refine wpAnyH_done (by kernel_rfl) ?_ _
          refine NoPanic.normal ?_
          go_wp2
          go_ret
          exact ⟨ret_bP hno.out, hb.trans (hHeld.mono hb.size)⟩
        · replace hyes := hid (hyes rfl)
          clear hno
          go_wp2
          refine wp_region_noPanic ?_
          refine wp_region_held_drew (S := fun w' => Below wr.heap.size wr w') (by kernel_rfl) ?_ (fun hHeld => ?_)
          · exact bel_drew wr
          refine' wpAnyH_take (i := 0) (oi := _) (v := ?_) rfl (by kernel_rfl) (by kernel_rfl) (by kernel_rfl) (fun _ _ _ h => h) (Or.inl ⟨by rfl, ?_⟩) (by assumption) ?_
          rotate_left
          · intro W hSw
            go_simp
            first | done | (with_reducible rfl)
          try simp only [Act.put, List.setIfInBounds_toArray, List.set_cons_zero, List.set_cons_succ, List.getElem_toArray, List.getElem_cons_succ, List.getElem_cons_zero]
          refine' wpAnyH_take (i := 1) (oi := _) (v := ?_) rfl (by kernel_rfl) (by kernel_rfl) (by kernel_rfl) (fun _ _ _ h => h) (Or.inl ⟨by rfl, ?_⟩) (by assumption) ?_
          rotate_left
          · intro W hSw
            go_simp
            first | done | (with_reducible rfl)
          try simp only [Act.put, List.setIfInBounds_toArray, List.set_cons_zero, List.set_cons_succ, List.getElem_toArray, List.getElem_cons_succ, List.getElem_cons_zero]
          refine' wpAnyH_take (i := 2) (oi := _) (v := ?_) rfl (by kernel_rfl) (by kernel_rfl) (by kernel_rfl) (fun _ _ _ h => h) (Or.inl ⟨by rfl, ?_⟩) (by assumption) ?_
          rotate_left
          · intro W hSw
            go_simp
            first | done | (with_reducible rfl)
          try simp only [Act.put, List.setIfInBounds_toArray, List.set_cons_zero, List.set_cons_succ, List.getElem_toArray, List.getElem_cons_succ, List.getElem_cons_zero]
          refine' wpAnyH_take (i := 3) (oi := _) (v := _) rfl (by kernel_rfl) (by kernel_rfl) (by kernel_rfl) (fun _ _ _ h => h) (yieldsIf_load_mid (by rfl) _ _ rfl _ _ rfl _ _ (fun _ h => rangeBel2 h (rangeBel2 hb q1.out)) hu rfl hi1.out) (by assumption) ?_
          try simp only [Act.put, List.setIfInBounds_toArray, List.set_cons_zero, List.set_cons_succ, List.getElem_toArray, List.getElem_cons_succ, List.getElem_cons_zero]
          refine' wpAnyH_take (i := 4) (oi := _) (v := ?_) rfl (by kernel_rfl) (by kernel_rfl) (by kernel_rfl) (fun _ _ _ h => h) (Or.inl ⟨by rfl, ?_⟩) (by assumption) ?_
          rotate_left
          · intro W hSw
            go_simp
            first | done | (with_reducible rfl)
          try simp only [Act.put, List.setIfInBounds_toArray, List.set_cons_zero, List.set_cons_succ, List.getElem_toArray, List.getElem_cons_succ, List.getElem_cons_zero]
          refine' wpAnyH_take (i := 5) (oi := _) (v := ?_) rfl (by kernel_rfl) (by kernel_rfl) (by kernel_rfl) (fun _ _ _ h => h) (Or.inl ⟨by rfl, ?_⟩) (by assumption) ?_
          rotate_left
          · intro W hSw
            go_simp
            first | done | (with_reducible rfl)
          try simp only [Act.put, List.setIfInBounds_toArray, List.set_cons_zero, List.set_cons_succ, List.getElem_toArray, List.getElem_cons_succ, List.getElem_cons_zero]
          refine' wpAnyH_take (i := 6) (oi := _) (v := ?_) rfl (by kernel_rfl) (by kernel_rfl) (by kernel_rfl) (fun _ _ _ h => h) (Or.inl ⟨by rfl, ?_⟩) (by assumption) ?_
          rotate_left
          · intro W hSw
            go_simp
            first | done | (with_reducible rfl)
          try simp only [Act.put, List.setIfInBounds_toArray, List.set_cons_zero, List.set_cons_succ, List.getElem_toArray, List.getElem_cons_succ, List.getElem_cons_zero]
          refine' wpAnyH_take (i := 7) (oi := _) (v := _) rfl (by kernel_rfl) (by kernel_rfl) (by kernel_rfl) (fun _ _ _ h => h) (yieldsIf_load_mid (by rfl) _ _ rfl _ _ rfl _ _ (fun _ h => rangeBel2 h (rangeBel2 hb q2.out)) hu rfl hi2.out) (by assumption) ?_
          try simp only [Act.put, List.setIfInBounds_toArray, List.set_cons_zero, List.set_cons_succ, List.getElem_toArray, List.getElem_cons_succ, List.getElem_cons_zero]
          refine' wpAnyH_take (i := 8) (oi := _) (v := ?_) rfl (by kernel_rfl) (by kernel_rfl) (by kernel_rfl) (fun _ _ _ h => h) (Or.inl ⟨by rfl, ?_⟩) (by assumption) ?_
          rotate_left
          · intro W hSw
            go_simp
            first | done | (with_reducible rfl)
          try simp only [Act.put, List.setIfInBounds_toArray, List.set_cons_zero, List.set_cons_succ, List.getElem_toArray, List.getElem_cons_succ, List.getElem_cons_zero]
          refine wpAnyH_done (by kernel_rfl) ?_ _
          refine NoPanic.normal ?_
          go_wp2
          go_roundw
          case rel => exact ⟨j + 1, by omega, by go_num, hyes.out, hb.trans (hHeld.mono hb.size)⟩
          case measure => simp [intOf]; omega
      · obtain rfl : j = ps.length := by omega
        have e1 : true = ans := by
          rw [← ha.out]
          refine (decide_eq_true ?_).symm
          rw [List.take_length] at hrel
          rw [hrel, hl.out, List.take_length]
        replace e1 := hid e1
        replace hrel := trivial
        go_wp2
        go_ret
        exact ⟨ret_bP e1.out, hb⟩
  · have e1 : false = ans := by rw [← ha.out]; exact (decide_eq_false fun e => hl (by rw [e])).symm
    have hne : ((ps.length : Int) != (qs.length : Int)) = true := bne_iff_ne.2 (by omega)
    go_enter Try.func44, Try.ntmps44
    go_wp2
    go_ret
    exact ⟨ret_bP e1, Below.refl _ _⟩

theorem slotDgP : Slot Try.prog Dg 42 26 (.agg z32) 32 where
  under := Try.underlying42
  info := by kernel_rfl
  zero := by decide +kernel
  pos := by decide
theorem wpList_build0 {P : Program} {α : Type} [Enc α] {S E : TypeId} {z : Value} {bytes : Nat} (hS : Slot P α S E z bytes) {w : World} {ops : Array Oper} {rest : List Oper} {o : Oper} {a : Act} {Q : Exit → Act → World → Prop} (hg : Region.wanted o (yielded ops a.tmps) = true)
    (hop : o.op = .buildSlice S 0 #[]) (hK : wpList P ops Q rest (a.put o.dst (.slice (some ⟨w.heap.size, 0, none⟩) 0 0)) (w.alloc (.cells #[] E))) : wpList P ops Q (o :: rest) a w :=
  wpList_step fun K hK2 => by
    rw [if_pos hg]
    obtain ⟨i, hi, hz, hsz, hby⟩ := info_parts hS.info
    unfold Oper.wp execOp
    have e : (Instr.buildSlice S 0 #[]).run P w = .ok (.slice (some ⟨w.heap.size, 0, none⟩) 0 0) (w.alloc (.cells #[] E)) := by
      simp [Instr.buildSlice, run_underlying hS.under, sizeOf, typeInfo, zeroValue, hi, newRow, Instr.fill]
      rw [show Array.map (fun x : Nat => (default : Value)) (Array.range 0) = #[] from Array.eq_empty_of_size_eq_zero (by simp)]
    simp only [hop, List.map_toArray, List.map_nil, Sem.run_bind, e, Result.andThen_ok]
    exact hK2 _ _ hK
theorem OwnR.empty {α : Type} [Enc α] (E : TypeId) (w : World) : OwnR E (w.alloc (.cells #[] E)) w.heap.size (some ⟨w.heap.size, 0, none⟩) 0 ([] : List α) :=
  ⟨fun _ => False, ⟨[], rfl, ⟨by simp, .inr ⟨w.heap.size, 0, #[], rfl, Nat.le_refl _, heap_alloc_new w _, Nat.le_refl _, Nat.zero_le _, by simp, by simp⟩⟩, fun j x vs h => by simp at h, fun _ _ h => h⟩, fun b h => h.elim⟩
theorem Src.dg {F G : Nat → Prop} {w : World} {A : Option Addr} {xs : List Dg} (h : Src F w A xs) : Src G w A xs := fun hn => by
  obtain ⟨b, o, hA, hc⟩ := h hn
  exact ⟨b, o, hA, fun j x hx => by obtain ⟨vs, h1, h2⟩ := hc j x hx; exact ⟨vs, h1, h2⟩⟩
set_option maxHeartbeats 1000000 in
theorem SCloneDg_any (F : Nat → Prop) (A : Option Addr) (c : Nat) (ps : List Dg) (w : World) (hr : Row F w A ps) (hc : ps.length ≤ 1000000) :
    Calls Try.prog 41 #[.slice A ps.length c] w fun e w' => ∃ A' c', e = .returned (.slice A' ps.length c') ∧ OwnR 26 w' w.heap.size A' c' ps ∧ Below w.heap.size w w' := by
  have hus := Try.underlying42
  have q22 : ∀ (w : World) (a : Option Addr) (n c n' c' : Nat), (binOp .eql 42 (.slice a n c) (.slice none n' c')).run Try.prog w = .ok (.bool a.isNone) w := fun w a n c n' c' => Lib.run_eql_slice_nil w _ _ a n c n' c' hus
  rcases A with _ | a
  · have h0 : ps = [] := by
      rcases Nat.eq_zero_or_pos ps.length with h0 | h0
      · exact List.eq_nil_of_length_eq_zero h0
      · obtain ⟨b, o, hA, _⟩ := hr h0
        cases hA
    subst h0
    clear hr hc
    go_enter Try.func41, Try.ntmps41
    go_wp2
    go_ret
    exact ⟨none, 0, rfl, OwnR.nil _ _, Below.refl _ _⟩
  · have W0 := ext_alloc w (.cells #[] 26)
    have hs := hid (Src.dg (G := fun _ => False) (hr.bel W0).src)
    have ho := hid (OwnR.empty (α := Dg) 26 w)
    have hz := hid (show w.heap.size ≤ (w.alloc (.cells #[] 26)).heap.size by simp)
    generalize hl : ps.length = n at *
    replace hl := hid hl
    go_enter Try.func41, Try.ntmps41
    go_wp2_with (first
      | ((with_reducible refine wpList_build0 slotDgP rfl rfl ?_))
      | (at_builtin; refine wpList_appOwn slotDgP rfl (.tmp 5) (.tmp 6) rfl w.heap.size w.heap.size (some ⟨w.heap.size, 0, none⟩) (some a) 0 n 0 c [] ps (fun _ => False) rfl rfl rfl hl.out.symm ho.out hs.out (fun b hb => hb.elim) (by have := hl.out; simp; omega) hz.out ?_; intro A7 c7 w9 ho9 hb9; rw [List.nil_append] at ho9 ⊢; have own9 := hid ho9; have W9 := hid ((W0.trans (hb9.mono (Nat.le_refl _)))); clear ho9 hb9))
    go_ret
    exact ⟨A7, c7, by rw [← hl.out]; rfl, own9.out, W9.out⟩
theorem SEqualDg_is (F G : Nat → Prop) (A D : Option Addr) (c d : Nat) (ps qs : List Dg) (b : Bool) (w : World) (hr : Row F w A ps) (hs : Row G w D qs) (hc : ps.length ≤ 9223372036854775807) (hd : qs.length ≤ 9223372036854775807) (hb : decide (ps = qs) = b) :
    Calls Try.prog 44 #[.slice A ps.length c, .slice D qs.length d] w fun e w' => e = .returned (.bool b) ∧ Below w.heap.size w w' := by
  subst hb
  exact SEqualDg_any F G A D c d ps qs w hr hs hc hd
theorem BEqual2_is (A1 A2 : Option Addr) (c1 c2 : Nat) (l1 l2 : List UInt8) (b : Bool) (w : World) (h1 : Rd w A1 l1) (h2 : Rd w A2 l2) (he : decide (l1 = l2) = b) :
    Calls Try.prog 43 #[Value.slice A1 l1.length c1, .slice A2 l2.length c2] w fun e w' => e = .returned (.bool b) ∧ w = w' := by
  have k1 := run_conv_str u8s underU8 9 underStr h1 l1.length c1 rfl
  have k2 := run_conv_str u8s underU8 9 underStr h2 l2.length c2 rfl
  have ht : ((bstr l1).toList == (bstr l2).toList) = b := by
    rw [← he, bstr_toList, bstr_toList]
    by_cases h : l1 = l2 <;> simp [h]
  clear he h1 h2
  generalize l1.length = n1 at *
  generalize l2.length = n2 at *
  go_enter Try.func43, Try.ntmps43
  go_wp2
  go_ret
  exact ⟨rfl, rfl⟩
end Go.Proofs.Ytminmkmkaoocaaa
