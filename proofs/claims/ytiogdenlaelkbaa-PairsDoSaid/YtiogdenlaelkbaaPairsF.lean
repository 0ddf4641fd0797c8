/-
  Contracts of the landed package pairs: Drop.
-/
import Derived.Test.YtiogdenlaelkbaaPairsE
import Derived.Test.YtiogdenlaelkbaaPairsB
import Derived.Test.YtiogdenlaelkbaaGrowPr
import Derived.Test.YtiogdenlaelkbaaCuts
namespace Go.Proofs.Ytiogdenlaelkbaa
open Go.RowKit
set_option linter.unusedVariables false
set_option linter.unusedSimpArgs false

set_option maxRecDepth 100000 in
set_option maxHeartbeats 1600000 in
theorem PDrop_any (F : Nat → Prop) (A : Option Addr) (c n : Nat) (ps : List Pr) (k : Dg) (w : World) (hr : Row F w A ps) (hn : n = ps.length) (hc : ps.length ≤ 1000000) (hcap : ps.length ≤ c) (hcm : c ≤ 9223372036854775807) :
    Calls Try.prog 11 #[.slice A n c, .agg (k.1.map bv).toArray] w fun e w' => ∃ A' c', e = .returned (.tuple #[.slice A' (mDropL ps k).length c', .int .i64 (mDropE ps k)]) ∧ OwnR 46 w' w.heap.size A' c' (mDropL ps k) ∧ Below w.heap.size w w' := by
  subst hn
  have hbox : (w.alloc (.cells (k.1.map bv).toArray 24)).rangeAt w.heap.size 0 (k.1.map bv) := rangeOf (heap_alloc_new w _)
  have b0 := ext_alloc w (.cells (k.1.map bv).toArray 24)
  have hM := fun W hW => PCheck_any F A c ps.length ps W hW rfl (by omega)
  have hF := fun W hW hS => PFind_any F A c ps.length ps k W hW rfl hc hS
  have hu := Try.underlying24
  have hi := sizeDgP k
  have hr0 := hr.bel b0
  rcases hm : mayP ps with _ | _
  · rw [(mDrop_bad (k := k) hm).1, (mDrop_bad (k := k) hm).2]
    rw [hm, if_neg (by decide)] at hM
    replace hM := hid hM
    clear hF hm
    generalize (k.1.map bv) = ds at *
    go_enter Try.func11, Try.ntmps11
    go_wp2_with fail
    refine (hM.out _ hr0).mono ?_
    rintro e w1 ⟨rfl, hb1⟩
    go_wp2
    go_ret2
    exact ⟨none, 0, rfl, OwnR.nil _ _, b0.trans (hb1.mono b0.size)⟩
  · rw [hm, if_pos rfl] at hM
    have hS := (may_srtP hm).1
    have hat := has_at hS k
    rcases hh : hasP ps k with _ | _
    · rw [(mDrop_none hm hh).1, (mDrop_none hm hh).2]
      rw [hh] at hF
      have hF2 := fun W hW => hF W hW hS
      replace hM := hid hM
      replace hF2 := hid hF2
      replace hi := hid hi
      clear hm hh hF hat hS
      generalize (k.1.map bv) = ds at *
      generalize cnt ps k = m at *
      go_enter Try.func11, Try.ntmps11
      go_wp2_with fail
      refine (hM.out _ hr0).mono ?_
      rintro e w1 ⟨rfl, hb1⟩
      have hbx := rangeBel2 hb1 hbox
      have hr1 := hr0.bel hb1
      go_wp2_with (first
        | ((with_reducible refine wpList_load_rng rfl 24 (.tmp 3) rfl w.heap.size 0 rfl ds _ ?_ hu rfl hi.out ?_); exact hbx))
      refine (hF2.out _ hr1).mono ?_
      rintro e w2 ⟨rfl, hb2⟩
      go_wp2
      go_ret2
      exact ⟨none, 0, rfl, OwnR.nil _ _, b0.trans ((hb1.trans (hb2.mono hb1.size)).mono b0.size)⟩
    · obtain ⟨hj, hk⟩ := hat.1 hh
      rw [(mDrop_yes hm hh).1, (mDrop_yes hm hh).2]
      have e0 := without_at hS hj hk
      rw [hh] at hF
      have hF2 := fun W hW => hF W hW hS
      have hv64 : ∀ p ∈ withoutP ps k, p.v.length ≤ 1000000 := fun p hp => by have := (may_srtP hm).2.2 p (List.mem_filter.1 hp).1; omega
      have h512 := (may_srtP hm).2.1
      clear hF hat hS hk
      generalize cnt ps k = j at *
      generalize withoutP ps k = res at *
      obtain ⟨x1, hx1⟩ : ∃ x, ps.take j = x := ⟨_, rfl⟩
      obtain ⟨x2, hx2⟩ : ∃ x, ps.drop (j + 1) = x := ⟨_, rfl⟩
      have l1 : Hid (x1.length = j) := by rw [← hx1, List.length_take]; show _ = _; omega
      have l2 : Hid (x2.length = ps.length - (j + 1)) := by rw [← hx2, List.length_drop]; exact rfl
      rw [hx1, hx2] at e0
      have s1 : Hid (∀ W, Row F W A ps → Src F W A x1) := fun W h => by rw [← hx1]; exact h.src.take j
      have s2 : Hid (∀ W, Row F W A ps → Src F W (cutA A c (j + 1) (Enc.size Pr)) x2) := fun W h => by rw [← hx2]; exact h.src.cutA (j + 1) c (by omega) hcap
      have hjc : j ≤ c := by omega
      have hadd : IntKind.i64.wrap ((j : Int) + 1) = (j : Int) + 1 := by rw [IntKind.wrap_i64]; omega
      have hall : Hid (∀ (a b : Option Addr) (p q : Nat), allP [((a, p), x1), ((b, q), x2)] = res) := fun a b p q => by rw [e0]; simp [allP]
      have hrl : res.length ≤ 1000000 := by have := l1.out; have := l2.out; rw [e0, List.length_append]; omega
      replace e0 := hid e0
      replace hM := hid hM
      replace hF2 := hid hF2
      replace hi := hid hi
      clear hm hh hx1 hx2
      generalize (k.1.map bv) = ds at *
      go_enter Try.func11, Try.ntmps11
      go_wp2_with fail
      refine (hM.out _ hr0).mono ?_
      rintro e w1 ⟨rfl, hb1⟩
      have hbx := rangeBel2 hb1 hbox
      have hr1 := hr0.bel hb1
      go_wp2_with (first
        | ((with_reducible refine wpList_load_rng rfl 24 (.tmp 3) rfl w.heap.size 0 rfl ds _ ?_ hu rfl hi.out ?_); exact hbx))
      refine (hF2.out _ hr1).mono ?_
      rintro e w2 ⟨rfl, hb2⟩
      have hr2 := hr1.bel hb2
      have B2 := b0.trans ((hb1.trans (hb2.mono hb1.size)).mono b0.size)
      have t1 := hid ((s1.out _ hr2).mono (G := fun b => b < w2.heap.size) fun b _ hl => hl)
      have t2 := hid ((s2.out _ hr2).mono (G := fun b => b < w2.heap.size) fun b _ hl => hl)
      clear hbx hr1 hr0 hbox hb1 hb2 s1 s2 hr hM hF2
      go_wp2
      refine wp_region_noPanic ?_
      refine wp_region_held_drew (S := fun w' => Below w2.heap.size w2 w') (by kernel_rfl) ?_ (fun hHeld => ?_)
      · exact bel_drew w2
      refine' wpAnyH_take (i := 0) (oi := _) (v := ?_) rfl (by kernel_rfl) (by kernel_rfl) (by kernel_rfl) (fun _ _ _ h => h) (Or.inl ⟨by rfl, ?_⟩) (by assumption) ?_
      rotate_left
      · intro W hSw
        go_simp
        first | done | (with_reducible rfl)
      try simp only [Act.put, List.setIfInBounds_toArray, List.set_cons_zero, List.set_cons_succ, List.getElem_toArray, List.getElem_cons_succ, List.getElem_cons_zero]
      refine' wpAnyH_take (i := 1) (oi := _) (v := ?_) rfl (by kernel_rfl) (by kernel_rfl) (by kernel_rfl) (fun _ _ _ h => h) (Or.inl ⟨by rfl, ?_⟩) (by assumption) ?_
      rotate_left
      · intro W hSw
        go_simp
        first | done | (with_reducible rfl)
      try simp only [Act.put, List.setIfInBounds_toArray, List.set_cons_zero, List.set_cons_succ, List.getElem_toArray, List.getElem_cons_succ, List.getElem_cons_zero]
      refine' wpAnyH_take (i := 2) (oi := _) (v := _) rfl (by kernel_rfl) (by kernel_rfl) (by kernel_rfl) (fun _ _ _ h => h) (yieldsIf_slice (by rfl) _ _ _ _ _ rfl _ _ _ _ _ (run_upto slotPr A ps.length c j hjc) rfl rfl rfl rfl) (by assumption) ?_
      try simp only [Act.put, List.setIfInBounds_toArray, List.set_cons_zero, List.set_cons_succ, List.getElem_toArray, List.getElem_cons_succ, List.getElem_cons_zero]
      refine' wpAnyH_take (i := 3) (oi := _) (v := ?_) rfl (by kernel_rfl) (by kernel_rfl) (by kernel_rfl) (fun _ _ _ h => h) (Or.inl ⟨by rfl, ?_⟩) (by assumption) ?_
      rotate_left
      · intro W hSw
        go_simp
        first | done | (with_reducible rfl)
      try simp only [Act.put, List.setIfInBounds_toArray, List.set_cons_zero, List.set_cons_succ, List.getElem_toArray, List.getElem_cons_succ, List.getElem_cons_zero]
      refine' wpAnyH_take (i := 4) (oi := _) (v := ?_) rfl (by kernel_rfl) (by kernel_rfl) (by kernel_rfl) (fun _ _ _ h => h) (Or.inl ⟨by rfl, ?_⟩) (by assumption) ?_
      rotate_left
      · intro W hSw
        go_simp
        first | done | (with_reducible rfl)
      try simp only [Act.put, List.setIfInBounds_toArray, List.set_cons_zero, List.set_cons_succ, List.getElem_toArray, List.getElem_cons_succ, List.getElem_cons_zero]
      refine' wpAnyH_take (i := 5) (oi := _) (v := ?_) rfl (by kernel_rfl) (by kernel_rfl) (by kernel_rfl) (fun _ _ _ h => h) (Or.inl ⟨by rfl, ?_⟩) (by assumption) ?_
      rotate_left
      · intro W hSw
        go_simp
        first | done | (with_reducible rfl)
      try simp only [Act.put, List.setIfInBounds_toArray, List.set_cons_zero, List.set_cons_succ, List.getElem_toArray, List.getElem_cons_succ, List.getElem_cons_zero]
      refine' wpAnyH_take (i := 6) (oi := _) (v := _) rfl (by kernel_rfl) (by kernel_rfl) (by kernel_rfl) (fun _ _ _ h => h) (yieldsIf_slice (by rfl) _ _ _ _ _ rfl _ _ _ _ _ (run_from slotPr A ps.length c (j + 1) hj) rfl rfl rfl rfl) (by assumption) ?_
      try simp only [Act.put, List.setIfInBounds_toArray, List.set_cons_zero, List.set_cons_succ, List.getElem_toArray, List.getElem_cons_succ, List.getElem_cons_zero]
      refine wpAnyH_ready (rs := [7]) (by kernel_rfl) (by simp) ?_
      refine AllReadyH.cons (o := _) rfl (fun K hK => ?_) AllReadyH.nil
      go_simp
      refine hK.out _ _ ?_ (fun hHeld => ?_)
      · exact hHeld.trans ((ext_alloc _ _).mono hHeld.size)
      clear hK K
      try simp only [Act.put, List.setIfInBounds_toArray, List.set_cons_zero, List.set_cons_succ, List.getElem_toArray, List.getElem_cons_succ, List.getElem_cons_zero]
      refine wpAnyH_ready (rs := [8]) (by kernel_rfl) (by simp) ?_
      refine AllReadyH.cons (o := _) rfl (fun K hK => ?_) AllReadyH.nil
      go_simp
      refine (concat_any (fun b => b < w2.heap.size) _ [((A, c), x1), ((cutA A c (j + 1) (Enc.size Pr), c - (j + 1)), x2)] _ (by exact cells_slices _ w2 _ _ (by simp [slvR, l1.out, l2.out])) (by intro x hx; simp only [List.mem_cons, List.not_mem_nil, or_false] at hx; rcases hx with rfl | rfl; exact t1.out.bel hHeld; exact t2.out.bel hHeld) (by intro b hb; exact Nat.lt_of_lt_of_le hb hHeld.size) (by simp) (by rw [hall.out]; exact hrl)).mono ?_
      rintro e7 w7 ⟨A7, c7, rfl, ho7, hB⟩
      rw [hall.out] at ho7 ⊢
      go_wp2_with fail
      refine hK.out _ _ ?_ (fun hHeld => ?_)
      · exact hHeld.trans (hB.mono hHeld.size)
      clear hK K
      try simp only [Act.put, List.setIfInBounds_toArray, List.set_cons_zero, List.set_cons_succ, List.getElem_toArray, List.getElem_cons_succ, List.getElem_cons_zero]
      refine wpAnyH_ready (rs := [9]) (by kernel_rfl) (by simp) ?_
      refine AllReadyH.cons (o := _) rfl (fun K hK => ?_) AllReadyH.nil
      go_simp
      have hs7 := hHeld.size
      refine (PTwinP_any _ A7 c7 res.length res _ ho7.row rfl hrl hv64).mono ?_
      rintro e8 w8 ⟨A8, c8, rfl, ho8, hB⟩
      go_wp2_with fail
      refine hK.out _ _ ?_ (fun hHeld => ?_)
      · exact hHeld.trans (hB.mono hHeld.size)
      clear hK K
      try simp only [Act.put, List.setIfInBounds_toArray, List.set_cons_zero, List.set_cons_succ, List.getElem_toArray, List.getElem_cons_succ, List.getElem_cons_zero]
      refine' wpAnyH_take (i := 10) (oi := _) (v := ?_) rfl (by kernel_rfl) (by kernel_rfl) (by kernel_rfl) (fun _ _ _ h => h) (Or.inl ⟨by rfl, ?_⟩) (by assumption) ?_
      rotate_left
      · intro W hSw
        go_simp
        first | done | (with_reducible rfl)
      try simp only [Act.put, List.setIfInBounds_toArray, List.set_cons_zero, List.set_cons_succ, List.getElem_toArray, List.getElem_cons_succ, List.getElem_cons_zero]
      refine' wpAnyH_take (i := 11) (oi := _) (v := ?_) rfl (by kernel_rfl) (by kernel_rfl) (by kernel_rfl) (fun _ _ _ h => h) (Or.inl ⟨by rfl, ?_⟩) (by assumption) ?_
      rotate_left
      · intro W hSw
        go_simp
        first | done | (with_reducible rfl)
      try simp only [Act.put, List.setIfInBounds_toArray, List.set_cons_zero, List.set_cons_succ, List.getElem_toArray, List.getElem_cons_succ, List.getElem_cons_zero]
      refine wpAnyH_done (by kernel_rfl) ?_ _
      refine NoPanic.normal ?_
      go_wp2
      go_ret2
      exact ⟨A8, c8, rfl, ho8.base (Nat.le_trans B2.size hs7), B2.trans (hHeld.mono B2.size)⟩
end Go.Proofs.Ytiogdenlaelkbaa
