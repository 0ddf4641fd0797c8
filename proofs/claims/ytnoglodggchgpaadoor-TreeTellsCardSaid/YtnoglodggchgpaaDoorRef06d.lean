/-
  The document's answers of layer 6: For.
-/
import Derived.Test.YtnoglodggchgpaaDoorRef06b
import Derived.Test.YtnoglodggchgpaaDoorRef06c
import Derived.Test.YtnoglodggchgpaaDoorBits
namespace Go.Proofs.YtnoglodggchgpaaDoor
open Go.RowKit
set_option linter.unusedVariables false
set_option linter.unusedSimpArgs false
set_option maxRecDepth 100000

/-- One thing in a new block: a row of the call's own. -/
theorem OwnR.one {α : Type} [Enc α] {E : TypeId} {F : Nat → Prop} {w : World} {B : Nat} {x : α} {cs : List Value} (h : Enc.rep F w x cs) (hF : ∀ b, F b → B ≤ b ∧ Soft w b) (hB : B ≤ w.heap.size) :
    OwnR E (w.alloc (.cells cs.toArray E)) B (some ⟨w.heap.size, 0, none⟩) 1 [x] := by
  have hl := Enc.len h
  refine ⟨F, ⟨[cs], rfl, ⟨by simp [hl], .inr ⟨w.heap.size, 1, cs.toArray, rfl, hB, heap_alloc_new _ _, Nat.le_refl _, (by decide : 1 ≤ maxLen), by simp [hl], by simp [hl]; exact List.take_of_length_le (by omega)⟩⟩, ?_, ?_⟩, fun b hb => ⟨(hF b hb).1, (hF b hb).2.kept ((ext_alloc w _).block b (hF b hb).2.lt)⟩⟩
  · intro j y vs hy hv
    rcases j with _ | j
    · simp at hy hv
      subst hy hv
      exact Enc.bel h (ext_alloc _ _)
    · simp at hy
  · rintro a ha hf
    injection ha with ha
    subst ha
    exact absurd (hF _ hf).2.lt (Nat.lt_irrefl _)
set_option maxHeartbeats 2000000 in
theorem RFor_step (F : Nat → Prop) (A : Option Addr) (c : Nat) (ns : List Nd) (root : Int) (ho : Ones ns) (hc : ns.length ≤ 1000000) (e : Nat) (n : Int) (b : Dg) (w : World) (he : e ≤ 256) (hzr : Zr (256 - e) b) (h0 : 0 ≤ n) (hn : n ≤ ns.length) (hrg : 0 ≤ rgt ns e n b) (hr : Row F w A ns)
    (ih : ∀ f, e = f + 1 → ∀ (n : Int) (b : Dg) (w : World), Zr (256 - f) b → 0 ≤ n → n ≤ ns.length → 0 ≤ rgt ns f n b → Row F w A ns →
      Calls Tryd.prog 124 #[.agg #[.slice A ns.length c, .int .i64 root], .int .i64 n] w fun r w' => ∃ A' c', r = .returned (.slice A' (forP ns f n).length c') ∧ OwnR 26 w' w.heap.size A' c' (forP ns f n) ∧ Below w.heap.size w w') :
    Calls Tryd.prog 124 #[.agg #[.slice A ns.length c, .int .i64 root], .int .i64 n] w fun r w' => ∃ A' c', r = .returned (.slice A' (forP ns e n).length c') ∧ OwnR 26 w' w.heap.size A' c' (forP ns e n) ∧ Below w.heap.size w w' := by
  have hb0 := BoxT.new w A ns.length c root 44
  have W0 := ext_alloc w (.cells #[.slice A ns.length c, .int .i64 root] 44)
  have hu := Tryd.underlying23
  have hun := Tryd.underlying50
  have hut := Tryd.underlying44
  by_cases hz : n = 0
  · subst hz
    rw [forP_zero]
    go_enter Tryd.func124, Tryd.ntmps124
    go_wp2
    go_ret
    exact ⟨none, 0, rfl, OwnR.nil _ _, W0⟩
  · obtain ⟨j, hj, rfl, hx, h1⟩ := ones_at ho (by omega) hn
    have hr0 := hr.bel W0
    obtain ⟨q, o, rfl, A', c', hR, hv1, hv2, hv3, hI1, hI2⟩ := row_nd hr0 hj
    have hw : IntKind.i64.wrap ((j : Int) + 1 - 1) = j := by rw [IntKind.wrap_i64]; omega
    have hne : ((j : Int) + 1 == 0) = false := beq_eq_false_iff_ne.2 hz
    have hiN := hid (show (Tryd.prog.info? 50).map (·.size) = some (ndC ns[j] A' c').length by rw [len_nd]; exact sizeNd)
    have hiS := hid (show (Tryd.prog.info? 50).map (·.size) = some (ndC ns[j] A' c').toArray.size by rw [List.size_toArray, len_nd]; exact sizeNd)
    have hzs := hid (show zNdC.size = (ndC ns[j] A' c').toArray.size by rw [zSizeNd, List.size_toArray, len_nd])
    have hone := hid (one_nd ns[j] A' c')
    have hz9 := hid (heap_alloc_new (w.alloc (.cells #[.slice (some ⟨q, o, none⟩) ns.length c, .int .i64 root] 44)) (.cells zNdC 50))
    have v0 := hid hv3.rd
    replace hR := hid hR
    replace hr0 := hid hr0
    have hbT := hb0.ns
    replace hb0 := hid hb0
    cases hl : ns[j].leaf with
    | true =>
      rw [forP_leaf hz (by rw [hx]; exact hl), hx]
      have hvb := (one_leaf h1 hl).1
      have hvl : ns[j].v.length ≤ 64 := by unfold valB at hvb; simp at hvb; omega
      have hik := hid (sizeDgT ns[j].k)
      have hlp := fun x => len_pr ns[j].k x
      replace hlp := hid hlp
      go_enter Tryd.func124, Tryd.ntmps124
      go_wp2_with (first
        | (with_reducible refine wpList_alloc_row rfl 50 rfl zNdC zInfoNd ?_)
        | ((with_reducible refine wpList_load_rng rfl 50 (.tmp 12) rfl q (o + j * 36) rfl (ndC ns[j] A' c') _ ?_ hun rfl hiN.out ?_); exact hR.out)
        | ((with_reducible refine wpList_store_row rfl 50 (.tmp 5) (.tmp 13) rfl _ _ rfl rfl 50 zNdC ?_ ?_ ?_ ?_ ?_); (first | exact hz9.out | (have e := hz9.out; simp only [World.size_alloc] at e; exact e)); exact hiS.out; exact hzs.out; exact hone.out; intro w4 hg4 hb4 hs4; try simp only [World.size_alloc] at hg4 hb4; have X4 := hid (xnew_ (by simp) hb4); have N4 := BoxN.heap hg4; have y1 := N4.leaf; rw [hl] at y1; have y2 := N4.l; have y3 := N4.r; have y6 := N4.val; have T4 := hb0.out.bel X4.out; have y4 := T4.ns; have W4 := hid (W0.trans (X4.out.mono W0.size)); clear hg4 hb4 hs4))
      have v4 := hid (v0.out.bel X4.out)
      have k4 := N4.key
      refine wp_region_noPanic ?_
      refine wp_region_held_drew (S := fun w' => Below w4.heap.size w4 w') (by kernel_rfl) ?_ (fun hHeld => ?_)
      · exact bel_drew w4
      refine' wpAnyH_take (i := 0) (oi := _) (v := ?_) rfl (by kernel_rfl) (by kernel_rfl) (by kernel_rfl) (fun _ _ _ h => h) (Or.inl ⟨by rfl, ?_⟩) (by assumption) ?_
      rotate_left
      · intro W hSw
        go_simp
        first | done | (with_reducible rfl)
      try simp only [Act.put, List.setIfInBounds_toArray, List.set_cons_zero, List.set_cons_succ, List.getElem_toArray, List.getElem_cons_succ, List.getElem_cons_zero]
      refine' wpAnyH_take (i := 1) (oi := _) (v := _) rfl (by kernel_rfl) (by kernel_rfl) (by kernel_rfl) (fun _ _ _ h => h) (yieldsIf_load_mid (by rfl) _ _ rfl _ _ rfl _ _ (fun _ h => rangeBel2 h k4) hu rfl hik.out) (by assumption) ?_
      try simp only [Act.put, List.setIfInBounds_toArray, List.set_cons_zero, List.set_cons_succ, List.getElem_toArray, List.getElem_cons_succ, List.getElem_cons_zero]
      refine' wpAnyH_take (i := 2) (oi := _) (v := ?_) rfl (by kernel_rfl) (by kernel_rfl) (by kernel_rfl) (fun _ _ _ h => h) (Or.inl ⟨by rfl, ?_⟩) (by assumption) ?_
      rotate_left
      · intro W hSw
        go_simp
        first | done | (with_reducible rfl)
      try simp only [Act.put, List.setIfInBounds_toArray, List.set_cons_zero, List.set_cons_succ, List.getElem_toArray, List.getElem_cons_succ, List.getElem_cons_zero]
      refine' wpAnyH_take (i := 3) (oi := _) (v := ?_) rfl (by kernel_rfl) (by kernel_rfl) (by kernel_rfl) (fun _ _ _ h => h) (Or.inl ⟨by rfl, ?_⟩) (by assumption) ?_
      rotate_left
      · intro W hSw
        have hCell := (hSw.cell (World.block_lt_of_cell? _ _ y6)).trans y6
        go_simp
        first | done | (with_reducible rfl)
      try simp only [Act.put, List.setIfInBounds_toArray, List.set_cons_zero, List.set_cons_succ, List.getElem_toArray, List.getElem_cons_succ, List.getElem_cons_zero]
      refine wpAnyH_ready (rs := [4]) (by kernel_rfl) (by simp) ?_
      refine AllReadyH.cons (o := _) rfl (fun K hK => ?_) AllReadyH.nil
      go_simp
      have hH7 := hid (Nat.le_trans W4.out.size hHeld.size)
      refine (Twin_any A' ns[j].v.length c' ns[j].v _ (v4.out.bel hHeld) rfl (by omega)).mono ?_
      rintro e7 w7 ⟨A5, c5, rfl, ho5, hB⟩
      go_wp2_with fail
      refine hK.out _ _ ?_ (fun hHeld => ?_)
      · exact hHeld.trans (hB.mono hHeld.size)
      clear hK K
      try simp only [Act.put, List.setIfInBounds_toArray, List.set_cons_zero, List.set_cons_succ, List.getElem_toArray, List.getElem_cons_succ, List.getElem_cons_zero]
      refine' wpAnyH_take (i := 5) (oi := _) (v := _) rfl (by kernel_rfl) (by kernel_rfl) (by kernel_rfl) (fun _ _ _ h => h) (yieldsIf_build (by rfl) _ _ rfl _ _ (built_pr ns[j].k (.slice A5 ns[j].v.length c5) rfl) rfl) (by assumption) ?_
      try simp only [Act.put, List.setIfInBounds_toArray, List.set_cons_zero, List.set_cons_succ, List.getElem_toArray, List.getElem_cons_succ, List.getElem_cons_zero]
      refine wpAnyH_ready (rs := [6]) (by kernel_rfl) (by simp) ?_
      refine AllReadyH.cons (o := _) rfl (fun K hK => ?_) AllReadyH.nil
      have hHw := hid hHeld.size
      refine step_buildOne slotPr (by decide) rfl (.tmp 21) rfl _ rfl (hlp.out _) ?_
      refine hK.out _ _ ?_ (fun hHeld => ?_)
      · exact hHeld.trans ((ext_alloc _ _).mono hHeld.size)
      clear hK K
      try simp only [Act.put, List.setIfInBounds_toArray, List.set_cons_zero, List.set_cons_succ, List.getElem_toArray, List.getElem_cons_succ, List.getElem_cons_zero]
      refine' wpAnyH_take (i := 7) (oi := _) (v := ?_) rfl (by kernel_rfl) (by kernel_rfl) (by kernel_rfl) (fun _ _ _ h => h) (Or.inl ⟨by rfl, ?_⟩) (by assumption) ?_
      rotate_left
      · intro W hSw
        go_simp
        first | done | (with_reducible rfl)
      try simp only [Act.put, List.setIfInBounds_toArray, List.set_cons_zero, List.set_cons_succ, List.getElem_toArray, List.getElem_cons_succ, List.getElem_cons_zero]
      refine wpAnyH_done (by kernel_rfl) ?_ _
      refine NoPanic.normal ?_
      go_wp2
      go_ret
      refine ⟨_, _, rfl, (OwnR.one (rep_pr_own ho5) (fun b hb => ?_) (Nat.le_trans W4.out.size hHw.out)), W4.out.trans (hHeld.mono W4.out.size)⟩
      obtain ⟨a, ha, rfl⟩ := hb
      exact ⟨Nat.le_trans hH7.out (ho5.soft a ha).1, (ho5.soft a ha).2⟩
    | false =>
      obtain ⟨f, hf, r1, r2, _, _⟩ := fork_parts hz (by rw [hx]; exact hl) hrg
      subst hf
      rw [forP_fork hz (by rw [hx]; exact hl), hx]
      rw [hx] at r1 r2
      obtain ⟨k1, k2, k3, k4, k5, k6, k7⟩ := one_fork h1 hl
      have hd1 : 256 - f = 256 - (f + 1) + 1 := by omega
      have hd2 : 255 - f = 256 - (f + 1) := by omega
      have z1 : Zr (256 - f) b := by rw [hd1]; exact zr_succ hzr
      have z2 : Zr (256 - f) (turnD b (255 - f)) := by rw [hd1, hd2]; exact zr_turn hzr (by omega)
      have lenL := for_length (by omega) z1 r1
      have lenR := for_length (by omega) z2 r2
      have iL := fun W hW => ih f rfl ns[j].l b W z1 k1 (by omega) r1 hW
      have iR := fun W hW => ih f rfl ns[j].r _ W z2 k3 (by omega) r2 hW
      have hiT := hid (show (Tryd.prog.info? 44).map (·.size) = some ([Value.slice (some ⟨q, o, none⟩) ns.length c, .int .i64 root]).length from sizeTr)
      generalize forP ns f ns[j].l = xl at *
      generalize forP ns f ns[j].r = xr at *
      have hlen := hid (show (xl.length + xr.length) * (56 + 1) ≤ 140737488355328 by omega)
      replace iL := hid iL
      replace iR := hid iR
      clear ih r1 r2 z1 z2 hzr hrg lenL lenR
      go_enter Tryd.func124, Tryd.ntmps124
      go_wp2_with (first
        | (with_reducible refine wpList_alloc_row rfl 50 rfl zNdC zInfoNd ?_)
        | ((with_reducible refine wpList_load_rng rfl 50 (.tmp 12) rfl q (o + j * 36) rfl (ndC ns[j] A' c') _ ?_ hun rfl hiN.out ?_); exact hR.out)
        | ((with_reducible refine wpList_store_row rfl 50 (.tmp 5) (.tmp 13) rfl _ _ rfl rfl 50 zNdC ?_ ?_ ?_ ?_ ?_); (first | exact hz9.out | (have e := hz9.out; simp only [World.size_alloc] at e; exact e)); exact hiS.out; exact hzs.out; exact hone.out; intro w4 hg4 hb4 hs4; try simp only [World.size_alloc] at hg4 hb4; have X4 := hid (xnew_ (by simp) hb4); have N4 := BoxN.heap hg4; have y1 := N4.leaf; rw [hl] at y1; have y2 := N4.l; have y3 := N4.r; have y6 := N4.val; have T4 := hb0.out.bel X4.out; have y4 := T4.ns; have W4 := hid (W0.trans (X4.out.mono W0.size)); clear hg4 hb4 hs4))
      have r4 := hid (hr0.out.bel X4.out)
      refine wp_region_noPanic ?_
      refine wp_region_held_drew (S := fun w' => Below w4.heap.size w4 w') (by kernel_rfl) ?_ (fun hHeld => ?_)
      · exact bel_drew w4
      refine' wpAnyH_take (i := 0) (oi := _) (v := _) rfl (by kernel_rfl) (by kernel_rfl) (by kernel_rfl) (fun _ _ _ h => h) (yieldsIf_load_mid (by rfl) _ _ rfl _ _ rfl _ _ (fun _ h => rangeBel2 h T4.all) hut rfl hiT.out) (by assumption) ?_
      try simp only [Act.put, List.setIfInBounds_toArray, List.set_cons_zero, List.set_cons_succ, List.getElem_toArray, List.getElem_cons_succ, List.getElem_cons_zero]
      refine' wpAnyH_take (i := 1) (oi := _) (v := ?_) rfl (by kernel_rfl) (by kernel_rfl) (by kernel_rfl) (fun _ _ _ h => h) (Or.inl ⟨by rfl, ?_⟩) (by assumption) ?_
      rotate_left
      · intro W hSw
        go_simp
        first | done | (with_reducible rfl)
      try simp only [Act.put, List.setIfInBounds_toArray, List.set_cons_zero, List.set_cons_succ, List.getElem_toArray, List.getElem_cons_succ, List.getElem_cons_zero]
      refine' wpAnyH_take (i := 2) (oi := _) (v := ?_) rfl (by kernel_rfl) (by kernel_rfl) (by kernel_rfl) (fun _ _ _ h => h) (Or.inl ⟨by rfl, ?_⟩) (by assumption) ?_
      rotate_left
      · intro W hSw
        have hCell := (hSw.cell (World.block_lt_of_cell? _ _ y2)).trans y2
        go_simp
        first | done | (with_reducible rfl)
      try simp only [Act.put, List.setIfInBounds_toArray, List.set_cons_zero, List.set_cons_succ, List.getElem_toArray, List.getElem_cons_succ, List.getElem_cons_zero]
      refine' wpAnyH_take (i := 4) (oi := _) (v := _) rfl (by kernel_rfl) (by kernel_rfl) (by kernel_rfl) (fun _ _ _ h => h) (yieldsIf_load_mid (by rfl) _ _ rfl _ _ rfl _ _ (fun _ h => rangeBel2 h T4.all) hut rfl hiT.out) (by assumption) ?_
      try simp only [Act.put, List.setIfInBounds_toArray, List.set_cons_zero, List.set_cons_succ, List.getElem_toArray, List.getElem_cons_succ, List.getElem_cons_zero]
      refine' wpAnyH_take (i := 5) (oi := _) (v := ?_) rfl (by kernel_rfl) (by kernel_rfl) (by kernel_rfl) (fun _ _ _ h => h) (Or.inl ⟨by rfl, ?_⟩) (by assumption) ?_
      rotate_left
      · intro W hSw
        go_simp
        first | done | (with_reducible rfl)
      try simp only [Act.put, List.setIfInBounds_toArray, List.set_cons_zero, List.set_cons_succ, List.getElem_toArray, List.getElem_cons_succ, List.getElem_cons_zero]
      refine' wpAnyH_take (i := 6) (oi := _) (v := ?_) rfl (by kernel_rfl) (by kernel_rfl) (by kernel_rfl) (fun _ _ _ h => h) (Or.inl ⟨by rfl, ?_⟩) (by assumption) ?_
      rotate_left
      · intro W hSw
        have hCell := (hSw.cell (World.block_lt_of_cell? _ _ y3)).trans y3
        go_simp
        first | done | (with_reducible rfl)
      try simp only [Act.put, List.setIfInBounds_toArray, List.set_cons_zero, List.set_cons_succ, List.getElem_toArray, List.getElem_cons_succ, List.getElem_cons_zero]
      refine wpAnyH_ready (rs := [3]) (by kernel_rfl) (by simp) ?_
      refine AllReadyH.cons (o := _) rfl (fun K hK => ?_) AllReadyH.nil
      go_simp
      refine (iL.out _ (r4.out.bel hHeld)).mono ?_
      rintro e7 w7 ⟨A5, c5, rfl, ho5, hB⟩
      go_wp2_with fail
      refine hK.out _ _ ?_ (fun hHeld => ?_)
      · exact hHeld.trans (hB.mono hHeld.size)
      clear hK K
      try simp only [Act.put, List.setIfInBounds_toArray, List.set_cons_zero, List.set_cons_succ, List.getElem_toArray, List.getElem_cons_succ, List.getElem_cons_zero]
      refine wpAnyH_ready (rs := [7]) (by kernel_rfl) (by simp) ?_
      refine AllReadyH.cons (o := _) rfl (fun K hK => ?_) AllReadyH.nil
      go_simp
      have hs7 := hHeld.size
      refine (iR.out _ (r4.out.bel hHeld)).mono ?_
      rintro e8 w8 ⟨A6, c6, rfl, ho6, hB⟩
      have own5 : OwnR 26 w8 w4.heap.size A5 c5 xl := OwnR.base (ho5.bel hB) (Nat.le_refl _)
      go_wp2_with fail
      refine hK.out _ _ ?_ (fun hHeld => ?_)
      · exact hHeld.trans (hB.mono hHeld.size)
      clear hK K
      try simp only [Act.put, List.setIfInBounds_toArray, List.set_cons_zero, List.set_cons_succ, List.getElem_toArray, List.getElem_cons_succ, List.getElem_cons_zero]
      refine wpAnyH_ready (rs := [8]) (by kernel_rfl) (by simp) ?_
      refine AllReadyH.cons (o := _) rfl (fun K hK => ?_) AllReadyH.nil
      obtain ⟨F2, p1, p2⟩ := ho6
      refine step_appOwn slotPr rfl (.tmp 26) (.tmp 30) rfl w4.heap.size w4.heap.size A5 A6 xl.length xr.length c5 c6 xl xr F2 rfl rfl rfl rfl own5 p1.src (fun b hb => ⟨Nat.le_trans hs7 (p2 b hb).1, (p2 b hb).2, fun a ha e => by have h5 := (ho5.blk a ha).2; have h6 := (p2 b hb).1; omega⟩) hlen.out hHeld.size ?_
      intro A9 c9 w9 ho9 hB9
      refine hK.out _ _ ?_ (fun hHeld => ?_)
      · exact hHeld.trans hB9
      clear hK K
      try simp only [Act.put, List.setIfInBounds_toArray, List.set_cons_zero, List.set_cons_succ, List.getElem_toArray, List.getElem_cons_succ, List.getElem_cons_zero]
      refine' wpAnyH_take (i := 9) (oi := _) (v := ?_) rfl (by kernel_rfl) (by kernel_rfl) (by kernel_rfl) (fun _ _ _ h => h) (Or.inl ⟨by rfl, ?_⟩) (by assumption) ?_
      rotate_left
      · intro W hSw
        go_simp
        first | done | (with_reducible rfl)
      try simp only [Act.put, List.setIfInBounds_toArray, List.set_cons_zero, List.set_cons_succ, List.getElem_toArray, List.getElem_cons_succ, List.getElem_cons_zero]
      refine wpAnyH_done (by kernel_rfl) ?_ _
      refine NoPanic.normal ?_
      go_wp2
      go_ret
      exact ⟨A9, c9, by first | rfl | (rw [List.length_append]; rfl) | simp, OwnR.base ho9 W4.out.size, W4.out.trans (hHeld.mono W4.out.size)⟩
theorem RFor_any (F : Nat → Prop) (A : Option Addr) (c : Nat) (ns : List Nd) (root : Int) (ho : Ones ns) (hc : ns.length ≤ 1000000) : ∀ (e : Nat) (n : Int) (b : Dg) (w : World), e ≤ 256 → Zr (256 - e) b → 0 ≤ n → n ≤ ns.length → 0 ≤ rgt ns e n b → Row F w A ns →
    Calls Tryd.prog 124 #[.agg #[.slice A ns.length c, .int .i64 root], .int .i64 n] w fun r w' => ∃ A' c', r = .returned (.slice A' (forP ns e n).length c') ∧ OwnR 26 w' w.heap.size A' c' (forP ns e n) ∧ Below w.heap.size w w'
  | 0, n, b, w, he, hz, h0, hn, hg, hr => RFor_step F A c ns root ho hc 0 n b w he hz h0 hn hg hr fun f hf => by omega
  | e + 1, n, b, w, he, hz, h0, hn, hg, hr => RFor_step F A c ns root ho hc (e + 1) n b w he hz h0 hn hg hr fun f hf n b w hz h0 hn hg hr => by
    obtain rfl : e = f := by omega
    exact RFor_any F A c ns root ho hc e n b w (by omega) hz h0 hn hg hr
end Go.Proofs.YtnoglodggchgpaaDoor
