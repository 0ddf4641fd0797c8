/-
  Contracts of the landed package pairs: Twin.
-/
import Derived.Test.YtiogdenlaelkbaaPairsA
import Derived.Test.YtiogdenlaelkbaaClone
namespace Go.Proofs.Ytiogdenlaelkbaa
open Go.RowKit
set_option linter.unusedVariables false
set_option linter.unusedSimpArgs false

set_option maxRecDepth 100000 in
set_option maxHeartbeats 1600000 in
theorem PTwinP_any (F : Nat → Prop) (A : Option Addr) (c n : Nat) (ps : List Pr) (w : World) (hr : Row F w A ps) (hn : n = ps.length) (hc : ps.length ≤ 1000000) (hv : ∀ p ∈ ps, p.v.length ≤ 1000000) :
    Calls Try.prog 18 #[.slice A n c] w fun e w' => ∃ A' c', e = .returned (.slice A' ps.length c') ∧ OwnR 46 w' w.heap.size A' c' ps ∧ Below w.heap.size w w' := by
  subst hn
  have hu := Try.underlying24
  have hu2 := Try.underlying46
  go_enter Try.func18, Try.ntmps18
  go_wp2
  go_loopw [3, 8] (fun v i wr => ∃ (j : Nat) (A' : Option Addr) (c' : Nat), j ≤ ps.length ∧ i = .int .i64 j ∧ v = .slice A' (ps.take j).length c' ∧ OwnR 46 wr w.heap.size A' c' (ps.take j) ∧ Below w.heap.size w wr) (fun _ i _ => ps.length - (intOf i).toNat)
  case atStart => exact ⟨0, none, 0, Nat.zero_le _, rfl, rfl, OwnR.nil _ _, Below.refl _ _⟩
  case round =>
    obtain ⟨j, A0, c0, hj, rfl, rfl, ho, hb⟩ := hrel
    have hx : (ps.take j).length ≤ j := by rw [List.length_take]; omega
    by_cases hlt : j < ps.length
    · have E := hid (List.take_succ_eq_append_getElem hlt)
      have hv1 := hv _ (List.getElem_mem hlt)
      obtain ⟨b, o, hA, -, A', c', -, r2, h1, h2, h3⟩ := row_pr (hr.bel hb) hlt
      subst hA
      have hrd := h3.rd
      have hs := hid (sizePrP ps[j].k (.slice A' ps[j].v.length c'))
      have hi := sizeDgP ps[j].k
      have hlen : Hid ((ps[j].k.1.map bv ++ [Value.slice A' ps[j].v.length c']).length = 33) := len_pr _ _
      have hone : Hid ((ps[j].k.1.map bv ++ [Value.slice A' ps[j].v.length c']).toArray.all (·.oneCell') = true) := all_oneCell_toArray (Enc.one (rep_pr_mk (F := F) (w := wr) ps[j].k ps[j].v A' c' h1 h2 h3))
      have hp : ps[j] = ⟨ps[j].k, ps[j].v⟩ := rfl
      rw [hp] at E
      generalize hy : ps.take (j + 1) = y at *
      replace hy := hid hy
      generalize ps.take j = x at *
      generalize ps[j].k = k at *
      generalize ps[j].v = v at *
      clear hp hr h3
      replace hi := hid hi
      replace hx := hid hx
      have hbs := hb.size
      go_wp2_with (first
        | ((with_reducible refine wpList_load_rng rfl 46 (.tmp 10) rfl b (o + j * 33) rfl (k.1.map bv ++ [.slice A' v.length c']) _ ?_ hu2 rfl hs.out ?_); exact r2)
        | (with_reducible refine wpList_alloc_row rfl 46 rfl zPrC zInfoPr ?_)
        | ((with_reducible refine wpList_store_row rfl 46 (.tmp 5) (.tmp 11) rfl wr.heap.size (k.1.map bv ++ [Value.slice A' v.length c'] : List Value).toArray rfl ?_ 46 zPrC ?_ ?_ ?_ ?_ ?_); rfl; exact heap_alloc_new wr _; exact hs.out; exact zSizePr.trans hlen.out.symm; exact hone.out; intro w4 hg4 hb4 hs4))
      have B4 := below_var hb4
      have hblk := hid (block_pr hg4).2.2
      have hkey : ∀ W : World, W.rangeAt wr.heap.size 0 (k.1.map bv ++ [Value.slice A' v.length c']) → W.rangeAt wr.heap.size 0 (k.1.map bv) ∧ W.cell? ⟨wr.heap.size, 32, none⟩ = some (Value.slice A' v.length c') := fun W h => ⟨fun i u hu => h i u (by rw [List.getElem?_append_left (List.getElem?_eq_some_iff.1 hu).1]; exact hu), by
        have := h 32 _ (by rw [List.getElem?_append_right (by rw [List.length_map]; exact Nat.le_of_eq k.2), List.length_map, k.2]; rfl)
        rwa [Nat.zero_add] at this⟩
      have B04 := hid (hb.trans (B4.mono hbs))
      have hrd4 := hrd.bel B4
      have hs5 : wr.heap.size < w4.heap.size := block_lt hg4
      have hA0 := hid ho.blk
      replace ho := ho.bel B4
      replace hkey := hid hkey
      clear hg4 hb4 hs4 r2 hone hlen hs hu2 hrd
      refine wp_region_noPanic ?_
      refine wp_region_held_drew (S := fun W => Below w.heap.size w W ∧ W.rangeAt wr.heap.size 0 (k.1.map bv ++ [Value.slice A' v.length c'])) (by kernel_rfl) ?_ (fun hHeld => ?_)
      · exact ⟨below_drewN B04.out 1, hblk.out⟩
      refine' wpAnyH_take (i := 0) (oi := _) (v := ?_) rfl (by kernel_rfl) (by kernel_rfl) (by kernel_rfl) (fun _ _ _ h => h) (Or.inl ⟨by rfl, ?_⟩) (by assumption) ?_
      rotate_left
      · intro W hSw
        go_simp
        first | done | (with_reducible rfl)
      try simp only [Act.put, List.setIfInBounds_toArray, List.set_cons_zero, List.set_cons_succ, List.getElem_toArray, List.getElem_cons_succ, List.getElem_cons_zero]
      refine' wpAnyH_take (i := 1) (oi := _) (v := ?_) rfl (by kernel_rfl) (by kernel_rfl) (by kernel_rfl) (fun _ _ _ h => h) (Or.inl ⟨by rfl, ?_⟩) (by assumption) ?_
      rotate_left
      · intro W hSw
        go_simp
        first | done | (with_reducible rfl)
      try simp only [Act.put, List.setIfInBounds_toArray, List.set_cons_zero, List.set_cons_succ, List.getElem_toArray, List.getElem_cons_succ, List.getElem_cons_zero]
      refine' wpAnyH_take (i := 2) (oi := _) (v := _) rfl (by kernel_rfl) (by kernel_rfl) (by kernel_rfl) (fun _ _ _ h => h) (yieldsIf_load_mid (by rfl) _ _ rfl _ _ rfl _ _ (fun _ h => (hkey.out _ h.2).1) hu rfl hi.out) (by assumption) ?_
      try simp only [Act.put, List.setIfInBounds_toArray, List.set_cons_zero, List.set_cons_succ, List.getElem_toArray, List.getElem_cons_succ, List.getElem_cons_zero]
      refine' wpAnyH_take (i := 3) (oi := _) (v := ?_) rfl (by kernel_rfl) (by kernel_rfl) (by kernel_rfl) (fun _ _ _ h => h) (Or.inl ⟨by rfl, ?_⟩) (by assumption) ?_
      rotate_left
      · intro W hSw
        go_simp
        first | done | (with_reducible rfl)
      try simp only [Act.put, List.setIfInBounds_toArray, List.set_cons_zero, List.set_cons_succ, List.getElem_toArray, List.getElem_cons_succ, List.getElem_cons_zero]
      refine' wpAnyH_take (i := 4) (oi := _) (v := ?_) rfl (by kernel_rfl) (by kernel_rfl) (by kernel_rfl) (fun _ _ _ h => h) (Or.inl ⟨by rfl, ?_⟩) (by assumption) ?_
      rotate_left
      · intro W hSw
        have hCell := (hkey.out _ hSw.2).2
        go_simp
        first | done | (with_reducible rfl)
      try simp only [Act.put, List.setIfInBounds_toArray, List.set_cons_zero, List.set_cons_succ, List.getElem_toArray, List.getElem_cons_succ, List.getElem_cons_zero]
      refine wpAnyH_ready (rs := [5]) (by kernel_rfl) (by simp) ?_
      refine AllReadyH.cons (o := _) rfl (fun K hK => ?_) AllReadyH.nil
      go_simp
      refine (Clone_any A' v.length c' v _ (hrd4.bel (bel_drew w4)) rfl (by omega)).mono ?_
      rintro e7 w7 ⟨A4, c4, rfl, ho4, hB⟩
      go_wp2_with fail
      refine hK.out _ _ ?_ (fun hHeld => ?_)
      · exact ⟨hHeld.1.trans (hB.mono hHeld.1.size), rangeBel2 hB hHeld.2⟩
      clear hK K
      try simp only [Act.put, List.setIfInBounds_toArray, List.set_cons_zero, List.set_cons_succ, List.getElem_toArray, List.getElem_cons_succ, List.getElem_cons_zero]
      refine' wpAnyH_take (i := 6) (oi := _) (v := _) rfl (by kernel_rfl) (by kernel_rfl) (by kernel_rfl) (fun _ _ _ h => h) (yieldsIf_build (by rfl) _ _ rfl _ _ (built_pr k (.slice A4 v.length c4) rfl) rfl) (by assumption) ?_
      try simp only [Act.put, List.setIfInBounds_toArray, List.set_cons_zero, List.set_cons_succ, List.getElem_toArray, List.getElem_cons_succ, List.getElem_cons_zero]
      refine wpAnyH_ready (rs := [7]) (by kernel_rfl) (by simp) ?_
      refine AllReadyH.cons (o := _) rfl (fun K hK => ?_) AllReadyH.nil
      refine step_buildOne slotPr (by decide) rfl (.tmp 18) rfl _ rfl (len_pr k _) ?_
      refine hK.out _ _ ?_ (fun hHeld => ?_)
      · exact ⟨hHeld.1.trans ((ext_alloc _ _).mono hHeld.1.size), rangeBel2 (ext_alloc _ _) hHeld.2⟩
      clear hK K
      try simp only [Act.put, List.setIfInBounds_toArray, List.set_cons_zero, List.set_cons_succ, List.getElem_toArray, List.getElem_cons_succ, List.getElem_cons_zero]
      refine wpAnyH_ready (rs := [8]) (by kernel_rfl) (by simp) ?_
      refine AllReadyH.cons (o := _) rfl (fun K hK => ?_) AllReadyH.nil
      refine step_appOwnG slotPr rfl (.tmp 12) (.tmp 19) rfl w.heap.size w.heap.size A0 _ x.length 1 c0 1 x [⟨k, v⟩] _ rfl rfl rfl rfl (((ho.bel (bel_drew w4)).bel hB).alloc _) (src_alloc (rep_pr_own ho4)) (apart_new ho.blk B04.out.size fun b hb => by obtain ⟨a, ha, rfl⟩ := hb; exact ⟨(ho4.soft a ha).1, (ho4.soft a ha).2.kept ((ext_alloc w7 _).block _ (ho4.soft a ha).2.lt)⟩) (by have := hx.out; simp; omega) hHeld.1.size ?_
      intro A5 c5 w5 ho5 hB5 hG5
      refine hK.out _ _ ?_ (fun hHeld => ?_)
      · exact ⟨hHeld.1.trans hB5, rangeAt_kept hHeld.2 fun hl => hG5.block _ hl (ne_map hA0.out)⟩
      clear hK K
      try simp only [Act.put, List.setIfInBounds_toArray, List.set_cons_zero, List.set_cons_succ, List.getElem_toArray, List.getElem_cons_succ, List.getElem_cons_zero]
      refine' wpAnyH_take (i := 9) (oi := _) (v := ?_) rfl (by kernel_rfl) (by kernel_rfl) (by kernel_rfl) (fun _ _ _ h => h) (Or.inl ⟨by rfl, ?_⟩) (by assumption) ?_
      rotate_left
      · intro W hSw
        go_simp
        first | done | (with_reducible rfl)
      try simp only [Act.put, List.setIfInBounds_toArray, List.set_cons_zero, List.set_cons_succ, List.getElem_toArray, List.getElem_cons_succ, List.getElem_cons_zero]
      refine wpAnyH_done (by kernel_rfl) ?_ _
      refine NoPanic.normal ?_
      rw [← E.out] at ho5
      go_wp2
      go_roundw
      case rel =>
        have hl : x.length + 1 = y.length := by rw [E.out]; simp
        rw [hl]
        rw [← hy.out] at ho5 ⊢
        exact ⟨j + 1, A5, c5, by omega, by go_num, rfl, ho5, hHeld.1⟩
      case measure => simp [intOf]; omega
    · obtain rfl : j = ps.length := by omega
      rw [List.take_length] at ho ⊢
      go_wp2
      go_ret
      exact ⟨A0, c0, rfl, ho, hb⟩
end Go.Proofs.Ytiogdenlaelkbaa
