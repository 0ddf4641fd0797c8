/-
  Contracts of the landed package pairs: Get.
-/
import Derived.Test.YtiogdenlaelkbaaPairsD
namespace Go.Proofs.Ytiogdenlaelkbaa
open Go.RowKit
set_option linter.unusedVariables false
set_option linter.unusedSimpArgs false

theorem mGet_noP {ps : List Pr} {k : Dg} (h : mayP ps = false ∨ hasP ps k = false) : mGetB ps k = false ∧ mGetL ps k = [] := by
  have : mGetB ps k = false := by
    unfold mGetB
    rcases h with h | h <;> rw [h]
    · rfl
    · exact Bool.and_false _
  exact ⟨this, by unfold mGetL; rw [this]; rfl⟩
theorem mGet_yesP {ps : List Pr} {k : Dg} (h : mayP ps = true) {j : Nat} (hj : j < ps.length) (hk : ps[j].k = k) : mGetB ps k = true ∧ mGetL ps k = ps[j].v := by
  have h2 : hasP ps k = true := hasP_mem.2 ⟨_, List.getElem_mem hj, hk⟩
  have : mGetB ps k = true := by unfold mGetB; rw [h, h2]; rfl
  refine ⟨this, ?_⟩
  unfold mGetL
  rw [if_pos this, ← hk, getV_mem (may_srtP h).1 (List.getElem_mem hj)]

set_option maxRecDepth 100000 in
set_option maxHeartbeats 1600000 in
theorem PGet_any (F : Nat → Prop) (A : Option Addr) (c n : Nat) (ps : List Pr) (k : Dg) (w : World) (hr : Row F w A ps) (hn : n = ps.length) (hc : ps.length ≤ 1000000) :
    Calls Try.prog 7 #[.slice A n c, .agg (k.1.map bv).toArray] w fun e w' => ∃ A' c', e = .returned (.tuple #[.slice A' (mGetL ps k).length c', .bool (mGetB ps k)]) ∧ Own 5 w' w.heap.size A' c' (mGetL ps k) ∧ Below w.heap.size w w' := by
  subst hn
  have hbox : (w.alloc (.cells (k.1.map bv).toArray 24)).rangeAt w.heap.size 0 (k.1.map bv) := rangeOf (heap_alloc_new w _)
  have b0 := ext_alloc w (.cells (k.1.map bv).toArray 24)
  have hM := fun W hW => PCheck_any F A c ps.length ps W hW rfl (by omega)
  have hF := fun W hW hS => PFind_any F A c ps.length ps k W hW rfl hc hS
  have hu := Try.underlying24
  have hi := sizeDgP k
  have hr0 := hr.bel b0
  rcases hm : mayP ps with _ | _
  · rw [(mGet_noP (k := k) (.inl hm)).1, (mGet_noP (k := k) (.inl hm)).2]
    rw [hm, if_neg (by decide)] at hM
    replace hM := hid hM
    clear hF hm
    generalize (k.1.map bv) = ds at *
    go_enter Try.func7, Try.ntmps7
    go_wp2_with fail
    refine (hM.out _ hr0).mono ?_
    rintro e w1 ⟨rfl, hb1⟩
    go_wp2
    go_ret2
    exact ⟨none, 0, rfl, Own.nil _ _, b0.trans (hb1.mono b0.size)⟩
  · rw [hm, if_pos rfl] at hM
    have hS := (may_srtP hm).1
    have hat := has_at hS k
    rcases hh : hasP ps k with _ | _
    · rw [(mGet_noP (k := k) (.inr hh)).1, (mGet_noP (k := k) (.inr hh)).2]
      rw [hh] at hF
      have hF2 := fun W hW => hF W hW hS
      replace hM := hid hM
      replace hF2 := hid hF2
      replace hi := hid hi
      clear hm hh hF hat hS
      generalize (k.1.map bv) = ds at *
      generalize cnt ps k = m at *
      go_enter Try.func7, Try.ntmps7
      go_wp2_with fail
      refine (hM.out _ hr0).mono ?_
      rintro e w1 ⟨rfl, hb1⟩
      have hbx := rangeBel2 hb1 hbox
      have hr1 := hr0.bel hb1
      go_wp2_with (first
        | ((with_reducible refine wpList_load_rng rfl 24 (.tmp 3) rfl w.heap.size 0 rfl ds _ ?_ hu rfl hi.out ?_); exact hbx))
      refine (hF2.out _ hr1).mono ?_
      rintro e w2 ⟨rfl, hb2⟩
      go_wp2
      go_ret2
      exact ⟨none, 0, rfl, Own.nil _ _, b0.trans ((hb1.trans (hb2.mono hb1.size)).mono b0.size)⟩
    · obtain ⟨hj, hk⟩ := hat.1 hh
      rw [(mGet_yesP hm hj hk).1, (mGet_yesP hm hj hk).2]
      rw [hh] at hF
      have hF2 := fun W hW => hF W hW hS
      have hv64 := (may_srtP hm).2.2 _ (List.getElem_mem hj)
      clear hF hat hS hk
      generalize cnt ps k = j at *
      obtain ⟨b, o, hA, -, A', c', hcell, -, h1, h2, h3⟩ := row_pr hr0 hj
      subst hA
      have hrd := h3.rd
      replace hM := hid hM
      replace hF2 := hid hF2
      replace hi := hid hi
      clear hm hh h3
      generalize (k.1.map bv) = ds at *
      generalize ps[j].v = v at *
      go_enter Try.func7, Try.ntmps7
      go_wp2_with fail
      refine (hM.out _ hr0).mono ?_
      rintro e w1 ⟨rfl, hb1⟩
      have hbx := rangeBel2 hb1 hbox
      have hr1 := hr0.bel hb1
      go_wp2_with (first
        | ((with_reducible refine wpList_load_rng rfl 24 (.tmp 3) rfl w.heap.size 0 rfl ds _ ?_ hu rfl hi.out ?_); exact hbx))
      refine (hF2.out _ hr1).mono ?_
      rintro e w2 ⟨rfl, hb2⟩
      have B3 := hb1.trans (hb2.mono hb1.size)
      have hcell3 := (B3.cell (World.block_lt_of_cell? _ _ hcell)).trans hcell
      have hrd3 := hrd.bel B3
      clear hcell hrd hb1 hb2
      go_wp2_with fail
      refine (Clone_any A' v.length c' v _ hrd3 rfl (by omega)).mono ?_
      rintro e w4 ⟨A4, c4, rfl, ho4, hb4⟩
      go_wp2
      go_ret2
      exact ⟨A4, c4, rfl, ho4.base (Nat.le_trans b0.size B3.size), b0.trans ((B3.trans (hb4.mono B3.size)).mono b0.size)⟩
end Go.Proofs.Ytiogdenlaelkbaa
