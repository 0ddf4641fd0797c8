/-
  The document's answers of layer 5: Find, Get.
-/
import Derived.Test.YtiogdenlaelkbaaRef05b
import Derived.Test.YtiogdenlaelkbaaEqG
import Derived.Test.YtiogdenlaelkbaaTwin
namespace Go.Proofs.Ytiogdenlaelkbaa
open Go.RowKit
set_option linter.unusedVariables false
set_option linter.unusedSimpArgs false

def fndI (ps : List Pr) (k : Dg) : Int := match ps.findIdx? fun p => decide (p.k = k) with
  | some j => (j : Int)
  | none => -1
theorem fndI_no {ps : List Pr} {k : Dg} (h : hasP ps k = false) : fndI ps k = -1 := by
  unfold fndI
  rw [List.findIdx?_eq_none_iff.2 (by rw [hasP_none] at h; simpa using h)]
theorem fndI_at {ps : List Pr} {k : Dg} {j : Nat} (hj : j < ps.length) (hk : ps[j].k = k) (hlt : ∀ i (h : i < j), (ps[i]'(by omega)).k ≠ k) : fndI ps k = j := by
  unfold fndI
  rw [List.findIdx?_eq_some_iff_getElem.2 ⟨hj, by simpa using hk, fun i hi => by simpa using hlt i hi⟩]
theorem fndI_has {ps : List Pr} {k : Dg} (h : hasP ps k = true) : ∃ (j : Nat) (hj : j < ps.length), fndI ps k = j ∧ ps[j].k = k := by
  unfold fndI
  cases hf : ps.findIdx? fun p => decide (p.k = k) with
  | none =>
    rw [List.findIdx?_eq_none_iff] at hf
    obtain ⟨p, hp, hk⟩ := hasP_mem.1 h
    have := hf p hp
    simp [hk] at this
  | some j =>
    obtain ⟨hj, hp, _⟩ := List.findIdx?_eq_some_iff_getElem.1 hf
    exact ⟨j, hj, rfl, by simpa using hp⟩
theorem eqd_is (a b : Dg) (eb : Bool) (h : decide (a = b) = eb) (w : World) : (Op.equalIn 10000 24 (.agg (a.1.map bv).toArray) (.agg (b.1.map bv).toArray)).run Try.prog w = .ok eb w := by
  rw [eq_dig2 a.1 b.1 a.2 b.2 w]
  congr 1
  rw [← h]
  exact decide_eq_decide.2 ⟨fun e => Subtype.ext e, fun e => by rw [e]⟩

theorem boxed_range (w : World) (k : Dg) (t : TypeId) : (w.alloc (.cells (k.1.map bv).toArray t)).rangeAt w.heap.size 0 (k.1.map bv) := rangeOf (heap_alloc_new w _)

set_option maxRecDepth 100000 in
set_option maxHeartbeats 800000 in
theorem RFind_any (F : Nat → Prop) (A : Option Addr) (c n : Nat) (ps : List Pr) (k : Dg) (w : World) (hr : Row F w A ps) (hn : n = ps.length) (hc : ps.length ≤ 9223372036854775807) :
    Calls Try.prog 25 #[.slice A n c, .agg (k.1.map bv).toArray] w fun e w' => e = .returned (.int .i64 (fndI ps k)) ∧ Below w.heap.size w w' := by
  subst hn
  have hbox := boxed_range w k 24
  obtain ⟨ds, hds⟩ : ∃ ds, ds = (k.1.map bv).toArray := ⟨_, rfl⟩
  have hsz : ds.size = 32 := by rw [hds]; simp [k.2]
  rw [← hds] at hbox ⊢
  have b0 := ext_alloc w (.cells ds 24)
  replace hds := hid hds
  obtain ⟨z, hz⟩ : ∃ z, fndI ps k = z := ⟨_, rfl⟩
  rw [hz]
  replace hz := hid hz
  go_enter Try.func25, Try.ntmps25
  go_wp2
  go_loopw [5] (fun i wr => ∃ j : Nat, j ≤ ps.length ∧ i = .int .i64 j ∧ (∀ i (h : i < j) (h2 : i < ps.length), ps[i].k ≠ k) ∧ wr.rangeAt w.heap.size 0 (k.1.map bv) ∧ Below w.heap.size w wr) (fun i _ => ps.length - (intOf i).toNat)
  case atStart => exact ⟨0, Nat.zero_le _, rfl, fun i hi => absurd hi (by omega), hbox, b0⟩
  case round =>
    obtain ⟨j, hj, rfl, hrel, hbx, hbw⟩ := hrel
    replace hrel := hid hrel
    by_cases hlt : j < ps.length
    · have hu := Try.underlying24
      obtain ⟨b, o, hA, r1, -⟩ := row_pr (hr.bel hbw) hlt
      subst hA
      obtain ⟨eb, heb⟩ : ∃ eb, decide (ps[j].k = k) = eb := ⟨_, rfl⟩
      have hE := fun W => eqd_is ps[j].k k eb heb W
      have hyes : eb = true → z = (j : Int) := fun h => by
        rw [← hz.out]
        exact fndI_at hlt (by simpa [h] using heb) fun i hi => hrel.out i hi (by omega)
      have hno : eb = false → ∀ i (h : i < j + 1) (h2 : i < ps.length), ps[i].k ≠ k := fun h i hi h2 => by
        rcases Nat.lt_or_ge i j with h3 | h3
        · exact hrel.out i h3 h2
        · obtain rfl : i = j := by omega
          simpa [h] using heb
      replace hyes := hid hyes
      replace hno := hid hno
      clear heb
      generalize ps[j].k = kq at *
      have z1 := kq.2
      have z2 := k.2
      clear hr hbox b0
      go_wp2
      refine wp_region_noPanic ?_
      refine wp_region_held_drew (S := fun w' => Below wr.heap.size wr w') (by kernel_rfl) ?_ (fun hHeld => ?_)
      · exact bel_drew wr
      refine' wpAnyH_take (i := 0) (oi := _) (v := ?_) rfl (by kernel_rfl) (by kernel_rfl) (by kernel_rfl) (fun _ _ _ h => h) (Or.inl ⟨by rfl, ?_⟩) (by assumption) ?_
      rotate_left
      · intro W hSw
        go_simp
        first | done | (with_reducible rfl)
      try simp only [Act.put, List.setIfInBounds_toArray, List.set_cons_zero, List.set_cons_succ, List.getElem_toArray, List.getElem_cons_succ, List.getElem_cons_zero]
      refine' wpAnyH_take (i := 1) (oi := _) (v := ?_) rfl (by kernel_rfl) (by kernel_rfl) (by kernel_rfl) (fun _ _ _ h => h) (Or.inl ⟨by rfl, ?_⟩) (by assumption) ?_
      rotate_left
      · intro W hSw
        go_simp
        first | done | (with_reducible rfl)
      try simp only [Act.put, List.setIfInBounds_toArray, List.set_cons_zero, List.set_cons_succ, List.getElem_toArray, List.getElem_cons_succ, List.getElem_cons_zero]
      refine' wpAnyH_take (i := 2) (oi := _) (v := ?_) rfl (by kernel_rfl) (by kernel_rfl) (by kernel_rfl) (fun _ _ _ h => h) (Or.inl ⟨by rfl, ?_⟩) (by assumption) ?_
      rotate_left
      · intro W hSw
        go_simp
        first | done | (with_reducible rfl)
      try simp only [Act.put, List.setIfInBounds_toArray, List.set_cons_zero, List.set_cons_succ, List.getElem_toArray, List.getElem_cons_succ, List.getElem_cons_zero]
      refine' wpAnyH_take (i := 3) (oi := _) (v := ?_) rfl (by kernel_rfl) (by kernel_rfl) (by kernel_rfl) (fun _ _ _ h => h) (Or.inl ⟨by rfl, ?_⟩) (by assumption) ?_
      rotate_left
      · intro W hSw
        go_simp
        first | done | (with_reducible rfl)
      try simp only [Act.put, List.setIfInBounds_toArray, List.set_cons_zero, List.set_cons_succ, List.getElem_toArray, List.getElem_cons_succ, List.getElem_cons_zero]
      refine' wpAnyH_take (i := 4) (oi := _) (v := _) rfl (by kernel_rfl) (by kernel_rfl) (by kernel_rfl) (fun _ _ _ h => h) (yieldsIf_load_mid (by rfl) _ _ rfl _ _ rfl _ _ (fun _ h => rangeBel2 h r1) hu rfl (by first | assumption | (rw [List.length_map]; simp only [*]; exact size32))) (by assumption) ?_
      try simp only [Act.put, List.setIfInBounds_toArray, List.set_cons_zero, List.set_cons_succ, List.getElem_toArray, List.getElem_cons_succ, List.getElem_cons_zero]
      refine' wpAnyH_take (i := 5) (oi := _) (v := _) rfl (by kernel_rfl) (by kernel_rfl) (by kernel_rfl) (fun _ _ _ h => h) (yieldsIf_load_mid (by rfl) _ _ rfl _ _ rfl _ _ (fun _ h => rangeBel2 h hbx) hu rfl (by first | assumption | (rw [List.length_map]; simp only [*]; exact size32))) (by assumption) ?_
      try simp only [Act.put, List.setIfInBounds_toArray, List.set_cons_zero, List.set_cons_succ, List.getElem_toArray, List.getElem_cons_succ, List.getElem_cons_zero]
      refine' wpAnyH_take (i := 6) (oi := _) (v := ?_) rfl (by kernel_rfl) (by kernel_rfl) (by kernel_rfl) (fun _ _ _ h => h) (Or.inl ⟨by rfl, ?_⟩) (by assumption) ?_
      rotate_left
      · intro W hSw
        go_simp
        first | done | (with_reducible rfl)
      try simp only [Act.put, List.setIfInBounds_toArray, List.set_cons_zero, List.set_cons_succ, List.getElem_toArray, List.getElem_cons_succ, List.getElem_cons_zero]
      refine wpAnyH_done (by kernel_rfl) ?_ _
      refine NoPanic.normal ?_
      cases eb
      · replace hno := hid (hno.out rfl)
        go_wp2
        go_roundw
        case rel => exact ⟨j + 1, by omega, by go_num, hno.out, rangeBel2 hHeld hbx, hbw.trans (hHeld.mono hbw.size)⟩
        case measure => simp [intOf]; omega
      · replace hyes := hid (hyes.out rfl)
        go_wp2
        go_ret
        exact ⟨ret_i hyes.out.symm, hbw.trans (hHeld.mono hbw.size)⟩
    · obtain rfl : j = ps.length := by omega
      have hz2 : z = -1 := by
        rw [← hz.out]
        refine fndI_no ?_
        rw [hasP_none]
        intro p hp
        obtain ⟨i, hi, rfl⟩ := List.getElem_of_mem hp
        exact hrel.out i hi hi
      replace hz2 := hid hz2
      go_wp2
      go_ret
      exact ⟨ret_i hz2.out.symm, hbw⟩

theorem sizeDg (k : Dg) : (Try.prog.info? 24).map (·.size) = some (k.1.map bv).length := by rw [List.length_map, k.2]; exact size32
theorem mGet_no {ps : List Pr} {k : Dg} (h : mayP ps = false ∨ hasP ps k = false) : mGetB ps k = false ∧ mGetL ps k = [] := by
  have : mGetB ps k = false := by
    unfold mGetB
    rcases h with h | h <;> rw [h]
    · rfl
    · exact Bool.and_false _
  exact ⟨this, by unfold mGetL; rw [this]; rfl⟩
theorem may_srt {ps : List Pr} (h : mayP ps = true) : Srt ps := (chain_srt ps (by unfold mayP at h; simp at h; exact h.2)).1
theorem mGet_yes {ps : List Pr} {k : Dg} (h : mayP ps = true) {j : Nat} (hj : j < ps.length) (hk : ps[j].k = k) : mGetB ps k = true ∧ mGetL ps k = ps[j].v := by
  have h2 : hasP ps k = true := hasP_mem.2 ⟨_, List.getElem_mem hj, hk⟩
  have : mGetB ps k = true := by unfold mGetB; rw [h, h2]; rfl
  refine ⟨this, ?_⟩
  unfold mGetL
  rw [if_pos this, ← hk, getV_mem (may_srt h) (List.getElem_mem hj)]
theorem may_v {ps : List Pr} (h : mayP ps = true) {j : Nat} (hj : j < ps.length) : ps[j].v.length ≤ 64 := by
  have := (chain_srt ps (by unfold mayP at h; simp at h; exact h.2)).2 _ (List.getElem_mem hj)
  unfold valB at this
  simp at this
  exact this.2

set_option maxRecDepth 100000 in
set_option maxHeartbeats 1600000 in
theorem RGet_any (F : Nat → Prop) (A : Option Addr) (c n : Nat) (ps : List Pr) (k : Dg) (w : World) (hr : Row F w A ps) (hn : n = ps.length) (hc : ps.length ≤ 9223372036854775807) :
    Calls Try.prog 8 #[.slice A n c, .agg (k.1.map bv).toArray] w fun e w' => ∃ A' c', e = .returned (.tuple #[.slice A' (mGetL ps k).length c', .bool (mGetB ps k)]) ∧ Own 5 w' w.heap.size A' c' (mGetL ps k) ∧ Below w.heap.size w w' := by
  subst hn
  have hbox := boxed_range w k 24
  have b0 := ext_alloc w (.cells (k.1.map bv).toArray 24)
  have hM := fun W hW => RMay_any F A c ps.length ps W hW rfl hc
  have hF := fun W hW => RFind_any F A c ps.length ps k W hW rfl hc
  have hu := Try.underlying24
  have hi := sizeDg k
  have hr0 := hr.bel b0
  rcases hm : mayP ps with _ | _
  · obtain ⟨e1, e2⟩ := mGet_no (k := k) (.inl hm)
    rw [e1, e2]
    rw [hm] at hM
    replace hM := hid hM
    replace hF := hid hF
    replace hi := hid hi
    clear e1 e2 hm
    generalize (k.1.map bv) = ds at *
    go_enter Try.func8, Try.ntmps8
    go_wp2_with fail
    refine (hM.out _ hr0).mono ?_
    rintro e w1 ⟨rfl, hb1⟩
    go_wp2
    go_ret2
    exact ⟨none, 0, rfl, Own.nil _ _, b0.trans (hb1.mono b0.size)⟩
  · rw [hm] at hM
    rcases hh : hasP ps k with _ | _
    · obtain ⟨e1, e2⟩ := mGet_no (k := k) (.inr hh)
      rw [e1, e2]
      rw [fndI_no hh] at hF
      replace hM := hid hM
      replace hF := hid hF
      replace hi := hid hi
      clear e1 e2 hm hh
      generalize (k.1.map bv) = ds at *
      go_enter Try.func8, Try.ntmps8
      go_wp2_with fail
      refine (hM.out _ hr0).mono ?_
      rintro e w1 ⟨rfl, hb1⟩
      have hbx := rangeBel2 hb1 hbox
      have hr1 := hr0.bel hb1
      go_wp2_with (first
        | ((with_reducible refine wpList_load_rng rfl 24 (.tmp 3) rfl w.heap.size 0 rfl ds _ ?_ hu rfl hi.out ?_); exact hbx))
      refine (hF.out _ hr1).mono ?_
      rintro e w2 ⟨rfl, hb2⟩
      go_wp2
      go_ret2
      exact ⟨none, 0, rfl, Own.nil _ _, b0.trans ((hb1.trans (hb2.mono hb1.size)).mono b0.size)⟩
    · obtain ⟨j, hj, hf, hk⟩ := fndI_has hh
      obtain ⟨e1, e2⟩ := mGet_yes hm hj hk
      rw [e1, e2]
      rw [hf] at hF
      have hv64 := may_v hm hj
      obtain ⟨b, o, hA, -, A', c', hcell, -, h1, h2, h3⟩ := row_pr hr0 hj
      subst hA
      have hrd := h3.rd
      replace hM := hid hM
      replace hF := hid hF
      replace hi := hid hi
      clear e1 e2 hm hh hf hk h3
      generalize (k.1.map bv) = ds at *
      generalize ps[j].v = v at *
      go_enter Try.func8, Try.ntmps8
      go_wp2_with fail
      refine (hM.out _ hr0).mono ?_
      rintro e w1 ⟨rfl, hb1⟩
      have hbx := rangeBel2 hb1 hbox
      have hr1 := hr0.bel hb1
      go_wp2_with (first
        | ((with_reducible refine wpList_load_rng rfl 24 (.tmp 3) rfl w.heap.size 0 rfl ds _ ?_ hu rfl hi.out ?_); exact hbx))
      refine (hF.out _ hr1).mono ?_
      rintro e w2 ⟨rfl, hb2⟩
      have hbx2 := rangeBel2 hb2 hbx
      have hr2 := hr1.bel hb2
      go_wp2_with (first
        | ((with_reducible refine wpList_load_rng rfl 24 (.tmp 3) rfl w.heap.size 0 rfl ds _ ?_ hu rfl hi.out ?_); exact hbx2))
      refine (hF.out _ hr2).mono ?_
      rintro e w3 ⟨rfl, hb3⟩
      have B3 := (hb1.trans (hb2.mono hb1.size)).trans (hb3.mono (Nat.le_trans hb1.size hb2.size))
      have hcell3 := (B3.cell (World.block_lt_of_cell? _ _ hcell)).trans hcell
      have hrd3 := hrd.bel B3
      clear hcell hrd hb1 hb2 hb3
      go_wp2_with fail
      refine (Twin_any A' v.length c' v _ hrd3 rfl (by omega)).mono ?_
      rintro e w4 ⟨A4, c4, rfl, ho4, hb4⟩
      go_wp2
      go_ret2
      exact ⟨A4, c4, rfl, ho4.base (Nat.le_trans b0.size B3.size), b0.trans ((B3.trans (hb4.mono B3.size)).mono b0.size)⟩
end Go.Proofs.Ytiogdenlaelkbaa
