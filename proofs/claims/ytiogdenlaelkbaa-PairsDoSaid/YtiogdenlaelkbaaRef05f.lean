/-
  The document's answers of layer 5: Without, Drop.
-/
import Derived.Test.YtiogdenlaelkbaaRef05c
import Derived.Test.YtiogdenlaelkbaaRef05d
namespace Go.Proofs.Ytiogdenlaelkbaa
open Go.RowKit
set_option linter.unusedVariables false
set_option linter.unusedSimpArgs false

theorem without_take {ps : List Pr} {k : Dg} {j : Nat} (hj : j < ps.length) : withoutP (ps.take (j + 1)) k = withoutP (ps.take j) k ++ (if ps[j].k = k then [] else [ps[j]]) := by
  unfold withoutP
  rw [List.take_succ_eq_append_getElem hj, List.filter_append]
  congr 1
  by_cases h : ps[j].k = k <;> simp [h]
theorem sizePr (k : Dg) (x : Value) : (Try.prog.info? 46).map (·.size) = some (k.1.map bv ++ [x]).length := by
  have h := slotPr.info
  rw [len_pr]
  cases hi : Try.prog.info? 46 with
  | none => rw [hi] at h; cases h
  | some i =>
    rw [hi] at h
    simp at h
    simp [h.2.1]
theorem cells_agg (cs : List Value) : (Value.agg cs.toArray).cells = cs.toArray := rfl

set_option maxRecDepth 100000 in
set_option maxHeartbeats 1600000 in
theorem RWithout_any (F : Nat → Prop) (A : Option Addr) (c n : Nat) (ps : List Pr) (k : Dg) (w : World) (hr : Row F w A ps) (hn : n = ps.length) (hc : ps.length ≤ 1000000) (hv : ∀ p ∈ ps, p.v.length ≤ 1000000) :
    Calls Try.prog 30 #[.slice A n c, .agg (k.1.map bv).toArray] w fun e w' => ∃ A' c', e = .returned (.slice A' (withoutP ps k).length c') ∧ OwnR 46 w' w.heap.size A' c' (withoutP ps k) ∧ Below w.heap.size w w' := by
  subst hn
  have hu := Try.underlying24
  have hu2 := Try.underlying46
  have hbox := boxed_range w k 24
  have b0 := ext_alloc w (.cells (k.1.map bv).toArray 24)
  have sz : (w.alloc (.cells (k.1.map bv).toArray 24)).heap.size = w.heap.size + 1 := World.size_alloc _ _
  have hi := sizeDg k
  have hwl := without_length_le ps k
  have hr0 := hr.bel b0
  obtain ⟨ds, hds⟩ : ∃ ds, ds = k.1.map bv := ⟨_, rfl⟩
  rw [← hds] at hbox b0 hi hr0 sz ⊢
  obtain ⟨res, hres⟩ : ∃ r, withoutP ps k = r := ⟨_, rfl⟩
  have hv2 : ∀ p ∈ res, p.v.length ≤ 1000000 := fun p hp => hv p (List.mem_filter.1 (by rw [← hres] at hp; exact hp)).1
  rw [hres] at hwl ⊢
  replace hres := hid hres
  replace hds := hid hds
  replace hi := hid hi
  clear hr
  go_enter Try.func30, Try.ntmps30
  go_wp2
  generalize w.alloc (.cells ds.toArray 24) = w1 at *
  have hb1 : Below w1.heap.size w1 w1 := Below.refl _ _
  replace sz := hid sz
  go_loopw [5, 6] (fun v i wr => ∃ (j : Nat) (A' : Option Addr) (c' : Nat), j ≤ ps.length ∧ i = .int .i64 j ∧ v = .slice A' (withoutP (ps.take j) k).length c' ∧ RowO 46 (fun b => b < w1.heap.size) wr w1.heap.size A' c' (withoutP (ps.take j) k) ∧ Below w1.heap.size w1 wr) (fun _ i _ => ps.length - (intOf i).toNat)
  case atStart => exact ⟨0, none, 0, Nat.zero_le _, rfl, rfl, RowO.nil _ _ _, hb1⟩
  case round =>
    obtain ⟨j, A0, c0, hj, rfl, rfl, ho, hb⟩ := hrel
    have hx : (withoutP (ps.take j) k).length ≤ j := by have := without_length_le (ps.take j) k; rw [List.length_take] at this; omega
    by_cases hlt : j < ps.length
    · have E := hid (without_take (k := k) hlt)
      obtain ⟨b, o, hA, r1, A', c', hcell, r2, h1, h2, h3⟩ := row_pr hr0 hlt
      subst hA
      obtain ⟨eb, heb⟩ : ∃ eb, decide (ps[j].k = k) = eb := ⟨_, rfl⟩
      have hE : ∀ W, (Op.equalIn 10000 24 (.agg (ps[j].k.1.map bv).toArray) (.agg ds.toArray)).run Try.prog W = .ok eb W := fun W => by rw [hds.out]; exact eqd_is ps[j].k k eb heb W
      have hp : ps[j] = ⟨ps[j].k, ps[j].v⟩ := rfl
      have E2 : Hid (withoutP (ps.take (j + 1)) k = if eb = true then withoutP (ps.take j) k else withoutP (ps.take j) k ++ [⟨ps[j].k, ps[j].v⟩]) := by
        refine E.out.trans ?_
        by_cases hk : ps[j].k = k
        · have : eb = true := by rw [← heb, decide_eq_true hk]
          rw [if_pos hk, if_pos this, List.append_nil]
        · have : eb = false := by rw [← heb, decide_eq_false hk]
          rw [if_neg hk, this]; rfl
      have hs := sizePr ps[j].k (.slice A' ps[j].v.length c')
      clear heb E hp
      have hi1 := sizeDg ps[j].k
      generalize hy : withoutP (ps.take (j + 1)) k = y at *
      replace hy := hid hy
      generalize withoutP (ps.take j) k = x at *
      generalize ps[j].k = kq at *
      generalize ps[j].v = v at *
      have z1 := kq.2
      replace hx := hid hx
      replace hs := hid hs
      replace hi1 := hid hi1
      have hbs := hb.size
      have R3 := Enc.mono (rep_pr_mk kq v A' c' h1 h2 h3) (G := fun b => b < w1.heap.size) fun b _ hl => hl
      clear hr0 h3
      go_wp2
      refine wp_region_noPanic ?_
      refine wp_region_held_drew (S := fun w' => Below w1.heap.size w1 w') (by kernel_rfl) ?_ (fun hHeld => ?_)
      · exact below_drewN hb 1
      refine' wpAnyH_take (i := 0) (oi := _) (v := ?_) rfl (by kernel_rfl) (by kernel_rfl) (by kernel_rfl) (fun _ _ _ h => h) (Or.inl ⟨by rfl, ?_⟩) (by assumption) ?_
      rotate_left
      · intro W hSw
        go_simp
        first | done | (with_reducible rfl)
      try simp only [Act.put, List.setIfInBounds_toArray, List.set_cons_zero, List.set_cons_succ, List.getElem_toArray, List.getElem_cons_succ, List.getElem_cons_zero]
      refine' wpAnyH_take (i := 1) (oi := _) (v := ?_) rfl (by kernel_rfl) (by kernel_rfl) (by kernel_rfl) (fun _ _ _ h => h) (Or.inl ⟨by rfl, ?_⟩) (by assumption) ?_
      rotate_left
      · intro W hSw
        go_simp
        first | done | (with_reducible rfl)
      try simp only [Act.put, List.setIfInBounds_toArray, List.set_cons_zero, List.set_cons_succ, List.getElem_toArray, List.getElem_cons_succ, List.getElem_cons_zero]
      refine' wpAnyH_take (i := 2) (oi := _) (v := ?_) rfl (by kernel_rfl) (by kernel_rfl) (by kernel_rfl) (fun _ _ _ h => h) (Or.inl ⟨by rfl, ?_⟩) (by assumption) ?_
      rotate_left
      · intro W hSw
        go_simp
        first | done | (with_reducible rfl)
      try simp only [Act.put, List.setIfInBounds_toArray, List.set_cons_zero, List.set_cons_succ, List.getElem_toArray, List.getElem_cons_succ, List.getElem_cons_zero]
      refine' wpAnyH_take (i := 3) (oi := _) (v := ?_) rfl (by kernel_rfl) (by kernel_rfl) (by kernel_rfl) (fun _ _ _ h => h) (Or.inl ⟨by rfl, ?_⟩) (by assumption) ?_
      rotate_left
      · intro W hSw
        go_simp
        first | done | (with_reducible rfl)
      try simp only [Act.put, List.setIfInBounds_toArray, List.set_cons_zero, List.set_cons_succ, List.getElem_toArray, List.getElem_cons_succ, List.getElem_cons_zero]
      refine' wpAnyH_take (i := 4) (oi := _) (v := _) rfl (by kernel_rfl) (by kernel_rfl) (by kernel_rfl) (fun _ _ _ h => h) (yieldsIf_load_mid (by rfl) _ _ rfl _ _ rfl _ _ (fun _ h => rangeBel2 h r1) hu rfl hi1.out) (by assumption) ?_
      try simp only [Act.put, List.setIfInBounds_toArray, List.set_cons_zero, List.set_cons_succ, List.getElem_toArray, List.getElem_cons_succ, List.getElem_cons_zero]
      refine' wpAnyH_take (i := 5) (oi := _) (v := _) rfl (by kernel_rfl) (by kernel_rfl) (by kernel_rfl) (fun _ _ _ h => h) (yieldsIf_load_mid (by rfl) _ _ rfl _ _ rfl _ _ (fun _ h => rangeBel2 h hbox) hu rfl hi.out) (by assumption) ?_
      try simp only [Act.put, List.setIfInBounds_toArray, List.set_cons_zero, List.set_cons_succ, List.getElem_toArray, List.getElem_cons_succ, List.getElem_cons_zero]
      refine' wpAnyH_take (i := 6) (oi := _) (v := ?_) rfl (by kernel_rfl) (by kernel_rfl) (by kernel_rfl) (fun _ _ _ h => h) (Or.inl ⟨by rfl, ?_⟩) (by assumption) ?_
      rotate_left
      · intro W hSw
        go_simp
        first | done | (with_reducible rfl)
      try simp only [Act.put, List.setIfInBounds_toArray, List.set_cons_zero, List.set_cons_succ, List.getElem_toArray, List.getElem_cons_succ, List.getElem_cons_zero]
      refine wpAnyH_done (by kernel_rfl) ?_ _
      refine NoPanic.normal ?_
      have E3 := E2.out
      have R2 := rangeBel2 hHeld r2
      replace R3 := Enc.bel2 R3 hHeld
      replace ho := ho.bel (bel_drew wr)
      replace hbs : w1.heap.size ≤ wr.drew.heap.size := hbs
      clear hb r2
      cases eb
      · rw [if_neg (by decide)] at E3
        replace E3 := hid E3
        clear E2
        generalize wr.drew = wq at *
        go_wp2_with (first
          | ((with_reducible refine wpList_load_rng rfl 46 (.tmp 23) rfl b (o + j * 33) rfl (kq.1.map bv ++ [.slice A' v.length c']) _ ?_ hu2 rfl hs.out ?_); exact R2)
          | ((with_reducible refine wpList_buildOne slotPr (by decide) rfl (.tmp 24) rfl (kq.1.map bv ++ [.slice A' v.length c']) ?_ (len_pr kq _) ?_); rfl)
          | (at_builtin; refine wpList_appR slotPr rfl (.tmp 20) (.tmp 25) rfl (fun b => b < w1.heap.size) w1.heap.size A0 _ x.length 1 c0 1 x [⟨kq, v⟩] rfl rfl rfl rfl (ho.alloc _) (src_alloc R3) (fun b hb => by rw [World.size_alloc]; exact Nat.lt_succ_of_lt (Nat.lt_of_lt_of_le hb hbs)) (by have := hx.out; simp; omega) (by rw [World.size_alloc]; omega) ?_; intro A5 c5 w5 ho5 hB5))
        rw [← E3.out] at ho5
        go_roundw
        case rel =>
          have hl : x.length + 1 = y.length := by rw [E3.out]; simp
          rw [hl]
          rw [← hy.out] at ho5 ⊢
          exact ⟨j + 1, A5, c5, by omega, by go_num, rfl, ho5, (hHeld.trans ((ext_alloc wq _).mono hbs)).trans hB5⟩
        case measure => simp [intOf]; omega
      · rw [if_pos rfl] at E3
        replace E3 := hid E3
        clear E2
        go_wp2
        go_roundw
        case rel =>
          rw [← E3.out, ← hy.out] at ho ⊢
          exact ⟨j + 1, A0, c0, by omega, by go_num, rfl, ho, hHeld⟩
        case measure => simp [intOf]; omega
    · obtain rfl : j = ps.length := by omega
      rw [List.take_length, hres.out] at ho hx ⊢
      have hrow := ho.row
      replace hx := hid hx
      go_wp2_with fail
      refine (RTwinP_any _ A0 c0 res.length res _ hrow rfl (by have := hx.out; omega) hv2).mono ?_
      rintro e w4 ⟨A4, c4, rfl, ho4, hb4⟩
      go_wp2
      go_ret
      exact ⟨A4, c4, rfl, ho4.base (Nat.le_trans b0.size hb.size), b0.trans ((hb.trans (hb4.mono hb.size)).mono b0.size)⟩

set_option maxRecDepth 100000 in
set_option maxHeartbeats 1600000 in
theorem RDrop_any (F : Nat → Prop) (A : Option Addr) (c n : Nat) (ps : List Pr) (k : Dg) (w : World) (hr : Row F w A ps) (hn : n = ps.length) (hc : ps.length ≤ 1000000) (hv : ∀ p ∈ ps, p.v.length ≤ 1000000) :
    Calls Try.prog 12 #[.slice A n c, .agg (k.1.map bv).toArray] w fun e w' => ∃ A' c', e = .returned (.tuple #[.slice A' (mDropL ps k).length c', .int .i64 (mDropE ps k)]) ∧ OwnR 46 w' w.heap.size A' c' (mDropL ps k) ∧ Below w.heap.size w w' := by
  subst hn
  have hbox := boxed_range w k 24
  have b0 := ext_alloc w (.cells (k.1.map bv).toArray 24)
  have hM := fun W hW => RMay_any F A c ps.length ps W hW rfl (by omega)
  have hF := fun W hW => RFind_any F A c ps.length ps k W hW rfl (by omega)
  have hO := fun W hW => RWithout_any F A c ps.length ps k W hW rfl hc hv
  have hu := Try.underlying24
  have hi := sizeDg k
  have hr0 := hr.bel b0
  clear hv
  rcases hm : mayP ps with _ | _
  · rw [(mDrop_bad hm).1, (mDrop_bad hm).2]
    rw [hm] at hM
    replace hM := hid hM
    replace hF := hid hF
    replace hO := hid hO
    replace hi := hid hi
    clear hm
    generalize (k.1.map bv) = ds at *
    go_enter Try.func12, Try.ntmps12
    go_wp2_with fail
    refine (hM.out _ hr0).mono ?_
    rintro e w1 ⟨rfl, hb1⟩
    go_wp2
    go_ret2
    exact ⟨none, 0, rfl, OwnR.nil _ _, b0.trans (hb1.mono b0.size)⟩
  · rw [hm] at hM
    rcases hh : hasP ps k with _ | _
    · rw [(mDrop_none hm hh).1, (mDrop_none hm hh).2]
      rw [fndI_no hh] at hF
      replace hM := hid hM
      replace hF := hid hF
      replace hO := hid hO
      replace hi := hid hi
      clear hm hh
      generalize (k.1.map bv) = ds at *
      go_enter Try.func12, Try.ntmps12
      go_wp2_with fail
      refine (hM.out _ hr0).mono ?_
      rintro e w1 ⟨rfl, hb1⟩
      have hbx := rangeBel2 hb1 hbox
      have hr1 := hr0.bel hb1
      go_wp2_with (first
        | ((with_reducible refine wpList_load_rng rfl 24 (.tmp 3) rfl w.heap.size 0 rfl ds _ ?_ hu rfl hi.out ?_); exact hbx))
      refine (hF.out _ hr1).mono ?_
      rintro e w2 ⟨rfl, hb2⟩
      go_wp2
      go_ret2
      exact ⟨none, 0, rfl, OwnR.nil _ _, b0.trans ((hb1.trans (hb2.mono hb1.size)).mono b0.size)⟩
    · rw [(mDrop_yes hm hh).1, (mDrop_yes hm hh).2]
      obtain ⟨j, hj, hf, hk⟩ := fndI_has hh
      rw [hf] at hF
      replace hM := hid hM
      replace hF := hid hF
      replace hO := hid hO
      replace hi := hid hi
      clear hm hh hf hk
      generalize (k.1.map bv) = ds at *
      generalize withoutP ps k = res at *
      go_enter Try.func12, Try.ntmps12
      go_wp2_with fail
      refine (hM.out _ hr0).mono ?_
      rintro e w1 ⟨rfl, hb1⟩
      have hbx := rangeBel2 hb1 hbox
      have hr1 := hr0.bel hb1
      go_wp2_with (first
        | ((with_reducible refine wpList_load_rng rfl 24 (.tmp 3) rfl w.heap.size 0 rfl ds _ ?_ hu rfl hi.out ?_); exact hbx))
      refine (hF.out _ hr1).mono ?_
      rintro e w2 ⟨rfl, hb2⟩
      have hbx2 := rangeBel2 hb2 hbx
      have hr2 := hr1.bel hb2
      have B2 := hb1.trans (hb2.mono hb1.size)
      go_wp2_with (first
        | ((with_reducible refine wpList_load_rng rfl 24 (.tmp 3) rfl w.heap.size 0 rfl ds _ ?_ hu rfl hi.out ?_); exact hbx2))
      refine (hO.out _ hr2).mono ?_
      rintro e w3 ⟨A3, c3, rfl, ho3, hb3⟩
      go_wp2
      go_ret2
      exact ⟨A3, c3, rfl, ho3.base (Nat.le_trans b0.size B2.size), b0.trans ((B2.trans (hb3.mono B2.size)).mono b0.size)⟩
end Go.Proofs.Ytiogdenlaelkbaa
