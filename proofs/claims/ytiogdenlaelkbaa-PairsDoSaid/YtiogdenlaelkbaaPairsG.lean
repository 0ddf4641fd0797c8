/-
  Contracts of the landed package pairs: Put.
-/
import Derived.Test.YtiogdenlaelkbaaPairsF
namespace Go.Proofs.Ytiogdenlaelkbaa
open Go.RowKit
set_option linter.unusedVariables false
set_option linter.unusedSimpArgs false

theorem Rd.row_lt {w : World} {A : Option Addr} {l : List UInt8} (h : Rd w A l) : Row (fun b => b < w.heap.size) w A l := h.row fun a ha hn => by
  obtain ⟨b, o, hA, hc⟩ := h hn
  rw [ha] at hA
  injection hA with hA
  subst hA
  exact World.block_lt_of_cell? _ _ (hc 0 _ (List.getElem?_eq_getElem hn))

set_option maxRecDepth 100000 in
set_option maxHeartbeats 3000000 in
theorem PPut_any (F : Nat → Prop) (A V : Option Addr) (c n m d : Nat) (ps : List Pr) (k : Dg) (v : List UInt8) (w : World) (hr : Row F w A ps) (hn : n = ps.length) (hrv : Rd w V v) (hm : m = v.length) (hvd : v.length ≤ d) (hdm : d ≤ maxLen) (hc : ps.length ≤ 1000000) (hcap : ps.length ≤ c) (hcm : c ≤ 9223372036854775807) :
    Calls Try.prog 9 #[.slice A n c, .agg (k.1.map bv).toArray, .slice V m d] w fun e w' => ∃ A' c', e = .returned (.tuple #[.slice A' (mPutL ps k v).length c', .int .i64 (mPutE ps k v)]) ∧ OwnR 46 w' w.heap.size A' c' (mPutL ps k v) ∧ Below w.heap.size w w' := by
  subst hn hm
  have hbox : (w.alloc (.cells (k.1.map bv).toArray 24)).rangeAt w.heap.size 0 (k.1.map bv) := rangeOf (heap_alloc_new w _)
  have b0 := ext_alloc w (.cells (k.1.map bv).toArray 24)
  have hM := fun W hW => PCheck_any F A c ps.length ps W hW rfl (by omega)
  have hF := fun W hW hS => PFind_any F A c ps.length ps k W hW rfl hc hS
  have hu := Try.underlying24
  have hi := sizeDgP k
  have hr0 := hr.bel b0
  have hrv0 := hrv.bel b0
  have hvl : v.length ≤ 9223372036854775807 := by unfold maxLen at hdm; omega
  clear hr hrv
  rcases hm : mayP ps with _ | _
  · rw [(mPut_bad (k := k) (v := v) (.inl hm)).1, (mPut_bad (k := k) (v := v) (.inl hm)).2]
    rw [hm, if_neg (by decide)] at hM
    replace hM := hid hM
    clear hF hm
    generalize (k.1.map bv) = ds at *
    go_enter Try.func9, Try.ntmps9
    go_wp2_with fail
    refine (hM.out _ hr0).mono ?_
    rintro e w1 ⟨rfl, hb1⟩
    go_wp2
    go_ret2
    exact ⟨none, 0, rfl, OwnR.nil _ _, b0.trans (hb1.mono b0.size)⟩
  · rw [hm, if_pos rfl] at hM
    rcases hv : valB v with _ | _
    · rw [(mPut_bad (k := k) (.inr hv)).1, (mPut_bad (k := k) (.inr hv)).2]
      replace hM := hid hM
      replace hv := hid hv
      clear hF hm
      generalize (k.1.map bv) = ds at *
      go_enter Try.func9, Try.ntmps9
      go_wp2_with fail
      refine (hM.out _ hr0).mono ?_
      rintro e w1 ⟨rfl, hb1⟩
      go_wp2_with fail
      refine (PIsValue_is v V d false _ hvl hv.out).mono ?_
      rintro e w2 ⟨rfl, rfl⟩
      go_wp2
      go_ret2
      exact ⟨none, 0, rfl, OwnR.nil _ _, b0.trans (hb1.mono b0.size)⟩
    · have hS := (may_srtP hm).1
      have hat := has_at hS k
      have h512 := (may_srtP hm).2.1
      have hv64 : ∀ p ∈ withP ps k v, p.v.length ≤ 1000000 := fun p hp => by
        rcases with_mem.1 hp with rfl | ⟨hp, _⟩
        · unfold valB at hv
          simp at hv
          show v.length ≤ 1000000
          omega
        · have := (may_srtP hm).2.2 p hp; omega
      have hBu : ∀ x : Value, x.cells = #[x] → Try.prog.built 46 [(0, .agg (k.1.map bv).toArray), (1, x)] = some (k.1.map bv ++ [x]).toArray := fun x hx => built_pr k x hx
      have hLen : ∀ x : Value, (k.1.map bv ++ [x]).length = Enc.size Pr := fun x => len_pr k x
      have hRep : ∀ W : World, Rd W V v → Enc.rep (fun b => b < W.heap.size) W (⟨k, v⟩ : Pr) (k.1.map bv ++ [.slice V v.length d]) := fun W h => rep_pr_mk k v V d hvd hdm h.row_lt
      rcases hh : hasP ps k with _ | _
      · have e0 := with_no v hh
        have hwl : (withP ps k v).length = ps.length + 1 := by rw [with_length, without_no hh]
        rw [hh] at hF
        have hF2 := fun W hW => hF W hW hS
        have hjl := cnt_le ps k
        by_cases hfull : ps.length = 512
        · rw [(mPut_full hm hv (by omega)).1, (mPut_full hm hv (by omega)).2]
          replace hM := hid hM
          replace hF2 := hid hF2
          replace hi := hid hi
          replace hv := hid hv
          replace hBu := hid hBu
          replace hLen := hid hLen
          clear hm hh hF hat hS e0 hwl hv64 hRep h512
          generalize (k.1.map bv) = ds at *
          generalize cnt ps k = j at *
          have hfull2 : ((ps.length : Int) == 512) = true := by simp; omega
          replace hfull := hid hfull
          go_enter Try.func9, Try.ntmps9
          go_wp2_with fail
          refine (hM.out _ hr0).mono ?_
          rintro e w1 ⟨rfl, hb1⟩
          go_wp2_with fail
          refine (PIsValue_is v V d true _ hvl hv.out).mono ?_
          rintro e w2 ⟨rfl, rfl⟩
          have hbx := rangeBel2 hb1 hbox
          have hr1 := hr0.bel hb1
          go_wp2_with (first
            | ((with_reducible refine wpList_load_rng rfl 24 (.tmp 4) rfl w.heap.size 0 rfl ds _ ?_ hu rfl hi.out ?_); exact hbx))
          refine (hF2.out _ hr1).mono ?_
          rintro e w2 ⟨rfl, hb2⟩
          have hbx2 := rangeBel2 hb2 hbx
          have B2 := hid (b0.trans ((hb1.trans (hb2.mono hb1.size)).mono b0.size))
          go_wp2_with (first
            | ((with_reducible refine wpList_load_rng rfl 24 (.tmp 4) rfl w.heap.size 0 rfl ds _ ?_ hu rfl hi.out ?_); exact hbx2)
            | ((with_reducible refine wpList_built rfl 46 _ rfl (ds ++ [Value.slice V v.length d] : List Value).toArray [(0, .agg ds.toArray), (1, .slice V v.length d)] ?_ ?_ ?_); exact hBu.out _ rfl; rfl)
            | ((with_reducible refine wpList_buildOne slotPr (by decide) rfl (.tmp 28) rfl (ds ++ [Value.slice V v.length d] : List Value) ?_ (hLen.out _) ?_); rfl))
          go_ret2
          exact ⟨none, 0, rfl, OwnR.nil _ _, B2.out.trans ((ext_alloc w2 _).mono B2.out.size)⟩
        · rw [(mPut_yes hm hv (by omega)).1, (mPut_yes hm hv (by omega)).2]
          have hfull2 : ((ps.length : Int) == 512) = false := by simp; omega
          generalize cnt ps k = j at *
          generalize withP ps k v = res at *
          obtain ⟨x1, hx1⟩ : ∃ x, ps.take j = x := ⟨_, rfl⟩
          obtain ⟨x2, hx2⟩ : ∃ x, ps.drop j = x := ⟨_, rfl⟩
          have l1 : Hid (x1.length = j) := by rw [← hx1, List.length_take]; show _ = _; omega
          have l2 : Hid (x2.length = ps.length - j) := by rw [← hx2, List.length_drop]; exact rfl
          rw [hx1, hx2] at e0
          have s1 : Hid (∀ W, Row F W A ps → Src F W A x1) := fun W h => by rw [← hx1]; exact h.src.take j
          have s2 : Hid (∀ W, Row F W A ps → Src F W (cutA A c j (Enc.size Pr)) x2) := fun W h => by rw [← hx2]; exact h.src.cutA j c (by omega) hcap
          have hjc : j ≤ c := by omega
          have hjq : j ≤ ps.length := by omega
          have hall : Hid (∀ (a b e : Option Addr) (p q r : Nat), allP [((a, p), x1), ((b, q), [(⟨k, v⟩ : Pr)]), ((e, r), x2)] = res) := fun a b e p q r => by rw [e0]; simp [allP]
          have hrl : res.length ≤ 1000000 := by have := l1.out; have := l2.out; rw [e0, List.length_append, List.length_cons]; omega
          replace e0 := hid e0
          replace hM := hid hM
          replace hF2 := hid hF2
          replace hi := hid hi
          replace hv := hid hv
          replace hBu := hid hBu
          replace hLen := hid hLen
          replace hRep := hid hRep
          clear hm hh hF hat hS hwl h512 hx1 hx2 hfull
          generalize (k.1.map bv) = ds at *
          go_enter Try.func9, Try.ntmps9
          go_wp2_with fail
          refine (hM.out _ hr0).mono ?_
          rintro e w1 ⟨rfl, hb1⟩
          go_wp2_with fail
          refine (PIsValue_is v V d true _ hvl hv.out).mono ?_
          rintro e w2 ⟨rfl, rfl⟩
          have hbx := rangeBel2 hb1 hbox
          have hr1 := hr0.bel hb1
          go_wp2_with (first
            | ((with_reducible refine wpList_load_rng rfl 24 (.tmp 4) rfl w.heap.size 0 rfl ds _ ?_ hu rfl hi.out ?_); exact hbx))
          refine (hF2.out _ hr1).mono ?_
          rintro e w2 ⟨rfl, hb2⟩
          have hbx2 := rangeBel2 hb2 hbx
          have B2 := hid (b0.trans ((hb1.trans (hb2.mono hb1.size)).mono b0.size))
          have hr2 := hr1.bel hb2
          have hrv2 := (hrv0.bel hb1).bel hb2
          have t1 := hid ((((s1.out _ hr2).mono (G := fun b => b < w2.heap.size + 1) fun b _ hl => Nat.lt_succ_of_lt hl)).bel (ext_alloc w2 (.cells (ds ++ [Value.slice V v.length d]).toArray 46)))
          have t2 := hid ((((s2.out _ hr2).mono (G := fun b => b < w2.heap.size + 1) fun b _ hl => Nat.lt_succ_of_lt hl)).bel (ext_alloc w2 (.cells (ds ++ [Value.slice V v.length d]).toArray 46)))
          have t3 := hid ((src_alloc (E := 46) (Enc.mono (hRep.out _ hrv2) (G := fun b => b < w2.heap.size + 1) fun b _ hl => Nat.lt_succ_of_lt hl)))
          have hs3 : w2.heap.size + 1 = (w2.alloc (.cells (ds ++ [Value.slice V v.length d]).toArray 46)).heap.size := (World.size_alloc _ _).symm
          replace hs3 := hid hs3
          clear hbx hr1 hr0 hbox hb1 hb2 s1 s2 hM hF2 hr2 hrv0 hrv2
          go_wp2_with (first
            | ((with_reducible refine wpList_load_rng rfl 24 (.tmp 4) rfl w.heap.size 0 rfl ds _ ?_ hu rfl hi.out ?_); exact hbx2)
            | ((with_reducible refine wpList_built rfl 46 _ rfl (ds ++ [Value.slice V v.length d] : List Value).toArray [(0, .agg ds.toArray), (1, .slice V v.length d)] ?_ ?_ ?_); exact hBu.out _ rfl; rfl)
            | ((with_reducible refine wpList_buildOne slotPr (by decide) rfl (.tmp 28) rfl (ds ++ [Value.slice V v.length d] : List Value) ?_ (hLen.out _) ?_); rfl))
          have B3 := hid (B2.out.trans ((ext_alloc w2 (.cells (ds ++ [Value.slice V v.length d]).toArray 46)).mono B2.out.size))
          generalize w2.alloc (.cells (ds ++ [Value.slice V v.length d]).toArray 46) = w3 at *
          refine wp_region_noPanic ?_
          refine wp_region_held_drew (S := fun w' => Below w3.heap.size w3 w') (by kernel_rfl) ?_ (fun hHeld => ?_)
          · exact bel_drew w3
          refine' wpAnyH_take (i := 0) (oi := _) (v := ?_) rfl (by kernel_rfl) (by kernel_rfl) (by kernel_rfl) (fun _ _ _ h => h) (Or.inl ⟨by rfl, ?_⟩) (by assumption) ?_
          rotate_left
          · intro W hSw
            go_simp
            first | done | (with_reducible rfl)
          try simp only [Act.put, List.setIfInBounds_toArray, List.set_cons_zero, List.set_cons_succ, List.getElem_toArray, List.getElem_cons_succ, List.getElem_cons_zero]
          refine' wpAnyH_take (i := 1) (oi := _) (v := ?_) rfl (by kernel_rfl) (by kernel_rfl) (by kernel_rfl) (fun _ _ _ h => h) (Or.inl ⟨by rfl, ?_⟩) (by assumption) ?_
          rotate_left
          · intro W hSw
            go_simp
            first | done | (with_reducible rfl)
          try simp only [Act.put, List.setIfInBounds_toArray, List.set_cons_zero, List.set_cons_succ, List.getElem_toArray, List.getElem_cons_succ, List.getElem_cons_zero]
          refine' wpAnyH_take (i := 2) (oi := _) (v := _) rfl (by kernel_rfl) (by kernel_rfl) (by kernel_rfl) (fun _ _ _ h => h) (yieldsIf_slice (by rfl) _ _ _ _ _ rfl _ _ _ _ _ (run_upto slotPr A ps.length c j hjc) rfl rfl rfl rfl) (by assumption) ?_
          try simp only [Act.put, List.setIfInBounds_toArray, List.set_cons_zero, List.set_cons_succ, List.getElem_toArray, List.getElem_cons_succ, List.getElem_cons_zero]
          refine' wpAnyH_take (i := 3) (oi := _) (v := ?_) rfl (by kernel_rfl) (by kernel_rfl) (by kernel_rfl) (fun _ _ _ h => h) (Or.inl ⟨by rfl, ?_⟩) (by assumption) ?_
          rotate_left
          · intro W hSw
            go_simp
            first | done | (with_reducible rfl)
          try simp only [Act.put, List.setIfInBounds_toArray, List.set_cons_zero, List.set_cons_succ, List.getElem_toArray, List.getElem_cons_succ, List.getElem_cons_zero]
          refine' wpAnyH_take (i := 4) (oi := _) (v := ?_) rfl (by kernel_rfl) (by kernel_rfl) (by kernel_rfl) (fun _ _ _ h => h) (Or.inl ⟨by rfl, ?_⟩) (by assumption) ?_
          rotate_left
          · intro W hSw
            go_simp
            first | done | (with_reducible rfl)
          try simp only [Act.put, List.setIfInBounds_toArray, List.set_cons_zero, List.set_cons_succ, List.getElem_toArray, List.getElem_cons_succ, List.getElem_cons_zero]
          refine' wpAnyH_take (i := 5) (oi := _) (v := ?_) rfl (by kernel_rfl) (by kernel_rfl) (by kernel_rfl) (fun _ _ _ h => h) (Or.inl ⟨by rfl, ?_⟩) (by assumption) ?_
          rotate_left
          · intro W hSw
            go_simp
            first | done | (with_reducible rfl)
          try simp only [Act.put, List.setIfInBounds_toArray, List.set_cons_zero, List.set_cons_succ, List.getElem_toArray, List.getElem_cons_succ, List.getElem_cons_zero]
          refine' wpAnyH_take (i := 6) (oi := _) (v := _) rfl (by kernel_rfl) (by kernel_rfl) (by kernel_rfl) (fun _ _ _ h => h) (yieldsIf_slice (by rfl) _ _ _ _ _ rfl _ _ _ _ _ (run_from slotPr A ps.length c j hjq) rfl rfl rfl rfl) (by assumption) ?_
          try simp only [Act.put, List.setIfInBounds_toArray, List.set_cons_zero, List.set_cons_succ, List.getElem_toArray, List.getElem_cons_succ, List.getElem_cons_zero]
          refine wpAnyH_ready (rs := [7]) (by kernel_rfl) (by simp) ?_
          refine AllReadyH.cons (o := _) rfl (fun K hK => ?_) AllReadyH.nil
          go_simp
          refine hK.out _ _ ?_ (fun hHeld => ?_)
          · exact hHeld.trans ((ext_alloc _ _).mono hHeld.size)
          clear hK K
          try simp only [Act.put, List.setIfInBounds_toArray, List.set_cons_zero, List.set_cons_succ, List.getElem_toArray, List.getElem_cons_succ, List.getElem_cons_zero]
          refine wpAnyH_ready (rs := [8]) (by kernel_rfl) (by simp) ?_
          refine AllReadyH.cons (o := _) rfl (fun K hK => ?_) AllReadyH.nil
          go_simp
          refine (concat_any (fun b => b < w2.heap.size + 1) _ [((A, c), x1), ((some ⟨w2.heap.size, 0, none⟩, 1), [(⟨k, v⟩ : Pr)]), ((cutA A c j (Enc.size Pr), c - j), x2)] _ (by exact cells_slices _ w3 _ _ (by simp [slvR, l1.out, l2.out])) (by intro x hx; simp only [List.mem_cons, List.not_mem_nil, or_false] at hx; rcases hx with rfl | rfl | rfl; exact t1.out.bel hHeld; exact t3.out.bel hHeld; exact t2.out.bel hHeld) (by intro b hb; exact Nat.lt_of_lt_of_le hb (Nat.le_trans (Nat.le_of_eq hs3.out) hHeld.size)) (by simp) (by rw [hall.out]; exact hrl)).mono ?_
          rintro e7 w7 ⟨A7, c7, rfl, ho7, hB⟩
          rw [hall.out] at ho7 ⊢
          go_wp2_with fail
          refine hK.out _ _ ?_ (fun hHeld => ?_)
          · exact hHeld.trans (hB.mono hHeld.size)
          clear hK K
          try simp only [Act.put, List.setIfInBounds_toArray, List.set_cons_zero, List.set_cons_succ, List.getElem_toArray, List.getElem_cons_succ, List.getElem_cons_zero]
          refine wpAnyH_ready (rs := [9]) (by kernel_rfl) (by simp) ?_
          refine AllReadyH.cons (o := _) rfl (fun K hK => ?_) AllReadyH.nil
          go_simp
          have hs7 := hHeld.size
          refine (PTwinP_any _ A7 c7 res.length res _ ho7.row rfl hrl hv64).mono ?_
          rintro e8 w8 ⟨A8, c8, rfl, ho8, hB⟩
          go_wp2_with fail
          refine hK.out _ _ ?_ (fun hHeld => ?_)
          · exact hHeld.trans (hB.mono hHeld.size)
          clear hK K
          try simp only [Act.put, List.setIfInBounds_toArray, List.set_cons_zero, List.set_cons_succ, List.getElem_toArray, List.getElem_cons_succ, List.getElem_cons_zero]
          refine' wpAnyH_take (i := 10) (oi := _) (v := ?_) rfl (by kernel_rfl) (by kernel_rfl) (by kernel_rfl) (fun _ _ _ h => h) (Or.inl ⟨by rfl, ?_⟩) (by assumption) ?_
          rotate_left
          · intro W hSw
            go_simp
            first | done | (with_reducible rfl)
          try simp only [Act.put, List.setIfInBounds_toArray, List.set_cons_zero, List.set_cons_succ, List.getElem_toArray, List.getElem_cons_succ, List.getElem_cons_zero]
          refine' wpAnyH_take (i := 11) (oi := _) (v := ?_) rfl (by kernel_rfl) (by kernel_rfl) (by kernel_rfl) (fun _ _ _ h => h) (Or.inl ⟨by rfl, ?_⟩) (by assumption) ?_
          rotate_left
          · intro W hSw
            go_simp
            first | done | (with_reducible rfl)
          try simp only [Act.put, List.setIfInBounds_toArray, List.set_cons_zero, List.set_cons_succ, List.getElem_toArray, List.getElem_cons_succ, List.getElem_cons_zero]
          refine wpAnyH_done (by kernel_rfl) ?_ _
          refine NoPanic.normal ?_
          go_wp2
          go_ret2
          exact ⟨A8, c8, rfl, ho8.base (Nat.le_trans B3.out.size hs7), B3.out.trans (hHeld.mono B3.out.size)⟩
      · obtain ⟨hj, hk⟩ := hat.1 hh
        have e0 := with_at hS v hj hk
        have hwl : (withP ps k v).length = ps.length := by rw [with_length, without_length hS hh]
        rw [hh] at hF
        have hF2 := fun W hW => hF W hW hS
        rw [(mPut_yes hm hv (by omega)).1, (mPut_yes hm hv (by omega)).2]
        clear hF hat hS hk
        generalize cnt ps k = j at *
        generalize withP ps k v = res at *
        obtain ⟨x1, hx1⟩ : ∃ x, ps.take j = x := ⟨_, rfl⟩
        obtain ⟨x2, hx2⟩ : ∃ x, ps.drop (j + 1) = x := ⟨_, rfl⟩
        have l1 : Hid (x1.length = j) := by rw [← hx1, List.length_take]; show _ = _; omega
        have l2 : Hid (x2.length = ps.length - (j + 1)) := by rw [← hx2, List.length_drop]; exact rfl
        rw [hx1, hx2] at e0
        have s1 : Hid (∀ W, Row F W A ps → Src F W A x1) := fun W h => by rw [← hx1]; exact h.src.take j
        have s2 : Hid (∀ W, Row F W A ps → Src F W (cutA A c (j + 1) (Enc.size Pr)) x2) := fun W h => by rw [← hx2]; exact h.src.cutA (j + 1) c (by omega) hcap
        have hjc : j ≤ c := by omega
        have hjq : (j + 1) ≤ ps.length := by omega
        have hall : Hid (∀ (a b e : Option Addr) (p q r : Nat), allP [((a, p), x1), ((b, q), [(⟨k, v⟩ : Pr)]), ((e, r), x2)] = res) := fun a b e p q r => by rw [e0]; simp [allP]
        have hrl : res.length ≤ 1000000 := by have := l1.out; have := l2.out; rw [e0, List.length_append, List.length_cons]; omega
        replace e0 := hid e0
        replace hM := hid hM
        replace hF2 := hid hF2
        replace hi := hid hi
        replace hv := hid hv
        replace hBu := hid hBu
        replace hLen := hid hLen
        replace hRep := hid hRep
        have hadd : IntKind.i64.wrap ((j : Int) + 1) = (j : Int) + 1 := by rw [IntKind.wrap_i64]; omega
        clear hm hh hwl h512 hx1 hx2
        generalize (k.1.map bv) = ds at *
        go_enter Try.func9, Try.ntmps9
        go_wp2_with fail
        refine (hM.out _ hr0).mono ?_
        rintro e w1 ⟨rfl, hb1⟩
        go_wp2_with fail
        refine (PIsValue_is v V d true _ hvl hv.out).mono ?_
        rintro e w2 ⟨rfl, rfl⟩
        have hbx := rangeBel2 hb1 hbox
        have hr1 := hr0.bel hb1
        go_wp2_with (first
          | ((with_reducible refine wpList_load_rng rfl 24 (.tmp 4) rfl w.heap.size 0 rfl ds _ ?_ hu rfl hi.out ?_); exact hbx))
        refine (hF2.out _ hr1).mono ?_
        rintro e w2 ⟨rfl, hb2⟩
        have hbx2 := rangeBel2 hb2 hbx
        have B2 := hid (b0.trans ((hb1.trans (hb2.mono hb1.size)).mono b0.size))
        have hr2 := hr1.bel hb2
        have hrv2 := (hrv0.bel hb1).bel hb2
        have t1 := hid ((((s1.out _ hr2).mono (G := fun b => b < w2.heap.size + 1) fun b _ hl => Nat.lt_succ_of_lt hl)).bel (ext_alloc w2 (.cells (ds ++ [Value.slice V v.length d]).toArray 46)))
        have t2 := hid ((((s2.out _ hr2).mono (G := fun b => b < w2.heap.size + 1) fun b _ hl => Nat.lt_succ_of_lt hl)).bel (ext_alloc w2 (.cells (ds ++ [Value.slice V v.length d]).toArray 46)))
        have t3 := hid ((src_alloc (E := 46) (Enc.mono (hRep.out _ hrv2) (G := fun b => b < w2.heap.size + 1) fun b _ hl => Nat.lt_succ_of_lt hl)))
        have hs3 : w2.heap.size + 1 = (w2.alloc (.cells (ds ++ [Value.slice V v.length d]).toArray 46)).heap.size := (World.size_alloc _ _).symm
        replace hs3 := hid hs3
        clear hbx hr1 hr0 hbox hb1 hb2 s1 s2 hM hF2 hr2 hrv0 hrv2
        go_wp2_with (first
          | ((with_reducible refine wpList_load_rng rfl 24 (.tmp 4) rfl w.heap.size 0 rfl ds _ ?_ hu rfl hi.out ?_); exact hbx2)
          | ((with_reducible refine wpList_built rfl 46 _ rfl (ds ++ [Value.slice V v.length d] : List Value).toArray [(0, .agg ds.toArray), (1, .slice V v.length d)] ?_ ?_ ?_); exact hBu.out _ rfl; rfl)
          | ((with_reducible refine wpList_buildOne slotPr (by decide) rfl (.tmp 28) rfl (ds ++ [Value.slice V v.length d] : List Value) ?_ (hLen.out _) ?_); rfl))
        have B3 := hid (B2.out.trans ((ext_alloc w2 (.cells (ds ++ [Value.slice V v.length d]).toArray 46)).mono B2.out.size))
        generalize w2.alloc (.cells (ds ++ [Value.slice V v.length d]).toArray 46) = w3 at *
        refine wp_region_noPanic ?_
        refine wp_region_held_drew (S := fun w' => Below w3.heap.size w3 w') (by kernel_rfl) ?_ (fun hHeld => ?_)
        · exact bel_drew w3
        refine' wpAnyH_take (i := 0) (oi := _) (v := ?_) rfl (by kernel_rfl) (by kernel_rfl) (by kernel_rfl) (fun _ _ _ h => h) (Or.inl ⟨by rfl, ?_⟩) (by assumption) ?_
        rotate_left
        · intro W hSw
          go_simp
          first | done | (with_reducible rfl)
        try simp only [Act.put, List.setIfInBounds_toArray, List.set_cons_zero, List.set_cons_succ, List.getElem_toArray, List.getElem_cons_succ, List.getElem_cons_zero]
        refine' wpAnyH_take (i := 1) (oi := _) (v := ?_) rfl (by kernel_rfl) (by kernel_rfl) (by kernel_rfl) (fun _ _ _ h => h) (Or.inl ⟨by rfl, ?_⟩) (by assumption) ?_
        rotate_left
        · intro W hSw
          go_simp
          first | done | (with_reducible rfl)
        try simp only [Act.put, List.setIfInBounds_toArray, List.set_cons_zero, List.set_cons_succ, List.getElem_toArray, List.getElem_cons_succ, List.getElem_cons_zero]
        refine' wpAnyH_take (i := 2) (oi := _) (v := _) rfl (by kernel_rfl) (by kernel_rfl) (by kernel_rfl) (fun _ _ _ h => h) (yieldsIf_slice (by rfl) _ _ _ _ _ rfl _ _ _ _ _ (run_upto slotPr A ps.length c j hjc) rfl rfl rfl rfl) (by assumption) ?_
        try simp only [Act.put, List.setIfInBounds_toArray, List.set_cons_zero, List.set_cons_succ, List.getElem_toArray, List.getElem_cons_succ, List.getElem_cons_zero]
        refine' wpAnyH_take (i := 3) (oi := _) (v := ?_) rfl (by kernel_rfl) (by kernel_rfl) (by kernel_rfl) (fun _ _ _ h => h) (Or.inl ⟨by rfl, ?_⟩) (by assumption) ?_
        rotate_left
        · intro W hSw
          go_simp
          first | done | (with_reducible rfl)
        try simp only [Act.put, List.setIfInBounds_toArray, List.set_cons_zero, List.set_cons_succ, List.getElem_toArray, List.getElem_cons_succ, List.getElem_cons_zero]
        refine' wpAnyH_take (i := 4) (oi := _) (v := ?_) rfl (by kernel_rfl) (by kernel_rfl) (by kernel_rfl) (fun _ _ _ h => h) (Or.inl ⟨by rfl, ?_⟩) (by assumption) ?_
        rotate_left
        · intro W hSw
          go_simp
          first | done | (with_reducible rfl)
        try simp only [Act.put, List.setIfInBounds_toArray, List.set_cons_zero, List.set_cons_succ, List.getElem_toArray, List.getElem_cons_succ, List.getElem_cons_zero]
        refine' wpAnyH_take (i := 5) (oi := _) (v := ?_) rfl (by kernel_rfl) (by kernel_rfl) (by kernel_rfl) (fun _ _ _ h => h) (Or.inl ⟨by rfl, ?_⟩) (by assumption) ?_
        rotate_left
        · intro W hSw
          go_simp
          first | done | (with_reducible rfl)
        try simp only [Act.put, List.setIfInBounds_toArray, List.set_cons_zero, List.set_cons_succ, List.getElem_toArray, List.getElem_cons_succ, List.getElem_cons_zero]
        refine' wpAnyH_take (i := 6) (oi := _) (v := ?_) rfl (by kernel_rfl) (by kernel_rfl) (by kernel_rfl) (fun _ _ _ h => h) (Or.inl ⟨by rfl, ?_⟩) (by assumption) ?_
        rotate_left
        · intro W hSw
          go_simp
          first | done | (with_reducible rfl)
        try simp only [Act.put, List.setIfInBounds_toArray, List.set_cons_zero, List.set_cons_succ, List.getElem_toArray, List.getElem_cons_succ, List.getElem_cons_zero]
        refine' wpAnyH_take (i := 7) (oi := _) (v := _) rfl (by kernel_rfl) (by kernel_rfl) (by kernel_rfl) (fun _ _ _ h => h) (yieldsIf_slice (by rfl) _ _ _ _ _ rfl _ _ _ _ _ (run_from slotPr A ps.length c (j + 1) hjq) rfl rfl rfl rfl) (by assumption) ?_
        try simp only [Act.put, List.setIfInBounds_toArray, List.set_cons_zero, List.set_cons_succ, List.getElem_toArray, List.getElem_cons_succ, List.getElem_cons_zero]
        refine wpAnyH_ready (rs := [8]) (by kernel_rfl) (by simp) ?_
        refine AllReadyH.cons (o := _) rfl (fun K hK => ?_) AllReadyH.nil
        go_simp
        refine hK.out _ _ ?_ (fun hHeld => ?_)
        · exact hHeld.trans ((ext_alloc _ _).mono hHeld.size)
        clear hK K
        try simp only [Act.put, List.setIfInBounds_toArray, List.set_cons_zero, List.set_cons_succ, List.getElem_toArray, List.getElem_cons_succ, List.getElem_cons_zero]
        refine wpAnyH_ready (rs := [9]) (by kernel_rfl) (by simp) ?_
        refine AllReadyH.cons (o := _) rfl (fun K hK => ?_) AllReadyH.nil
        go_simp
        refine (concat_any (fun b => b < w2.heap.size + 1) _ [((A, c), x1), ((some ⟨w2.heap.size, 0, none⟩, 1), [(⟨k, v⟩ : Pr)]), ((cutA A c (j + 1) (Enc.size Pr), c - (j + 1)), x2)] _ (by exact cells_slices _ w3 _ _ (by simp [slvR, l1.out, l2.out])) (by intro x hx; simp only [List.mem_cons, List.not_mem_nil, or_false] at hx; rcases hx with rfl | rfl | rfl; exact t1.out.bel hHeld; exact t3.out.bel hHeld; exact t2.out.bel hHeld) (by intro b hb; exact Nat.lt_of_lt_of_le hb (Nat.le_trans (Nat.le_of_eq hs3.out) hHeld.size)) (by simp) (by rw [hall.out]; exact hrl)).mono ?_
        rintro e7 w7 ⟨A7, c7, rfl, ho7, hB⟩
        rw [hall.out] at ho7 ⊢
        go_wp2_with fail
        refine hK.out _ _ ?_ (fun hHeld => ?_)
        · exact hHeld.trans (hB.mono hHeld.size)
        clear hK K
        try simp only [Act.put, List.setIfInBounds_toArray, List.set_cons_zero, List.set_cons_succ, List.getElem_toArray, List.getElem_cons_succ, List.getElem_cons_zero]
        refine wpAnyH_ready (rs := [10]) (by kernel_rfl) (by simp) ?_
        refine AllReadyH.cons (o := _) rfl (fun K hK => ?_) AllReadyH.nil
        go_simp
        have hs7 := hHeld.size
        refine (PTwinP_any _ A7 c7 res.length res _ ho7.row rfl hrl hv64).mono ?_
        rintro e8 w8 ⟨A8, c8, rfl, ho8, hB⟩
        go_wp2_with fail
        refine hK.out _ _ ?_ (fun hHeld => ?_)
        · exact hHeld.trans (hB.mono hHeld.size)
        clear hK K
        try simp only [Act.put, List.setIfInBounds_toArray, List.set_cons_zero, List.set_cons_succ, List.getElem_toArray, List.getElem_cons_succ, List.getElem_cons_zero]
        refine' wpAnyH_take (i := 11) (oi := _) (v := ?_) rfl (by kernel_rfl) (by kernel_rfl) (by kernel_rfl) (fun _ _ _ h => h) (Or.inl ⟨by rfl, ?_⟩) (by assumption) ?_
        rotate_left
        · intro W hSw
          go_simp
          first | done | (with_reducible rfl)
        try simp only [Act.put, List.setIfInBounds_toArray, List.set_cons_zero, List.set_cons_succ, List.getElem_toArray, List.getElem_cons_succ, List.getElem_cons_zero]
        refine' wpAnyH_take (i := 12) (oi := _) (v := ?_) rfl (by kernel_rfl) (by kernel_rfl) (by kernel_rfl) (fun _ _ _ h => h) (Or.inl ⟨by rfl, ?_⟩) (by assumption) ?_
        rotate_left
        · intro W hSw
          go_simp
          first | done | (with_reducible rfl)
        try simp only [Act.put, List.setIfInBounds_toArray, List.set_cons_zero, List.set_cons_succ, List.getElem_toArray, List.getElem_cons_succ, List.getElem_cons_zero]
        refine wpAnyH_done (by kernel_rfl) ?_ _
        refine NoPanic.normal ?_
        go_wp2
        go_ret2
        exact ⟨A8, c8, rfl, ho8.base (Nat.le_trans B3.out.size hs7), B3.out.trans (hHeld.mono B3.out.size)⟩
end Go.Proofs.Ytiogdenlaelkbaa
