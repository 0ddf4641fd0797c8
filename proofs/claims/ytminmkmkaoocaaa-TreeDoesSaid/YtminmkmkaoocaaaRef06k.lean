/-
  The document's answers of layer 6: Put, Drop.
-/
import Derived.Test.YtminmkmkaoocaaaRef06j
import Derived.Test.YtminmkmkaoocaaaRefE
import Derived.Test.YtminmkmkaoocaaaRefF
import Derived.Test.YtminmkmkaoocaaaTreeLr
namespace Go.Proofs.Ytminmkmkaoocaaa
open Go.RowKit
set_option linter.unusedVariables false
set_option linter.unusedSimpArgs false
set_option maxRecDepth 100000

def tputL (t : Tr) (k : Dg) (v : List UInt8) : List Pr := if tputE t v = 0 then withP (allT t) k v else []
def tdropL (t : Tr) (k : Dg) : List Pr := if tdropE t k = 0 then withoutP (allT t) k else []
theorem all_short {t : Tr} (h : mayT t = true) : (∀ p ∈ allT t, p.v.length ≤ 1000000) ∧ (allT t).length ≤ 262144 := by
  obtain ⟨_, h2, h3, _⟩ := all_spec h
  have h4 := (mayT_iff.1 h).1
  exact ⟨fun p hp => by have := h2 p hp; unfold valB at this; simp at this; omega, by omega⟩
theorem fndI_neg {ps : List Pr} {k : Dg} : decide (fndI ps k < 0) = !hasP ps k := by
  cases h : hasP ps k with
  | false => rw [fndI_no h]; rfl
  | true =>
    obtain ⟨j, _, e, _⟩ := fndI_has h
    rw [e]
    simp
set_option maxHeartbeats 2000000 in
theorem RPutT_any (F : Nat → Prop) (A V : Option Addr) (c d : Nat) (ns : List Nd) (root : Int) (k : Dg) (v : List UInt8) (w : World) (hr : Row F w A ns) (hc : ns.length ≤ 1000000) (hrv : Rd w V v) (hvl : v.length ≤ 1000000) :
    Calls Try.prog 8 #[.agg #[.slice A ns.length c, .int .i64 root], .agg (k.1.map bv).toArray, .slice V v.length d] w fun e w' => ∃ A' c', e = .returned (.tuple #[.slice A' (tputL ⟨ns, root⟩ k v).length c', .int .i64 (tputE ⟨ns, root⟩ v)]) ∧ OwnR 76 w' w.heap.size A' c' (tputL ⟨ns, root⟩ k v) ∧ Below w.heap.size w w' := by
  obtain ⟨hb0, hk0, W0⟩ := boxesTD w A ns.length c root k 24 26
  have hr0 := hr.bel W0
  have hv0 := hid (hrv.bel W0)
  have hu := Try.underlying26
  have hut := Try.underlying24
  have hiT := hid (show (Try.prog.info? 24).map (·.size) = some ([Value.slice A ns.length c, .int .i64 root]).length from sizeTr)
  have hi := hid (sizeDgT k)
  obtain ⟨m, hm⟩ : ∃ m, mayT ⟨ns, root⟩ = m := ⟨_, rfl⟩
  have hC := hid (fun W hW => RMayT_is F A c ns root m W hW (by omega) hm)
  obtain ⟨vb, hvb⟩ : ∃ vb, valB v = vb := ⟨_, rfl⟩
  have hV := hid (fun W => RValue_is v V d vb W (by omega) hvb)
  have y0 := hb0.ns
  cases m with
  | false =>
    have hE : tputE ⟨ns, root⟩ v = 8 := by unfold tputE; rw [hm]; rfl
    rw [show tputL ⟨ns, root⟩ k v = [] by unfold tputL; rw [hE]; rfl, hE]
    generalize k.1.map bv = dk at *
    clear hm hvb y0
    go_enter Try.func8, Try.ntmps8
    go_wp2_with (first
      | ((with_reducible refine wpList_load_rng rfl 24 (.tmp 3) rfl w.heap.size 0 rfl [Value.slice A ns.length c, .int .i64 root] _ ?_ hut rfl hiT.out ?_); exact hb0.all))
    refine (hC.out _ hr0).mono ?_
    rintro e w1 ⟨rfl, hb⟩
    go_wp2
    go_ret2
    exact ⟨none, 0, rfl, OwnR.nil _ _, W0.trans (hb.mono W0.size)⟩
  | true =>
    cases vb with
    | false =>
      have hE : tputE ⟨ns, root⟩ v = 8 := by unfold tputE; rw [hm, hvb]; rfl
      rw [show tputL ⟨ns, root⟩ k v = [] by unfold tputL; rw [hE]; rfl, hE]
      generalize k.1.map bv = dk at *
      clear hm hvb y0
      go_enter Try.func8, Try.ntmps8
      go_wp2_with (first
        | ((with_reducible refine wpList_load_rng rfl 24 (.tmp 3) rfl w.heap.size 0 rfl [Value.slice A ns.length c, .int .i64 root] _ ?_ hut rfl hiT.out ?_); exact hb0.all))
      refine (hC.out _ hr0).mono ?_
      rintro e w1 ⟨rfl, hb⟩
      have W1 := hid (W0.trans (hb.mono W0.size))
      go_wp2_with fail
      refine (hV.out _).mono ?_
      rintro e w2 ⟨rfl, rfl⟩
      go_wp2
      go_ret2
      exact ⟨none, 0, rfl, OwnR.nil _ _, W1.out⟩
    | true =>
      have W1m : ∀ (w1 : World) (hb : Below ((w.alloc (.cells #[.slice A ns.length c, .int .i64 root] 24)).alloc (.cells (k.1.map bv).toArray 26)).heap.size ((w.alloc (.cells #[.slice A ns.length c, .int .i64 root] 24)).alloc (.cells (k.1.map bv).toArray 26)) w1), Below w.heap.size w w1 := fun w1 hb => W0.trans (hb.mono W0.size)
      by_cases hfull : 261844 < ns.length
      · have hE : tputE ⟨ns, root⟩ v = 9 := by unfold tputE; rw [hm, hvb]; dsimp only; rw [if_pos rfl, if_pos rfl, if_pos hfull]
        rw [show tputL ⟨ns, root⟩ k v = [] by unfold tputL; rw [hE]; rfl, hE]
        replace W1m := hid W1m
        generalize k.1.map bv = dk at *
        clear hm hvb y0
        go_enter Try.func8, Try.ntmps8
        go_wp2_with (first
          | ((with_reducible refine wpList_load_rng rfl 24 (.tmp 3) rfl w.heap.size 0 rfl [Value.slice A ns.length c, .int .i64 root] _ ?_ hut rfl hiT.out ?_); exact hb0.all))
        refine (hC.out _ hr0).mono ?_
        rintro e w1 ⟨rfl, hb⟩
        have y1 := (hb0.bel hb).ns
        have W1 := hid (W1m.out _ hb)
        go_wp2_with fail
        refine (hV.out _).mono ?_
        rintro e w2 ⟨rfl, rfl⟩
        go_wp2
        go_ret2
        exact ⟨none, 0, rfl, OwnR.nil _ _, W1.out⟩
      · have hE : tputE ⟨ns, root⟩ v = 0 := by unfold tputE; rw [hm, hvb]; dsimp only; rw [if_pos rfl, if_pos rfl, if_neg hfull]
        rw [show tputL ⟨ns, root⟩ k v = withP (allT ⟨ns, root⟩) k v by unfold tputL; rw [hE]; rfl, hE]
        obtain ⟨s1, s2⟩ := all_short hm
        have hA := hid (fun W hW => RAllT_any F A c ns root W hW hc hm)
        have hWi := hid (fun (G : Nat → Prop) A2 c2 W hW hV2 => RWith_any G A2 V c2 (allT ⟨ns, root⟩).length v.length d (allT ⟨ns, root⟩) k v W hW rfl hV2 rfl (by omega) s1 hvl)
        generalize withP (allT ⟨ns, root⟩) k v = L2 at *
        generalize allT ⟨ns, root⟩ = L at *
        replace hWi := hid hWi.out
        replace W1m := hid W1m
        generalize k.1.map bv = dk at *
        clear hm hvb y0 s1 s2
        go_enter Try.func8, Try.ntmps8
        go_wp2_with (first
          | ((with_reducible refine wpList_load_rng rfl 24 (.tmp 3) rfl w.heap.size 0 rfl [Value.slice A ns.length c, .int .i64 root] _ ?_ hut rfl hiT.out ?_); exact hb0.all))
        refine (hC.out _ hr0).mono ?_
        rintro e w1 ⟨rfl, hb⟩
        have t1 := hid (hb0.bel hb)
        have y1 := t1.out.ns
        have k1 := hid (rangeBel2 hb hk0)
        have r1 := hid (hr0.bel hb)
        have v1 := hid (hv0.out.bel hb)
        have W1 := hid (W1m.out _ hb)
        clear hb0 hk0 hr0 hv0 hb W1m W0
        go_wp2_with fail
        refine (hV.out _).mono ?_
        rintro e w2 ⟨rfl, rfl⟩
        go_wp2
        refine wp_region_noPanic ?_
        refine wp_region_held_drew (S := fun w' => Below w1.heap.size w1 w') (by kernel_rfl) ?_ (fun hHeld => ?_)
        · exact bel_drew w1
        refine' wpAnyH_take (i := 0) (oi := _) (v := _) rfl (by kernel_rfl) (by kernel_rfl) (by kernel_rfl) (fun _ _ _ h => h) (yieldsIf_load_mid (by rfl) _ _ rfl _ _ rfl _ _ (fun _ h => rangeBel2 h t1.out.all) hut rfl hiT.out) (by assumption) ?_
        try simp only [Act.put, List.setIfInBounds_toArray, List.set_cons_zero, List.set_cons_succ, List.getElem_toArray, List.getElem_cons_succ, List.getElem_cons_zero]
        refine' wpAnyH_take (i := 2) (oi := _) (v := _) rfl (by kernel_rfl) (by kernel_rfl) (by kernel_rfl) (fun _ _ _ h => h) (yieldsIf_load_mid (by rfl) _ _ rfl _ _ rfl _ _ (fun _ h => rangeBel2 h k1.out) hu rfl hi.out) (by assumption) ?_
        try simp only [Act.put, List.setIfInBounds_toArray, List.set_cons_zero, List.set_cons_succ, List.getElem_toArray, List.getElem_cons_succ, List.getElem_cons_zero]
        refine' wpAnyH_take (i := 3) (oi := _) (v := ?_) rfl (by kernel_rfl) (by kernel_rfl) (by kernel_rfl) (fun _ _ _ h => h) (Or.inl ⟨by rfl, ?_⟩) (by assumption) ?_
        rotate_left
        · intro W hSw
          go_simp
          first | done | (with_reducible rfl)
        try simp only [Act.put, List.setIfInBounds_toArray, List.set_cons_zero, List.set_cons_succ, List.getElem_toArray, List.getElem_cons_succ, List.getElem_cons_zero]
        refine wpAnyH_ready (rs := [1]) (by kernel_rfl) (by simp) ?_
        refine AllReadyH.cons (o := _) rfl (fun K hK => ?_) AllReadyH.nil
        go_simp
        refine (hA.out _ (r1.out.bel hHeld)).mono ?_
        rintro e w3 ⟨A3, c3, rfl, ho3, hB⟩
        have hB3 := hid (undrew hB)
        go_wp2_with fail
        refine hK.out _ _ ?_ (fun hHeld => ?_)
        · exact hHeld.trans (hB.mono hHeld.size)
        clear hK K
        try simp only [Act.put, List.setIfInBounds_toArray, List.set_cons_zero, List.set_cons_succ, List.getElem_toArray, List.getElem_cons_succ, List.getElem_cons_zero]
        refine wpAnyH_ready (rs := [4]) (by kernel_rfl) (by simp) ?_
        refine AllReadyH.cons (o := _) rfl (fun K hK => ?_) AllReadyH.nil
        go_simp
        refine (hWi.out _ A3 c3 _ (OwnR.row ho3) (v1.out.bel hHeld)).mono ?_
        rintro e w4 ⟨A4, c4, rfl, ho4, hB⟩
        go_wp2_with fail
        refine hK.out _ _ ?_ (fun hHeld => ?_)
        · exact hHeld.trans (hB.mono hHeld.size)
        clear hK K
        try simp only [Act.put, List.setIfInBounds_toArray, List.set_cons_zero, List.set_cons_succ, List.getElem_toArray, List.getElem_cons_succ, List.getElem_cons_zero]
        refine' wpAnyH_take (i := 5) (oi := _) (v := ?_) rfl (by kernel_rfl) (by kernel_rfl) (by kernel_rfl) (fun _ _ _ h => h) (Or.inl ⟨by rfl, ?_⟩) (by assumption) ?_
        rotate_left
        · intro W hSw
          go_simp
          first | done | (with_reducible rfl)
        try simp only [Act.put, List.setIfInBounds_toArray, List.set_cons_zero, List.set_cons_succ, List.getElem_toArray, List.getElem_cons_succ, List.getElem_cons_zero]
        refine' wpAnyH_take (i := 6) (oi := _) (v := ?_) rfl (by kernel_rfl) (by kernel_rfl) (by kernel_rfl) (fun _ _ _ h => h) (Or.inl ⟨by rfl, ?_⟩) (by assumption) ?_
        rotate_left
        · intro W hSw
          go_simp
          first | done | (with_reducible rfl)
        try simp only [Act.put, List.setIfInBounds_toArray, List.set_cons_zero, List.set_cons_succ, List.getElem_toArray, List.getElem_cons_succ, List.getElem_cons_zero]
        refine wpAnyH_done (by kernel_rfl) ?_ _
        refine NoPanic.normal ?_
        go_wp2
        go_ret2
        exact ⟨A4, c4, rfl, OwnR.base ho4 (Nat.le_trans W1.out.size hB3.out.size), W1.out.trans (hHeld.mono W1.out.size)⟩

set_option maxHeartbeats 2000000 in
theorem RDropT_any (F : Nat → Prop) (A : Option Addr) (c : Nat) (ns : List Nd) (root : Int) (k : Dg) (w : World) (hr : Row F w A ns) (hc : ns.length ≤ 1000000) :
    Calls Try.prog 10 #[.agg #[.slice A ns.length c, .int .i64 root], .agg (k.1.map bv).toArray] w fun e w' => ∃ A' c', e = .returned (.tuple #[.slice A' (tdropL ⟨ns, root⟩ k).length c', .int .i64 (tdropE ⟨ns, root⟩ k)]) ∧ OwnR 76 w' w.heap.size A' c' (tdropL ⟨ns, root⟩ k) ∧ Below w.heap.size w w' := by
  obtain ⟨hb0, hk0, W0⟩ := boxesTD w A ns.length c root k 24 26
  have hr0 := hr.bel W0
  have hu := Try.underlying26
  have hut := Try.underlying24
  have hiT := hid (show (Try.prog.info? 24).map (·.size) = some ([Value.slice A ns.length c, .int .i64 root]).length from sizeTr)
  have hi := hid (sizeDgT k)
  obtain ⟨m, hm⟩ : ∃ m, mayT ⟨ns, root⟩ = m := ⟨_, rfl⟩
  have hC := hid (fun W hW => RMayT_is F A c ns root m W hW (by omega) hm)
  cases m with
  | false =>
    have hE : tdropE ⟨ns, root⟩ k = 8 := by unfold tdropE; rw [hm]; rfl
    rw [show tdropL ⟨ns, root⟩ k = [] by unfold tdropL; rw [hE]; rfl, hE]
    generalize k.1.map bv = dk at *
    clear hm
    go_enter Try.func10, Try.ntmps10
    go_wp2_with (first
      | ((with_reducible refine wpList_load_rng rfl 24 (.tmp 2) rfl w.heap.size 0 rfl [Value.slice A ns.length c, .int .i64 root] _ ?_ hut rfl hiT.out ?_); exact hb0.all))
    refine (hC.out _ hr0).mono ?_
    rintro e w1 ⟨rfl, hb⟩
    go_wp2
    go_ret2
    exact ⟨none, 0, rfl, OwnR.nil _ _, W0.trans (hb.mono W0.size)⟩
  | true =>
    obtain ⟨s1, s2⟩ := all_short hm
    have hA := hid (fun W hW => RAllT_any F A c ns root W hW hc hm)
    have hFi := hid (fun (G : Nat → Prop) A2 c2 W hW => RFind_any G A2 c2 (allT ⟨ns, root⟩).length (allT ⟨ns, root⟩) k W hW rfl (by omega))
    have hWi := hid (fun (G : Nat → Prop) A2 c2 W hW => RWithout_any G A2 c2 (allT ⟨ns, root⟩).length (allT ⟨ns, root⟩) k W hW rfl (by omega) s1)
    have hneg := fndI_neg (ps := allT ⟨ns, root⟩) (k := k)
    obtain ⟨hh, hhv⟩ : ∃ hh, hasP (allT ⟨ns, root⟩) k = hh := ⟨_, rfl⟩
    rw [hhv] at hneg
    cases hh with
    | false =>
      have hE : tdropE ⟨ns, root⟩ k = 6 := by unfold tdropE; rw [hm, hhv]; rfl
      rw [show tdropL ⟨ns, root⟩ k = [] by unfold tdropL; rw [hE]; rfl, hE]
      generalize allT ⟨ns, root⟩ = L at *
      generalize fndI L k = fi at *
      replace hFi := hid hFi.out
      generalize k.1.map bv = dk at *
      rw [show (!false) = true from rfl] at hneg
      clear hm hhv hWi
      go_enter Try.func10, Try.ntmps10
      go_wp2_with (first
        | ((with_reducible refine wpList_load_rng rfl 24 (.tmp 2) rfl w.heap.size 0 rfl [Value.slice A ns.length c, .int .i64 root] _ ?_ hut rfl hiT.out ?_); exact hb0.all))
      refine (hC.out _ hr0).mono ?_
      rintro e w1 ⟨rfl, hb⟩
      have t1 := hid (hb0.bel hb)
      have k1 := hid (rangeBel2 hb hk0)
      have r1 := hid (hr0.bel hb)
      have W1 := hid (W0.trans (hb.mono W0.size))
      clear hb0 hk0 hr0 hb W0
      go_wp2
      refine wp_region_noPanic ?_
      refine wp_region_held_drew (S := fun w' => Below w1.heap.size w1 w') (by kernel_rfl) ?_ (fun hHeld => ?_)
      · exact bel_drew w1
      refine' wpAnyH_take (i := 0) (oi := _) (v := _) rfl (by kernel_rfl) (by kernel_rfl) (by kernel_rfl) (fun _ _ _ h => h) (yieldsIf_load_mid (by rfl) _ _ rfl _ _ rfl _ _ (fun _ h => rangeBel2 h t1.out.all) hut rfl hiT.out) (by assumption) ?_
      try simp only [Act.put, List.setIfInBounds_toArray, List.set_cons_zero, List.set_cons_succ, List.getElem_toArray, List.getElem_cons_succ, List.getElem_cons_zero]
      refine' wpAnyH_take (i := 2) (oi := _) (v := _) rfl (by kernel_rfl) (by kernel_rfl) (by kernel_rfl) (fun _ _ _ h => h) (yieldsIf_load_mid (by rfl) _ _ rfl _ _ rfl _ _ (fun _ h => rangeBel2 h k1.out) hu rfl hi.out) (by assumption) ?_
      try simp only [Act.put, List.setIfInBounds_toArray, List.set_cons_zero, List.set_cons_succ, List.getElem_toArray, List.getElem_cons_succ, List.getElem_cons_zero]
      refine wpAnyH_ready (rs := [1]) (by kernel_rfl) (by simp) ?_
      refine AllReadyH.cons (o := _) rfl (fun K hK => ?_) AllReadyH.nil
      go_simp
      refine (hA.out _ (r1.out.bel hHeld)).mono ?_
      rintro e w3 ⟨A3, c3, rfl, ho3, hB⟩
      go_wp2_with fail
      refine hK.out _ _ ?_ (fun hHeld => ?_)
      · exact hHeld.trans (hB.mono hHeld.size)
      clear hK K
      try simp only [Act.put, List.setIfInBounds_toArray, List.set_cons_zero, List.set_cons_succ, List.getElem_toArray, List.getElem_cons_succ, List.getElem_cons_zero]
      refine wpAnyH_ready (rs := [3]) (by kernel_rfl) (by simp) ?_
      refine AllReadyH.cons (o := _) rfl (fun K hK => ?_) AllReadyH.nil
      go_simp
      refine (hFi.out _ A3 c3 _ (OwnR.row ho3)).mono ?_
      rintro e w4 ⟨rfl, hB⟩
      go_wp2_with fail
      refine hK.out _ _ ?_ (fun hHeld => ?_)
      · exact hHeld.trans (hB.mono hHeld.size)
      clear hK K
      try simp only [Act.put, List.setIfInBounds_toArray, List.set_cons_zero, List.set_cons_succ, List.getElem_toArray, List.getElem_cons_succ, List.getElem_cons_zero]
      refine' wpAnyH_take (i := 4) (oi := _) (v := ?_) rfl (by kernel_rfl) (by kernel_rfl) (by kernel_rfl) (fun _ _ _ h => h) (Or.inl ⟨by rfl, ?_⟩) (by assumption) ?_
      rotate_left
      · intro W hSw
        go_simp
        first | done | (with_reducible rfl)
      try simp only [Act.put, List.setIfInBounds_toArray, List.set_cons_zero, List.set_cons_succ, List.getElem_toArray, List.getElem_cons_succ, List.getElem_cons_zero]
      refine wpAnyH_done (by kernel_rfl) ?_ _
      refine NoPanic.normal ?_
      go_wp2
      go_ret2
      exact ⟨none, 0, rfl, OwnR.nil _ _, W1.out.trans (hHeld.mono W1.out.size)⟩
    | true =>
      have hneg2 : decide (fndI (allT ⟨ns, root⟩) k < 0) = false := hneg
      by_cases hfull : 261844 < ns.length
      · have hE : tdropE ⟨ns, root⟩ k = 9 := by unfold tdropE; rw [hm, hhv]; dsimp only; rw [if_pos rfl, if_pos rfl, if_pos hfull]
        rw [show tdropL ⟨ns, root⟩ k = [] by unfold tdropL; rw [hE]; rfl, hE]
        generalize allT ⟨ns, root⟩ = L at *
        generalize fndI L k = fi at *
        replace hFi := hid hFi.out
        generalize k.1.map bv = dk at *
        clear hm hhv hWi hneg
        go_enter Try.func10, Try.ntmps10
        go_wp2_with (first
          | ((with_reducible refine wpList_load_rng rfl 24 (.tmp 2) rfl w.heap.size 0 rfl [Value.slice A ns.length c, .int .i64 root] _ ?_ hut rfl hiT.out ?_); exact hb0.all))
        refine (hC.out _ hr0).mono ?_
        rintro e w1 ⟨rfl, hb⟩
        have t1 := hid (hb0.bel hb)
        have k1 := hid (rangeBel2 hb hk0)
        have r1 := hid (hr0.bel hb)
        have W1 := hid (W0.trans (hb.mono W0.size))
        clear hb0 hk0 hr0 hb W0
        go_wp2
        refine wp_region_noPanic ?_
        refine wp_region_held_drew (S := fun w' => Below w1.heap.size w1 w') (by kernel_rfl) ?_ (fun hHeld => ?_)
        · exact bel_drew w1
        refine' wpAnyH_take (i := 0) (oi := _) (v := _) rfl (by kernel_rfl) (by kernel_rfl) (by kernel_rfl) (fun _ _ _ h => h) (yieldsIf_load_mid (by rfl) _ _ rfl _ _ rfl _ _ (fun _ h => rangeBel2 h t1.out.all) hut rfl hiT.out) (by assumption) ?_
        try simp only [Act.put, List.setIfInBounds_toArray, List.set_cons_zero, List.set_cons_succ, List.getElem_toArray, List.getElem_cons_succ, List.getElem_cons_zero]
        refine' wpAnyH_take (i := 2) (oi := _) (v := _) rfl (by kernel_rfl) (by kernel_rfl) (by kernel_rfl) (fun _ _ _ h => h) (yieldsIf_load_mid (by rfl) _ _ rfl _ _ rfl _ _ (fun _ h => rangeBel2 h k1.out) hu rfl hi.out) (by assumption) ?_
        try simp only [Act.put, List.setIfInBounds_toArray, List.set_cons_zero, List.set_cons_succ, List.getElem_toArray, List.getElem_cons_succ, List.getElem_cons_zero]
        refine wpAnyH_ready (rs := [1]) (by kernel_rfl) (by simp) ?_
        refine AllReadyH.cons (o := _) rfl (fun K hK => ?_) AllReadyH.nil
        go_simp
        refine (hA.out _ (r1.out.bel hHeld)).mono ?_
        rintro e w3 ⟨A3, c3, rfl, ho3, hB⟩
        go_wp2_with fail
        refine hK.out _ _ ?_ (fun hHeld => ?_)
        · exact hHeld.trans (hB.mono hHeld.size)
        clear hK K
        try simp only [Act.put, List.setIfInBounds_toArray, List.set_cons_zero, List.set_cons_succ, List.getElem_toArray, List.getElem_cons_succ, List.getElem_cons_zero]
        refine wpAnyH_ready (rs := [3]) (by kernel_rfl) (by simp) ?_
        refine AllReadyH.cons (o := _) rfl (fun K hK => ?_) AllReadyH.nil
        go_simp
        refine (hFi.out _ A3 c3 _ (OwnR.row ho3)).mono ?_
        rintro e w4 ⟨rfl, hB⟩
        go_wp2_with fail
        refine hK.out _ _ ?_ (fun hHeld => ?_)
        · exact hHeld.trans (hB.mono hHeld.size)
        clear hK K
        try simp only [Act.put, List.setIfInBounds_toArray, List.set_cons_zero, List.set_cons_succ, List.getElem_toArray, List.getElem_cons_succ, List.getElem_cons_zero]
        refine' wpAnyH_take (i := 4) (oi := _) (v := ?_) rfl (by kernel_rfl) (by kernel_rfl) (by kernel_rfl) (fun _ _ _ h => h) (Or.inl ⟨by rfl, ?_⟩) (by assumption) ?_
        rotate_left
        · intro W hSw
          go_simp
          first | done | (with_reducible rfl)
        try simp only [Act.put, List.setIfInBounds_toArray, List.set_cons_zero, List.set_cons_succ, List.getElem_toArray, List.getElem_cons_succ, List.getElem_cons_zero]
        refine wpAnyH_done (by kernel_rfl) ?_ _
        refine NoPanic.normal ?_
        have y5 := (t1.out.bel hHeld).ns
        go_wp2
        go_ret2
        exact ⟨none, 0, rfl, OwnR.nil _ _, W1.out.trans (hHeld.mono W1.out.size)⟩
      · have hE : tdropE ⟨ns, root⟩ k = 0 := by unfold tdropE; rw [hm, hhv]; dsimp only; rw [if_pos rfl, if_pos rfl, if_neg hfull]
        rw [show tdropL ⟨ns, root⟩ k = withoutP (allT ⟨ns, root⟩) k by unfold tdropL; rw [hE]; rfl, hE]
        generalize withoutP (allT ⟨ns, root⟩) k = L2 at *
        generalize allT ⟨ns, root⟩ = L at *
        generalize fndI L k = fi at *
        replace hFi := hid hFi.out
        replace hWi := hid hWi.out
        generalize k.1.map bv = dk at *
        clear hm hhv hneg s1 s2
        go_enter Try.func10, Try.ntmps10
        go_wp2_with (first
          | ((with_reducible refine wpList_load_rng rfl 24 (.tmp 2) rfl w.heap.size 0 rfl [Value.slice A ns.length c, .int .i64 root] _ ?_ hut rfl hiT.out ?_); exact hb0.all))
        refine (hC.out _ hr0).mono ?_
        rintro e w1 ⟨rfl, hb⟩
        have t1 := hid (hb0.bel hb)
        have k1 := hid (rangeBel2 hb hk0)
        have r1 := hid (hr0.bel hb)
        have W1 := hid (W0.trans (hb.mono W0.size))
        clear hb0 hk0 hr0 hb W0
        go_wp2
        refine wp_region_noPanic ?_
        refine wp_region_held_drew (S := fun w' => Below w1.heap.size w1 w') (by kernel_rfl) ?_ (fun hHeld => ?_)
        · exact bel_drew w1
        refine' wpAnyH_take (i := 0) (oi := _) (v := _) rfl (by kernel_rfl) (by kernel_rfl) (by kernel_rfl) (fun _ _ _ h => h) (yieldsIf_load_mid (by rfl) _ _ rfl _ _ rfl _ _ (fun _ h => rangeBel2 h t1.out.all) hut rfl hiT.out) (by assumption) ?_
        try simp only [Act.put, List.setIfInBounds_toArray, List.set_cons_zero, List.set_cons_succ, List.getElem_toArray, List.getElem_cons_succ, List.getElem_cons_zero]
        refine' wpAnyH_take (i := 2) (oi := _) (v := _) rfl (by kernel_rfl) (by kernel_rfl) (by kernel_rfl) (fun _ _ _ h => h) (yieldsIf_load_mid (by rfl) _ _ rfl _ _ rfl _ _ (fun _ h => rangeBel2 h k1.out) hu rfl hi.out) (by assumption) ?_
        try simp only [Act.put, List.setIfInBounds_toArray, List.set_cons_zero, List.set_cons_succ, List.getElem_toArray, List.getElem_cons_succ, List.getElem_cons_zero]
        refine wpAnyH_ready (rs := [1]) (by kernel_rfl) (by simp) ?_
        refine AllReadyH.cons (o := _) rfl (fun K hK => ?_) AllReadyH.nil
        go_simp
        refine (hA.out _ (r1.out.bel hHeld)).mono ?_
        rintro e w3 ⟨A3, c3, rfl, ho3, hB⟩
        go_wp2_with fail
        refine hK.out _ _ ?_ (fun hHeld => ?_)
        · exact hHeld.trans (hB.mono hHeld.size)
        clear hK K
        try simp only [Act.put, List.setIfInBounds_toArray, List.set_cons_zero, List.set_cons_succ, List.getElem_toArray, List.getElem_cons_succ, List.getElem_cons_zero]
        refine wpAnyH_ready (rs := [3]) (by kernel_rfl) (by simp) ?_
        refine AllReadyH.cons (o := _) rfl (fun K hK => ?_) AllReadyH.nil
        go_simp
        refine (hFi.out _ A3 c3 _ (OwnR.row ho3)).mono ?_
        rintro e w4 ⟨rfl, hB⟩
        go_wp2_with fail
        refine hK.out _ _ ?_ (fun hHeld => ?_)
        · exact hHeld.trans (hB.mono hHeld.size)
        clear hK K
        try simp only [Act.put, List.setIfInBounds_toArray, List.set_cons_zero, List.set_cons_succ, List.getElem_toArray, List.getElem_cons_succ, List.getElem_cons_zero]
        refine' wpAnyH_take (i := 4) (oi := _) (v := ?_) rfl (by kernel_rfl) (by kernel_rfl) (by kernel_rfl) (fun _ _ _ h => h) (Or.inl ⟨by rfl, ?_⟩) (by assumption) ?_
        rotate_left
        · intro W hSw
          go_simp
          first | done | (with_reducible rfl)
        try simp only [Act.put, List.setIfInBounds_toArray, List.set_cons_zero, List.set_cons_succ, List.getElem_toArray, List.getElem_cons_succ, List.getElem_cons_zero]
        refine wpAnyH_done (by kernel_rfl) ?_ _
        refine NoPanic.normal ?_
        have t5 := hid (t1.out.bel hHeld)
        have y5 := t5.out.ns
        have k5 := hid (rangeBel2 hHeld k1.out)
        have r5 := hid (r1.out.bel hHeld)
        have W5 := hid (W1.out.trans (hHeld.mono W1.out.size))
        clear hHeld t1 k1 r1 W1 hB ho3
        go_wp2
        refine wp_region_noPanic ?_
        refine wp_region_held_drew (S := fun w' => Below w4.heap.size w4 w') (by kernel_rfl) ?_ (fun hHeld => ?_)
        · exact bel_drew w4
        refine' wpAnyH_take (i := 0) (oi := _) (v := _) rfl (by kernel_rfl) (by kernel_rfl) (by kernel_rfl) (fun _ _ _ h => h) (yieldsIf_load_mid (by rfl) _ _ rfl _ _ rfl _ _ (fun _ h => rangeBel2 h t5.out.all) hut rfl hiT.out) (by assumption) ?_
        try simp only [Act.put, List.setIfInBounds_toArray, List.set_cons_zero, List.set_cons_succ, List.getElem_toArray, List.getElem_cons_succ, List.getElem_cons_zero]
        refine' wpAnyH_take (i := 2) (oi := _) (v := _) rfl (by kernel_rfl) (by kernel_rfl) (by kernel_rfl) (fun _ _ _ h => h) (yieldsIf_load_mid (by rfl) _ _ rfl _ _ rfl _ _ (fun _ h => rangeBel2 h k5.out) hu rfl hi.out) (by assumption) ?_
        try simp only [Act.put, List.setIfInBounds_toArray, List.set_cons_zero, List.set_cons_succ, List.getElem_toArray, List.getElem_cons_succ, List.getElem_cons_zero]
        refine wpAnyH_ready (rs := [1]) (by kernel_rfl) (by simp) ?_
        refine AllReadyH.cons (o := _) rfl (fun K hK => ?_) AllReadyH.nil
        go_simp
        refine (hA.out _ (r5.out.bel hHeld)).mono ?_
        rintro e w6 ⟨A6, c6, rfl, ho6, hB⟩
        have hB6 := hid (undrew hB)
        go_wp2_with fail
        refine hK.out _ _ ?_ (fun hHeld => ?_)
        · exact hHeld.trans (hB.mono hHeld.size)
        clear hK K
        try simp only [Act.put, List.setIfInBounds_toArray, List.set_cons_zero, List.set_cons_succ, List.getElem_toArray, List.getElem_cons_succ, List.getElem_cons_zero]
        refine wpAnyH_ready (rs := [3]) (by kernel_rfl) (by simp) ?_
        refine AllReadyH.cons (o := _) rfl (fun K hK => ?_) AllReadyH.nil
        go_simp
        refine (hWi.out _ A6 c6 _ (OwnR.row ho6)).mono ?_
        rintro e w7 ⟨A7, c7, rfl, ho7, hB⟩
        go_wp2_with fail
        refine hK.out _ _ ?_ (fun hHeld => ?_)
        · exact hHeld.trans (hB.mono hHeld.size)
        clear hK K
        try simp only [Act.put, List.setIfInBounds_toArray, List.set_cons_zero, List.set_cons_succ, List.getElem_toArray, List.getElem_cons_succ, List.getElem_cons_zero]
        refine' wpAnyH_take (i := 4) (oi := _) (v := ?_) rfl (by kernel_rfl) (by kernel_rfl) (by kernel_rfl) (fun _ _ _ h => h) (Or.inl ⟨by rfl, ?_⟩) (by assumption) ?_
        rotate_left
        · intro W hSw
          go_simp
          first | done | (with_reducible rfl)
        try simp only [Act.put, List.setIfInBounds_toArray, List.set_cons_zero, List.set_cons_succ, List.getElem_toArray, List.getElem_cons_succ, List.getElem_cons_zero]
        refine' wpAnyH_take (i := 5) (oi := _) (v := ?_) rfl (by kernel_rfl) (by kernel_rfl) (by kernel_rfl) (fun _ _ _ h => h) (Or.inl ⟨by rfl, ?_⟩) (by assumption) ?_
        rotate_left
        · intro W hSw
          go_simp
          first | done | (with_reducible rfl)
        try simp only [Act.put, List.setIfInBounds_toArray, List.set_cons_zero, List.set_cons_succ, List.getElem_toArray, List.getElem_cons_succ, List.getElem_cons_zero]
        refine wpAnyH_done (by kernel_rfl) ?_ _
        refine NoPanic.normal ?_
        go_wp2
        go_ret2
        exact ⟨A7, c7, rfl, OwnR.base ho7 (Nat.le_trans W5.out.size hB6.out.size), W5.out.trans (hHeld.mono W5.out.size)⟩
end Go.Proofs.Ytminmkmkaoocaaa
