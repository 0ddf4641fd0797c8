/-
  Contracts of the landed package rows over the table sha.k: Root, Sides, Fits.
-/
import Derived.Test.YtgmlmkhiflnhdaaDoorRwE
import Derived.Test.YtgmlmkhiflnhdaaDoorRef13d
import Derived.Test.YtgmlmkhiflnhdaaDoorCutsB
namespace Go.Proofs.YtgmlmkhiflnhdaaDoor
open Go.RowKit
set_option linter.unusedVariables false
set_option linter.unusedSimpArgs false
set_option maxRecDepth 100000

theorem listR_iff2 {ls : List (List UInt8)} (h : listR ls = true) : ls.length ≤ 256 ∧ ∀ x ∈ ls, x.length ≤ 4096 := by
  unfold listR at h
  simp only [Bool.and_eq_true, decide_eq_true_eq, List.all_eq_true] at h
  exact ⟨h.1, h.2⟩
set_option maxHeartbeats 2000000 in
theorem PRwRoot_any (A : Option Addr) (c : Nat) (ls : List (List UInt8)) (w : World) (hr : Rds w A ls) (hc : ls.length ≤ c) (hm : c ≤ maxLen) (hl : ls.length ≤ 1000000) (hT : Tab w) :
    Calls Tryd.prog 10 #[.slice A ls.length c] w fun e w' => e = .returned (.tuple #[.agg ((rootRL ls).1.map bv).toArray, .int .i64 (if listR ls = true then 0 else 8)]) ∧ Below w.heap.size w w' := by
  have h0 := hid (heap_alloc_new w (.cells z32 29))
  have W0 := hid (ext_alloc w (.cells z32 29))
  have hM := PRwList_any A c ls _ (hr.bel W0.out) hl
  obtain ⟨m, hmm⟩ : ∃ m, listR ls = m := ⟨_, rfl⟩
  have hL : rootRL ls = if m = true then rootR ls else z0R := by unfold rootRL; rw [hmm]
  rw [hmm] at hM ⊢
  rw [hL]
  cases m with
  | false =>
    simp only [Bool.false_eq_true, if_false]
    have hbz := hid built_dgz
    have oz : z32.all (·.oneCell') = true := bvs_all (List.replicate 32 0)
    replace hM := hid hM
    clear hL hr hT
    go_enter Tryd.func10, Tryd.ntmps10
    go_wp2_with (first
      | (with_reducible refine wpList_alloc_row rfl 29 rfl z32 info32 ?_))
    refine hM.out.mono ?_
    rintro e w1 ⟨rfl, rfl⟩
    go_wp2_with (first
      | ((with_reducible refine wpList_built rfl 29 _ rfl z32 [] ?_ ?_ ?_); exact hbz.out; rfl)
      | ((with_reducible refine wpList_store_row rfl 29 (.tmp 2) (.tmp 7) rfl w.heap.size _ rfl rfl 29 z32 ?_ ?_ ?_ ?_ ?_); exact h0.out; (rw [z32_size]; exact size32); rfl; exact oz; intro w4 hg4 hb4 hs4))
    exact bodyPost_ret (res_dg rfl _ _ w.heap.size z0R rfl hg4) rfl ⟨rfl, W0.out.grown hb4 W0.out.size (fun g e => by injection e with e; omega)⟩
  | true =>
    simp only [if_true]
    obtain ⟨l1, l2⟩ := listR_iff2 hmm
    have hO := PRwRootOf_any ls A c _ (hr.bel W0.out) hc hm l1 l2 (hT.bel W0.out hT.low)
    generalize rootR ls = d at *
    have z1 : ((d.1.map bv).toArray).size = 32 := by simp [d.2]
    have o1 := bvs_all d.1
    replace hM := hid hM
    replace hO := hid hO
    clear hL hr l2 hT
    go_enter Tryd.func10, Tryd.ntmps10
    go_wp2_with (first
      | (with_reducible refine wpList_alloc_row rfl 29 rfl z32 info32 ?_))
    refine hM.out.mono ?_
    rintro e w1 ⟨rfl, rfl⟩
    go_wp2_with fail
    refine hO.out.mono ?_
    rintro e w2 ⟨rfl, hb⟩
    have R2 := hid ((hb.block _ (block_lt h0.out)).trans h0.out)
    have W2 := hid (W0.out.trans (hb.mono W0.out.size))
    clear hb
    go_wp2_with (first
      | ((with_reducible refine wpList_store_row rfl 29 (.tmp 2) (.tmp 9) rfl w.heap.size _ rfl rfl 29 z32 ?_ ?_ ?_ ?_ ?_); exact R2.out; (rw [z1]; exact size32); (rw [z1]; exact z32_size); exact o1; intro w4 hg4 hb4 hs4))
    exact bodyPost_ret (res_dg rfl _ _ w.heap.size d rfl hg4) rfl ⟨rfl, W2.out.grown hb4 W2.out.size (fun g e => by injection e with e; omega)⟩
theorem fitM_climb (r : Dg) {n j : Nat} (hj : j < n) (x : List UInt8) (ss : List Dg) : fitM r (madeR n j x ss) = (decide (ss.length = (forksP 0 n j).length) && decide (climbP (leafR x) (forksP 0 n j) ss = r)) := by
  rw [made_all hj]
  by_cases h : ss.length = (forksP 0 n j).length
  · rw [if_pos h, decide_eq_true h]; rfl
  · rw [if_neg h, decide_eq_false h]; rfl
set_option maxHeartbeats 4000000 in
theorem PRwFits_any (r : Dg) (many i : Int) (A : Option Addr) (c : Nat) (x : List UInt8) (F : Nat → Prop) (D : Option Addr) (d : Nat) (ss : List Dg) (w : World) (hr : Rd w A x) (hc : x.length ≤ c) (hm : c ≤ maxLen) (hs : Row F w D ss) (hl : ss.length ≤ 1000000) (hT : Tab w) :
    Calls Tryd.prog 11 #[.agg (r.1.map bv).toArray, .int .i64 many, .int .i64 i, .slice A x.length c, .slice D ss.length d] w fun e w' => e = .returned (.bool (fitsR r many i x ss)) ∧ Below w.heap.size w w' := by
  have W0 := hid (ext_alloc w (.cells (r.1.map bv).toArray 29))
  have hbad : ∀ b, badR many i x = b → (b = true → fitsR r many i x ss = false) := fun b h hb => by unfold fitsR; rw [h, hb]; rfl
  by_cases h1 : 256 < many
  · rw [hbad true (by unfold badR; rw [decide_eq_true h1]; rfl) rfl]
    have q1 : decide (256 < many) = true := decide_eq_true h1
    clear hbad hr hs hT
    go_enter Tryd.func11, Tryd.ntmps11
    go_wp2
    go_ret
    exact ⟨rfl, W0.out⟩
  have q1 : decide (256 < many) = false := decide_eq_false h1
  have hP := fun W => PRwPlace_any i many W
  by_cases h2 : 0 ≤ i ∧ i < many
  case neg =>
    rw [hbad true (by unfold badR; by_cases h : i < 0
                      · rw [decide_eq_true h]; simp
                      · rw [decide_eq_true (show many ≤ i by omega)]; simp) rfl]
    have e2 : (decide (0 ≤ i) && decide (i < many)) = false := by rw [Bool.and_eq_false_iff, decide_eq_false_iff_not, decide_eq_false_iff_not]; omega
    rw [e2] at hP
    replace hP := hid hP
    clear hbad hr hs hT e2
    go_enter Tryd.func11, Tryd.ntmps11
    go_wp2_with fail
    refine (hP.out _).mono ?_
    rintro e w1 ⟨rfl, rfl⟩
    go_wp2
    go_ret
    exact ⟨rfl, W0.out⟩
  have e2 : (decide (0 ≤ i) && decide (i < many)) = true := by rw [decide_eq_true h2.1, decide_eq_true h2.2]; rfl
  rw [e2] at hP
  replace hP := hid hP
  have hRw := fun W => PRwRow_any A x.length c W
  by_cases h4 : 4096 < (x.length : Int)
  · rw [hbad true (by unfold badR; rw [decide_eq_true h4]; simp) rfl]
    have e4 : decide (x.length ≤ 4096) = false := decide_eq_false (by omega)
    rw [e4] at hRw
    replace hRw := hid hRw
    clear hbad hr hs e2 e4 hT
    go_enter Tryd.func11, Tryd.ntmps11
    go_wp2_with fail
    refine (hP.out _).mono ?_
    rintro e w1 ⟨rfl, rfl⟩
    go_wp2_with fail
    refine (hRw.out _).mono ?_
    rintro e w1 ⟨rfl, rfl⟩
    go_wp2
    go_ret
    exact ⟨rfl, W0.out⟩
  have e4 : decide (x.length ≤ 4096) = true := decide_eq_true (by omega)
  rw [e4] at hRw
  replace hRw := hid hRw
  have hB : badR many i x = false := by unfold badR; rw [q1, decide_eq_false (show ¬ i < 0 by omega), decide_eq_false (show ¬ many ≤ i by omega), decide_eq_false h4]; rfl
  have hfit : fitsR r many i x ss = fitM r (madeR many.toNat i.toNat x ss) := by unfold fitsR; rw [hB]; rfl
  rw [hfit]
  clear hbad hB hfit e2 e4
  obtain ⟨n, rfl⟩ := Int.eq_ofNat_of_zero_le (show 0 ≤ many by omega)
  obtain ⟨j, rfl⟩ := Int.eq_ofNat_of_zero_le (show 0 ≤ i by omega)
  rw [Int.toNat_natCast, Int.toNat_natCast, fitM_climb r (by omega : j < n)]
  have hF := PRwForks_any n j (w.alloc (.cells (r.1.map bv).toArray 29)) (by omega) (by omega)
  have hfl := forksP_len _ 0 n j (Nat.lt_succ_self _)
  generalize forksP 0 n j = fs at *
  have h0 := hid (heap_alloc_new w (.cells (r.1.map bv).toArray 29))
  have hu := Tryd.underlying29
  have sR := hid (sizeDg r)
  replace hF := hid hF
  have hC := hid (fun fA fc w2 (hx : Rd w2 A x) (G : Nat → Prop) (hf : Row G w2 fA fs) (hs2 : Row F w2 D ss) (hl2 : fs.length = ss.length) (hT2 : Tab w2) => PRwClimb_any A c x G F fA D fc d fs ss w2 hx ⟨hc, hm⟩ (by omega) hf hs2 hl2 (by omega) hT2)
  obtain ⟨q, hq⟩ : ∃ q, decide (climbP (leafR x) fs ss = r) = q := ⟨_, rfl⟩
  have hE : ∀ W, (Op.equalIn 10000 29 (.agg ((climbP (leafR x) fs ss).1.map bv).toArray) (.agg (r.1.map bv).toArray)).run Tryd.prog W = .ok q W := fun W => eqd_is _ r _ hq W
  rw [hq]
  replace hr := hid hr
  replace hs := hid hs
  replace hT := hid hT
  clear hq hfl
  generalize (climbP (leafR x) fs ss).1.map bv = dR at *
  generalize r.1.map bv = dr at *
  by_cases hlen : ss.length = fs.length
  · rw [decide_eq_true hlen, Bool.true_and]
    have hlen2 := hid hlen.symm
    have q5 : ((ss.length : Int) == (fs.length : Int)) = true := by rw [beq_iff_eq]; omega
    clear hlen
    go_enter Tryd.func11, Tryd.ntmps11
    go_wp2_with fail
    refine (hP.out _).mono ?_
    rintro e w1 ⟨rfl, rfl⟩
    go_wp2_with fail
    refine (hRw.out _).mono ?_
    rintro e w1 ⟨rfl, hw1⟩
    rw [hw1]
    clear hw1
    go_wp2_with fail
    refine hF.out.mono ?_
    rintro e w2 ⟨A2, c2, rfl, o2, hb⟩
    have W2 := hid (W0.out.trans (hb.mono W0.out.size))
    have r2 := hid (rangeBel2 hb (rangeOf h0.out))
    have X2 := hid (hr.out.bel W2.out)
    have S2 := hid (hs.out.bel W2.out)
    have T2 := hid (hT.out.bel W2.out hT.out.low)
    have F2 := hid o2.row
    clear hb o2
    go_wp2
    refine wp_region_noPanic ?_
    refine wp_region_held_drew (S := fun w' => Below w2.heap.size w2 w') (by kernel_rfl) ?_ (fun hHeld => ?_)
    · exact bel_drew w2
    refine' wpAnyH_take (i := 0) (oi := _) (v := ?_) rfl (by kernel_rfl) (by kernel_rfl) (by kernel_rfl) (fun _ _ _ h => h) (Or.inl ⟨by rfl, ?_⟩) (by assumption) ?_
    rotate_left
    · intro W hSw
      go_simp
      first | done | (with_reducible rfl)
    try simp only [Act.put, sQa, sQb, sQc, gQa, gQb, gQc]
    refine' wpAnyH_take (i := 1) (oi := _) (v := ?_) rfl (by kernel_rfl) (by kernel_rfl) (by kernel_rfl) (fun _ _ _ h => h) (Or.inl ⟨by rfl, ?_⟩) (by assumption) ?_
    rotate_left
    · intro W hSw
      go_simp
      first | done | (with_reducible rfl)
    try simp only [Act.put, sQa, sQb, sQc, gQa, gQb, gQc]
    refine' wpAnyH_take (i := 2) (oi := _) (v := ?_) rfl (by kernel_rfl) (by kernel_rfl) (by kernel_rfl) (fun _ _ _ h => h) (Or.inl ⟨by rfl, ?_⟩) (by assumption) ?_
    rotate_left
    · intro W hSw
      go_simp
      first | done | (with_reducible rfl)
    try simp only [Act.put, sQa, sQb, sQc, gQa, gQb, gQc]
    refine' wpAnyH_take (i := 3) (oi := _) (v := ?_) rfl (by kernel_rfl) (by kernel_rfl) (by kernel_rfl) (fun _ _ _ h => h) (Or.inl ⟨by rfl, ?_⟩) (by assumption) ?_
    rotate_left
    · intro W hSw
      go_simp
      first | done | (with_reducible rfl)
    try simp only [Act.put, sQa, sQb, sQc, gQa, gQb, gQc]
    refine' wpAnyH_take (i := 4) (oi := _) (v := ?_) rfl (by kernel_rfl) (by kernel_rfl) (by kernel_rfl) (fun _ _ _ h => h) (Or.inl ⟨by rfl, ?_⟩) (by assumption) ?_
    rotate_left
    · intro W hSw
      go_simp
      first | done | (with_reducible rfl)
    try simp only [Act.put, sQa, sQb, sQc, gQa, gQb, gQc]
    refine' wpAnyH_take (i := 5) (oi := _) (v := ?_) rfl (by kernel_rfl) (by kernel_rfl) (by kernel_rfl) (fun _ _ _ h => h) (Or.inl ⟨by rfl, ?_⟩) (by assumption) ?_
    rotate_left
    · intro W hSw
      go_simp
      first | done | (with_reducible rfl)
    try simp only [Act.put, sQa, sQb, sQc, gQa, gQb, gQc]
    refine' wpAnyH_take (i := 6) (oi := _) (v := ?_) rfl (by kernel_rfl) (by kernel_rfl) (by kernel_rfl) (fun _ _ _ h => h) (Or.inl ⟨by rfl, ?_⟩) (by assumption) ?_
    rotate_left
    · intro W hSw
      go_simp
      first | done | (with_reducible rfl)
    try simp only [Act.put, sQa, sQb, sQc, gQa, gQb, gQc]
    refine' wpAnyH_take (i := 7) (oi := _) (v := ?_) rfl (by kernel_rfl) (by kernel_rfl) (by kernel_rfl) (fun _ _ _ h => h) (Or.inl ⟨by rfl, ?_⟩) (by assumption) ?_
    rotate_left
    · intro W hSw
      go_simp
      first | done | (with_reducible rfl)
    try simp only [Act.put, sQa, sQb, sQc, gQa, gQb, gQc]
    refine' wpAnyH_take (i := 8) (oi := _) (v := ?_) rfl (by kernel_rfl) (by kernel_rfl) (by kernel_rfl) (fun _ _ _ h => h) (Or.inl ⟨by rfl, ?_⟩) (by assumption) ?_
    rotate_left
    · intro W hSw
      go_simp
      first | done | (with_reducible rfl)
    try simp only [Act.put, sQa, sQb, sQc, gQa, gQb, gQc]
    refine' wpAnyH_take (i := 10) (oi := _) (v := _) rfl (by kernel_rfl) (by kernel_rfl) (by kernel_rfl) (fun _ _ _ h => h) (yieldsIf_load_mid (by rfl) _ _ rfl _ _ rfl _ _ (fun _ h => rangeBel2 h r2.out) hu rfl sR.out) (by assumption) ?_
    try simp only [Act.put, sQa, sQb, sQc, gQa, gQb, gQc]
    refine wpAnyH_ready (rs := [9]) (by kernel_rfl) (by simp) ?_
    refine AllReadyH.cons (o := _) rfl (fun K hK => ?_) AllReadyH.nil
    go_simp
    refine (hC.out A2 c2 _ (X2.out.bel hHeld) _ (F2.out.bel hHeld) (S2.out.bel hHeld) hlen2.out (T2.out.bel hHeld T2.out.low)).mono ?_
    rintro e v9 ⟨rfl, hB⟩
    go_wp2_with fail
    refine hK.out _ _ ?_ (fun hHeld => ?_)
    · exact hHeld.trans (hB.mono hHeld.size)
    clear hK K
    try simp only [Act.put, sQa, sQb, sQc, gQa, gQb, gQc]
    refine' wpAnyH_take (i := 11) (oi := _) (v := ?_) rfl (by kernel_rfl) (by kernel_rfl) (by kernel_rfl) (fun _ _ _ h => h) (Or.inl ⟨by rfl, ?_⟩) (by assumption) ?_
    rotate_left
    · intro W hSw
      go_simp
      first | done | (with_reducible rfl)
    try simp only [Act.put, sQa, sQb, sQc, gQa, gQb, gQc]
    refine' wpAnyH_take (i := 12) (oi := _) (v := ?_) rfl (by kernel_rfl) (by kernel_rfl) (by kernel_rfl) (fun _ _ _ h => h) (Or.inl ⟨by rfl, ?_⟩) (by assumption) ?_
    rotate_left
    · intro W hSw
      go_simp
      first | done | (with_reducible rfl)
    try simp only [Act.put, sQa, sQb, sQc, gQa, gQb, gQc]
    refine' wpAnyH_take (i := 13) (oi := _) (v := ?_) rfl (by kernel_rfl) (by kernel_rfl) (by kernel_rfl) (fun _ _ _ h => h) (Or.inl ⟨by rfl, ?_⟩) (by assumption) ?_
    rotate_left
    · intro W hSw
      go_simp
      first | done | (with_reducible rfl)
    try simp only [Act.put, sQa, sQb, sQc, gQa, gQb, gQc]
    refine wpAnyH_done (by kernel_rfl) ?_ _
    refine NoPanic.normal ?_
    go_wp2
    go_ret
    exact ⟨rfl, W2.out.trans (hHeld.mono W2.out.size)⟩
  · rw [decide_eq_false hlen, Bool.false_and]
    have q5 : ((ss.length : Int) == (fs.length : Int)) = false := by rw [beq_eq_false_iff_ne]; omega
    clear hC hE
    go_enter Tryd.func11, Tryd.ntmps11
    go_wp2_with fail
    refine (hP.out _).mono ?_
    rintro e w1 ⟨rfl, rfl⟩
    go_wp2_with fail
    refine (hRw.out _).mono ?_
    rintro e w1 ⟨rfl, hw1⟩
    rw [hw1]
    clear hw1
    go_wp2_with fail
    refine hF.out.mono ?_
    rintro e w2 ⟨A2, c2, rfl, o2, hb⟩
    have W2 := hid (W0.out.trans (hb.mono W0.out.size))
    clear hb o2
    go_wp2
    refine wp_region_noPanic ?_
    refine wp_region_held_drew (S := fun w' => Below w2.heap.size w2 w') (by kernel_rfl) ?_ (fun hHeld => ?_)
    · exact bel_drew w2
    refine' wpAnyH_take (i := 0) (oi := _) (v := ?_) rfl (by kernel_rfl) (by kernel_rfl) (by kernel_rfl) (fun _ _ _ h => h) (Or.inl ⟨by rfl, ?_⟩) (by assumption) ?_
    rotate_left
    · intro W hSw
      go_simp
      first | done | (with_reducible rfl)
    try simp only [Act.put, sQa, sQb, sQc, gQa, gQb, gQc]
    refine' wpAnyH_take (i := 1) (oi := _) (v := ?_) rfl (by kernel_rfl) (by kernel_rfl) (by kernel_rfl) (fun _ _ _ h => h) (Or.inl ⟨by rfl, ?_⟩) (by assumption) ?_
    rotate_left
    · intro W hSw
      go_simp
      first | done | (with_reducible rfl)
    try simp only [Act.put, sQa, sQb, sQc, gQa, gQb, gQc]
    refine' wpAnyH_take (i := 2) (oi := _) (v := ?_) rfl (by kernel_rfl) (by kernel_rfl) (by kernel_rfl) (fun _ _ _ h => h) (Or.inl ⟨by rfl, ?_⟩) (by assumption) ?_
    rotate_left
    · intro W hSw
      go_simp
      first | done | (with_reducible rfl)
    try simp only [Act.put, sQa, sQb, sQc, gQa, gQb, gQc]
    refine' wpAnyH_take (i := 3) (oi := _) (v := ?_) rfl (by kernel_rfl) (by kernel_rfl) (by kernel_rfl) (fun _ _ _ h => h) (Or.inl ⟨by rfl, ?_⟩) (by assumption) ?_
    rotate_left
    · intro W hSw
      go_simp
      first | done | (with_reducible rfl)
    try simp only [Act.put, sQa, sQb, sQc, gQa, gQb, gQc]
    refine' wpAnyH_take (i := 4) (oi := _) (v := ?_) rfl (by kernel_rfl) (by kernel_rfl) (by kernel_rfl) (fun _ _ _ h => h) (Or.inl ⟨by rfl, ?_⟩) (by assumption) ?_
    rotate_left
    · intro W hSw
      go_simp
      first | done | (with_reducible rfl)
    try simp only [Act.put, sQa, sQb, sQc, gQa, gQb, gQc]
    refine' wpAnyH_take (i := 5) (oi := _) (v := ?_) rfl (by kernel_rfl) (by kernel_rfl) (by kernel_rfl) (fun _ _ _ h => h) (Or.inl ⟨by rfl, ?_⟩) (by assumption) ?_
    rotate_left
    · intro W hSw
      go_simp
      first | done | (with_reducible rfl)
    try simp only [Act.put, sQa, sQb, sQc, gQa, gQb, gQc]
    refine' wpAnyH_take (i := 6) (oi := _) (v := _) rfl (by kernel_rfl) (by kernel_rfl) (by kernel_rfl) (fun _ _ _ h => h) (Or.inr ⟨by rfl, rfl⟩) (by assumption) ?_
    try simp only [Act.put, sQa, sQb, sQc, gQa, gQb, gQc]
    refine' wpAnyH_take (i := 7) (oi := _) (v := _) rfl (by kernel_rfl) (by kernel_rfl) (by kernel_rfl) (fun _ _ _ h => h) (Or.inr ⟨by rfl, rfl⟩) (by assumption) ?_
    try simp only [Act.put, sQa, sQb, sQc, gQa, gQb, gQc]
    refine' wpAnyH_take (i := 8) (oi := _) (v := _) rfl (by kernel_rfl) (by kernel_rfl) (by kernel_rfl) (fun _ _ _ h => h) (Or.inr ⟨by rfl, rfl⟩) (by assumption) ?_
    try simp only [Act.put, sQa, sQb, sQc, gQa, gQb, gQc]
    refine' wpAnyH_take (i := 9) (oi := _) (v := _) rfl (by kernel_rfl) (by kernel_rfl) (by kernel_rfl) (fun _ _ _ h => h) (Or.inr ⟨by rfl, rfl⟩) (by assumption) ?_
    try simp only [Act.put, sQa, sQb, sQc, gQa, gQb, gQc]
    refine' wpAnyH_take (i := 10) (oi := _) (v := _) rfl (by kernel_rfl) (by kernel_rfl) (by kernel_rfl) (fun _ _ _ h => h) (Or.inr ⟨by rfl, rfl⟩) (by assumption) ?_
    try simp only [Act.put, sQa, sQb, sQc, gQa, gQb, gQc]
    refine' wpAnyH_take (i := 11) (oi := _) (v := _) rfl (by kernel_rfl) (by kernel_rfl) (by kernel_rfl) (fun _ _ _ h => h) (Or.inr ⟨by rfl, rfl⟩) (by assumption) ?_
    try simp only [Act.put, sQa, sQb, sQc, gQa, gQb, gQc]
    refine' wpAnyH_take (i := 12) (oi := _) (v := ?_) rfl (by kernel_rfl) (by kernel_rfl) (by kernel_rfl) (fun _ _ _ h => h) (Or.inl ⟨by rfl, ?_⟩) (by assumption) ?_
    rotate_left
    · intro W hSw
      go_simp
      first | done | (with_reducible rfl)
    try simp only [Act.put, sQa, sQb, sQc, gQa, gQb, gQc]
    refine' wpAnyH_take (i := 13) (oi := _) (v := ?_) rfl (by kernel_rfl) (by kernel_rfl) (by kernel_rfl) (fun _ _ _ h => h) (Or.inl ⟨by rfl, ?_⟩) (by assumption) ?_
    rotate_left
    · intro W hSw
      go_simp
      first | done | (with_reducible rfl)
    try simp only [Act.put, sQa, sQb, sQc, gQa, gQb, gQc]
    refine wpAnyH_done (by kernel_rfl) ?_ _
    refine NoPanic.normal ?_
    go_wp2
    go_ret
    exact ⟨rfl, W2.out.trans (hHeld.mono W2.out.size)⟩
end Go.Proofs.YtgmlmkhiflnhdaaDoor
