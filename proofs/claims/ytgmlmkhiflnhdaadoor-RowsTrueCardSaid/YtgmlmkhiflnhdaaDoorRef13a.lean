/-
  The document's answers of layer 13: First, May, Of, Root.
-/
import Derived.Test.YtgmlmkhiflnhdaaDoorRwQ
import Derived.Test.YtgmlmkhiflnhdaaDoorRefC
import Derived.Test.YtgmlmkhiflnhdaaDoorStepT
import Derived.Test.YtgmlmkhiflnhdaaDoorBits
namespace Go.Proofs.YtgmlmkhiflnhdaaDoor
open Go.RowKit
set_option linter.unusedVariables false
set_option linter.unusedSimpArgs false
set_option maxRecDepth 100000

theorem slotSlsR : Slot Tryd.prog Nat 26 33 (.slice none 0 0) 24 where
  under := Tryd.underlying26
  info := by kernel_rfl
  zero := rfl
  pos := by decide
theorem RFirst13_any (n : Nat) (w : World) (h2 : 2 ≤ n) (hn : n ≤ 1000000) :
    Calls Tryd.prog 42 #[.int .i64 (n : Int)] w fun e w' => e = .returned (.int .i64 (firstN n : Int)) ∧ w' = w := by
  go_enter Tryd.func42, Tryd.ntmps42
  go_wp2
  go_loop [3] (fun p => ∃ q : Nat, p = .int .i64 (q : Int) ∧ (∃ j, q = 2 ^ j) ∧ q < n) (fun p => n - (intOf p).toNat)
  case atStart => exact ⟨1, rfl, ⟨0, rfl⟩, by omega⟩
  case round =>
    obtain ⟨q, rfl, ⟨j, hj⟩, hq⟩ := hrel
    have hpos : 0 < q := by rw [hj]; exact Nat.two_pow_pos j
    have hw : IntKind.i64.wrap (2 * (q : Int)) = ((2 * q : Nat) : Int) := by rw [IntWalk.i64_in _ (by omega)]; omega
    by_cases hlt : 2 * q < n
    · have hl2 : ((2 * q : Nat) : Int) < (n : Int) := by omega
      replace hj := hid hj
      go_wp2
      go_round
      case rel => exact ⟨2 * q, rfl, ⟨j + 1, by rw [hj.out, Nat.pow_succ]; omega⟩, hlt⟩
      case measure => simp [intOf]; omega
    · have hl2 : ¬ ((2 * q : Nat) : Int) < (n : Int) := by omega
      have hf : q = firstN n := by rw [hj]; exact firstN_loop h2 (by rw [← hj]; exact hq) (by rw [← hj]; exact hlt)
      replace hf := hid hf
      replace hj := hid hj
      go_wp2
      go_ret
      exact ⟨by rw [← hf.out]; rfl, rfl⟩
theorem listR_take {ls : List (List UInt8)} {j : Nat} (h : j < ls.length) : ((ls.take (j + 1)).all fun x => decide (x.length ≤ 4096)) = (((ls.take j).all fun x => decide (x.length ≤ 4096)) && decide (ls[j].length ≤ 4096)) := by
  rw [List.take_succ_eq_append_getElem h, List.all_append]
  simp
theorem listR_no {ls : List (List UInt8)} {j : Nat} (h : j < ls.length) (hj : ¬ ls[j].length ≤ 4096) : listR ls = false := by
  unfold listR
  rw [Bool.and_eq_false_iff]
  right
  rw [List.all_eq_false]
  exact ⟨ls[j], List.getElem_mem h, by simpa using hj⟩
theorem RListMay_any (A : Option Addr) (c : Nat) (ls : List (List UInt8)) (w : World) (hr : Rds w A ls) (hl : ls.length ≤ 1000000) (hx : ∀ x ∈ ls, x.length ≤ 1000000) :
    Calls Tryd.prog 30 #[.slice A ls.length c] w fun e w' => e = .returned (.bool (listR ls)) ∧ w' = w := by
  obtain ⟨ans, hans⟩ : ∃ b, listR ls = b := ⟨_, rfl⟩
  rw [hans]
  by_cases h256 : 256 < ls.length
  · have h0 : ans = false := by rw [← hans]; unfold listR; rw [decide_eq_false (by omega)]; rfl
    have q1 : decide (256 < (ls.length : Int)) = true := decide_eq_true (by omega)
    subst h0
    clear hans
    go_enter Tryd.func30, Tryd.ntmps30
    go_wp2
    go_ret
    exact ⟨rfl, rfl⟩
  have q1 : decide (256 < (ls.length : Int)) = false := decide_eq_false (by omega)
  replace hans := hid hans
  go_enter Tryd.func30, Tryd.ntmps30
  go_wp2
  go_loop [3] (fun i => ∃ j : Nat, i = .int .i64 (j : Int) ∧ j ≤ ls.length ∧ ((ls.take j).all fun x => decide (x.length ≤ 4096)) = true) (fun i => ls.length - (intOf i).toNat)
  case atStart => exact ⟨0, rfl, Nat.zero_le _, rfl⟩
  case round =>
    obtain ⟨j, rfl, hj, ha⟩ := hrel
    by_cases hlt : j < ls.length
    · have hlt2 : (j : Int) < (ls.length : Int) := by omega
      obtain ⟨b, o, rfl, hc⟩ := hr (by omega)
      obtain ⟨A', c', e, -⟩ := hc j _ (List.getElem?_eq_getElem hlt)
      have hn := listR_take hlt
      have hno := fun q => listR_no hlt q
      have hxj := hx _ (List.getElem_mem hlt)
      rw [ha, Bool.true_and] at hn
      replace hn := hid hn
      replace hno := hid hno
      replace ha := hid ha
      clear hc hx
      generalize ls[j] = x at *
      by_cases h4 : x.length ≤ 4096
      · have q2 : decide (4096 < (x.length : Int)) = false := decide_eq_false (by omega)
        go_wp2
        go_round
        case rel => exact ⟨j + 1, by go_num, by omega, by rw [hn.out]; exact decide_eq_true h4⟩
        case measure => simp [intOf]; omega
      · have q2 : decide (4096 < (x.length : Int)) = true := decide_eq_true (by omega)
        have h0 : ans = false := by rw [← hans.out]; exact hno.out h4
        subst h0
        go_wp2
        go_ret
        exact ⟨rfl, rfl⟩
    · obtain rfl : j = ls.length := by omega
      rw [List.take_length] at ha
      have h0 : ans = true := by rw [← hans.out]; unfold listR; rw [decide_eq_true (by omega), ha]; rfl
      subst h0
      replace ha := hid ha
      go_wp2
      go_ret
      exact ⟨rfl, rfl⟩
theorem leaf_len {x : List UInt8} (h : x.length ≤ 5000) : (tagB 7 [x]).length ≤ 100000 := by simp [tagB, partB, be_length]; omega
theorem fork_len (a b : Dg) : (tagB 8 [a.1, b.1]).length ≤ 100000 := by simp [tagB, partB, be_length, a.2, b.2]
theorem rootR_two {ls : List (List UInt8)} {a b : Dg} (h : 2 ≤ ls.length) (ha : rootR (ls.take (firstN ls.length)) = a) (hb : rootR (ls.drop (firstN ls.length)) = b) : sha256 (tagB 8 [a.1, b.1]) = (rootR ls).1 := by
  rw [rootR_more h, ha, hb]
  rfl
set_option maxHeartbeats 8000000 in
theorem ROfR_step (A : Option Addr) (c : Nat) (ls : List (List UInt8)) (w : World) (ih : ∀ (A : Option Addr) (c : Nat) (ms : List (List UInt8)) (w : World), ms.length < ls.length → Rds w A ms → ms.length ≤ c → c ≤ maxLen → (∀ x ∈ ms, x.length ≤ 5000) →
      Calls Tryd.prog 31 #[.slice A ms.length c] w fun e w' => e = .returned (.agg ((rootR ms).1.map bv).toArray) ∧ Below w.heap.size w w')
    (hr : Rds w A ls) (hc : ls.length ≤ c) (hm : c ≤ maxLen) (hx : ∀ x ∈ ls, x.length ≤ 5000) (hl : ls.length ≤ 1000000) :
    Calls Tryd.prog 31 #[.slice A ls.length c] w fun e w' => e = .returned (.agg ((rootR ls).1.map bv).toArray) ∧ Below w.heap.size w w' := by
  have hu := Tryd.underlying29
  have h0 := hid (heap_alloc_new w (.cells z32 29))
  have W0 := hid (ext_alloc w (.cells z32 29))
  have hr0 := hr.bel W0.out
  obtain ⟨rd, hrd⟩ : ∃ d, rootR ls = d := ⟨_, rfl⟩
  rw [hrd]
  have z1 : ((rd.1.map bv).toArray).size = 32 := by simp [rd.2]
  have o1 := bvs_all rd.1
  match hls : ls, hrd with
  | [], hrd =>
    have hN := RNone_any (w.alloc (.cells z32 29))
    have e1 : sha256 [0] = rd.1 := by rw [← hrd]; rfl
    rw [e1] at hN
    replace hN := hid hN
    clear ih hrd hr hr0 e1 hx
    generalize (rd.1.map bv) = dk at *
    go_enter Tryd.func31, Tryd.ntmps31
    go_wp2_with (first
      | (with_reducible refine wpList_alloc_row rfl 29 rfl z32 info32 ?_))
    refine hN.out.mono ?_
    rintro e w1 ⟨rfl, hb⟩
    have R1 := hid ((hb.block _ (block_lt h0.out)).trans h0.out)
    have W1 := hid (W0.out.trans (hb.mono W0.out.size))
    clear hb
    go_wp2_with (first
      | ((with_reducible refine wpList_store_row rfl 29 (.tmp 2) (.tmp 9) rfl w.heap.size _ rfl rfl 29 z32 ?_ ?_ ?_ ?_ ?_); exact R1.out; (rw [z1]; exact size32); (rw [z1]; exact z32_size); exact o1; intro w4 hg4 hb4 hs4))
    exact bodyPost_ret (v := .agg dk.toArray) (results_cell_row Tryd.results31 _ _ w.heap.size 29 _ (0, 0) _ rfl hg4 hu rfl (by rw [z1]; exact size32)) rfl ⟨rfl, W1.out.grown hb4 W1.out.size (fun g e => by injection e with e; omega)⟩
  | [x], hrd =>
    obtain ⟨b, o, rfl, hcc⟩ := hr0 (by simp)
    obtain ⟨A', c', e, hra, hl1, hl2⟩ := hcc 0 x rfl
    rw [Nat.add_zero] at e
    have hN := ROneD_any 7 A' c' x (w.alloc (.cells z32 29)) hra ⟨hl1, hl2⟩ (hx x (List.mem_singleton.2 rfl))
    have e1 : sha256 (tagB 7 [x]) = rd.1 := by rw [← hrd]; rfl
    rw [e1] at hN
    replace hN := hid hN
    clear ih hrd hr hcc e1 hx hra
    generalize (rd.1.map bv) = dk at *
    go_enter Tryd.func31, Tryd.ntmps31
    go_wp2_with (first
      | (with_reducible refine wpList_alloc_row rfl 29 rfl z32 info32 ?_))
    refine hN.out.mono ?_
    rintro e w1 ⟨rfl, hb⟩
    have R1 := hid ((hb.block _ (block_lt h0.out)).trans h0.out)
    have W1 := hid (W0.out.trans (hb.mono W0.out.size))
    clear hb
    go_wp2_with (first
      | ((with_reducible refine wpList_store_row rfl 29 (.tmp 2) (.tmp 16) rfl w.heap.size _ rfl rfl 29 z32 ?_ ?_ ?_ ?_ ?_); exact R1.out; (rw [z1]; exact size32); (rw [z1]; exact z32_size); exact o1; intro w4 hg4 hb4 hs4))
    exact bodyPost_ret (v := .agg dk.toArray) (results_cell_row Tryd.results31 _ _ w.heap.size 29 _ (0, 0) _ rfl hg4 hu rfl (by rw [z1]; exact size32)) rfl ⟨rfl, W1.out.grown hb4 W1.out.size (fun g e => by injection e with e; omega)⟩
  | x :: y :: m, hrd =>
    have h2 : 2 ≤ (x :: y :: m).length := by simp
    rw [← hls] at h2 ih hrd hr hr0 hc hl hx ⊢
    have f1 := firstN_pos ls.length
    have f2 := firstN_lt h2
    have hF := hid (fun W => RFirst13_any ls.length W h2 hl)
    have ht : (ls.take (firstN ls.length)).length = firstN ls.length := by rw [List.length_take]; omega
    have hd : (ls.drop (firstN ls.length)).length = ls.length - firstN ls.length := List.length_drop
    have hI1 := fun W (hW : Rds W A ls) => ih A c (ls.take (firstN ls.length)) W (by omega) (hW.take _) (by omega) hm (fun x h => hx x (List.take_subset _ _ h))
    have hI2 := fun W (hW : Rds W A ls) => ih (cutA A c (firstN ls.length) 1) (c - firstN ls.length) (ls.drop (firstN ls.length)) W (by omega) (hW.cutA _ c (by omega) hc) (by omega) (by omega) (fun x h => hx x (List.drop_subset _ _ h))
    rw [ht] at hI1
    rw [hd] at hI2
    obtain ⟨da, hda⟩ : ∃ d, rootR (ls.take (firstN ls.length)) = d := ⟨_, rfl⟩
    obtain ⟨db, hdb⟩ : ∃ d, rootR (ls.drop (firstN ls.length)) = d := ⟨_, rfl⟩
    have e1 : sha256 (tagB 8 [da.1, db.1]) = rd.1 := (rootR_two h2 hda hdb).trans (congrArg (·.1) hrd)
    rw [hda] at hI1
    rw [hdb] at hI2
    have su := hid (fun W => run_upto slotSlsR A ls.length c (firstN ls.length) (by omega) W)
    have sf := hid (fun W => run_from slotSlsR A ls.length c (firstN ls.length) (by omega) W)
    have hT := hid (fun W g1 g2 (h1 : Rd W (some ⟨g1, 0, none⟩) da.1) (h2 : Rd W (some ⟨g2, 0, none⟩) db.1) => RTwo_any 8 (some ⟨g1, 0, none⟩) (some ⟨g2, 0, none⟩) 32 32 da.1 db.1 W h1 h2 ⟨by rw [da.2]; exact Nat.le_refl _, by decide⟩ ⟨by rw [db.2]; exact Nat.le_refl _, by decide⟩ (fork_len da db))
    rw [e1, da.2, db.2] at hT
    have zA : ((da.1.map bv).toArray).size = 32 := by simp [da.2]
    have oA := bvs_all da.1
    have zB : ((db.1.map bv).toArray).size = 32 := by simp [db.2]
    have oB := bvs_all db.1
    have hsl := run_all32P
    replace hI1 := hid hI1
    replace hI2 := hid hI2
    replace hr0 := hid hr0
    have q0 : ((ls.length : Int) == 0) = false := by rw [beq_eq_false_iff_ne]; omega
    have q1 : ((ls.length : Int) == 1) = false := by rw [beq_eq_false_iff_ne]; omega
    clear ih hr hx hda hdb hrd e1 ht hd hls
    generalize firstN ls.length = fn at *
    go_enter Tryd.func31, Tryd.ntmps31
    go_wp2_with (first
      | (with_reducible refine wpList_alloc_row rfl 29 rfl z32 info32 ?_))
    refine (hF.out _).mono ?_
    rintro e w1 ⟨rfl, hw1⟩
    generalize w.alloc (.cells z32 29) = w0 at *
    subst hw1
    go_wp2
    refine wp_region_noPanic ?_
    refine wp_region_held_drew (S := fun w' => Below w1.heap.size w1 w') (by kernel_rfl) ?_ (fun hHeld => ?_)
    · exact bel_drew w1
    refine' wpAnyH_take (i := 0) (oi := _) (v := ?_) rfl (by kernel_rfl) (by kernel_rfl) (by kernel_rfl) (fun _ _ _ h => h) (Or.inl ⟨by rfl, ?_⟩) (by assumption) ?_
    rotate_left
    · intro W hSw
      go_simp
      first | done | (with_reducible rfl)
    try simp only [Act.put, sQa, sQb, sQc, gQa, gQb, gQc]
    refine' wpAnyH_take (i := 1) (oi := _) (v := ?_) rfl (by kernel_rfl) (by kernel_rfl) (by kernel_rfl) (fun _ _ _ h => h) (Or.inl ⟨by rfl, ?_⟩) (by assumption) ?_
    rotate_left
    · intro W hSw
      go_simp
      first | done | (with_reducible rfl)
    try simp only [Act.put, sQa, sQb, sQc, gQa, gQb, gQc]
    refine' wpAnyH_take (i := 2) (oi := _) (v := _) rfl (by kernel_rfl) (by kernel_rfl) (by kernel_rfl) (fun _ _ _ h => h) (yieldsIf_slice (by rfl) _ _ _ _ _ rfl _ _ _ _ _ (su.out) rfl rfl rfl rfl) (by assumption) ?_
    try simp only [Act.put, sQa, sQb, sQc, gQa, gQb, gQc]
    refine' wpAnyH_take (i := 4) (oi := _) (v := ?_) rfl (by kernel_rfl) (by kernel_rfl) (by kernel_rfl) (fun _ _ _ h => h) (Or.inl ⟨by rfl, ?_⟩) (by assumption) ?_
    rotate_left
    · intro W hSw
      go_simp
      first | done | (with_reducible rfl)
    try simp only [Act.put, sQa, sQb, sQc, gQa, gQb, gQc]
    refine' wpAnyH_take (i := 5) (oi := _) (v := ?_) rfl (by kernel_rfl) (by kernel_rfl) (by kernel_rfl) (fun _ _ _ h => h) (Or.inl ⟨by rfl, ?_⟩) (by assumption) ?_
    rotate_left
    · intro W hSw
      go_simp
      first | done | (with_reducible rfl)
    try simp only [Act.put, sQa, sQb, sQc, gQa, gQb, gQc]
    refine' wpAnyH_take (i := 6) (oi := _) (v := _) rfl (by kernel_rfl) (by kernel_rfl) (by kernel_rfl) (fun _ _ _ h => h) (yieldsIf_slice (by rfl) _ _ _ _ _ rfl _ _ _ _ _ (sf.out) rfl rfl rfl rfl) (by assumption) ?_
    try simp only [Act.put, sQa, sQb, sQc, gQa, gQb, gQc]
    refine wpAnyH_ready (rs := [3, 8, 9]) (by kernel_rfl) (by simp) ?_
    refine AllReadyH.cons (o := _) rfl (fun K hK => ?_) ?_
    · skip
      go_simp
      refine (hI1.out _ (hr0.out.bel hHeld)).mono ?_
      rintro e v3 ⟨rfl, hB⟩
      try have e8 := (hB.block _ (block_lt e8)).trans e8
      try have e9 := (hB.block _ (block_lt e9)).trans e9
      go_wp2_with fail
      refine hK.out _ _ ?_ (fun hHeld => ?_)
      · exact hHeld.trans (hB.mono hHeld.size)
      clear hK K
      try simp only [Act.put, sQa, sQb, sQc, gQa, gQb, gQc]
      refine wpAnyH_ready (rs := [7, 8, 9]) (by kernel_rfl) (by simp) ?_
      refine AllReadyH.cons (o := _) rfl (fun K hK => ?_) ?_
      · skip
        go_simp
        refine (hI2.out _ (hr0.out.bel hHeld)).mono ?_
        rintro e v7 ⟨rfl, hB⟩
        try have e8 := (hB.block _ (block_lt e8)).trans e8
        try have e9 := (hB.block _ (block_lt e9)).trans e9
        go_wp2_with fail
        refine hK.out _ _ ?_ (fun hHeld => ?_)
        · exact hHeld.trans (hB.mono hHeld.size)
        clear hK K
        try simp only [Act.put, sQa, sQb, sQc, gQa, gQb, gQc]
        refine wpAnyH_ready (rs := [8, 9]) (by kernel_rfl) (by simp) ?_
        refine AllReadyH.cons (o := _) rfl (fun K hK => ?_) ?_
        · skip
          refine step_alloc_rowT rfl 29 rfl z32 info32 ?_
          intro g8 w8 b8 e8 hB
          have m8 := Nat.le_trans hHeld.size b8
          try have n89 := hid (show g8 ≠ g9 from by have := block_lt e9; omega)
          try have e9 := (hB.block _ (block_lt e9)).trans e9
          refine hK.out _ _ ?_ (fun hHeld => ?_)
          · exact hHeld.trans (hB.mono hHeld.size)
          clear hK K
          try simp only [Act.put, sQa, sQb, sQc, gQa, gQb, gQc]
          refine wpAnyH_ready (rs := [9]) (by kernel_rfl) (by simp) ?_
          refine AllReadyH.cons (o := _) rfl (fun K hK => ?_) AllReadyH.nil
          refine step_alloc_rowT rfl 29 rfl z32 info32 ?_
          intro g9 w9 b9 e9 hB
          have m9 := Nat.le_trans hHeld.size b9
          try have n89 := hid (show g8 ≠ g9 from by have := block_lt e8; omega)
          try have e8 := (hB.block _ (block_lt e8)).trans e8
          refine hK.out _ _ ?_ (fun hHeld => ?_)
          · exact hHeld.trans (hB.mono hHeld.size)
          clear hK K
          try simp only [Act.put, sQa, sQb, sQc, gQa, gQb, gQc]
          refine wpAnyH_ready (rs := [10]) (by kernel_rfl) (by simp) ?_
          refine AllReadyH.cons (o := _) rfl (fun K hK => ?_) AllReadyH.nil
          refine step_store_rowT rfl 29 (.tmp 4) (.tmp 23) rfl g8 _ rfl rfl 29 z32 e8 (by rw [zA]; exact size32) (by rw [zA]; exact z32_size) oA ?_
          intro w10 d8 hG
          have e9 := (hG.block _ (block_lt e9) (by intro q; injection q with q; exact n89.out q.symm)).trans e9
          refine hK.out _ _ ?_ (fun hHeld => ?_)
          · exact hHeld.grown hG hHeld.size (by intro k hk; injection hk with hk; omega)
          clear hK K
          try simp only [Act.put, sQa, sQb, sQc, gQa, gQb, gQc]
          refine wpAnyH_ready (rs := [11]) (by kernel_rfl) (by simp) ?_
          refine AllReadyH.cons (o := _) rfl (fun K hK => ?_) AllReadyH.nil
          refine step_store_rowT rfl 29 (.tmp 5) (.tmp 27) rfl g9 _ rfl rfl 29 z32 e9 (by rw [zB]; exact size32) (by rw [zB]; exact z32_size) oB ?_
          intro w11 d9 hG
          have d8 := (hG.block _ (block_lt d8) (by intro q; injection q with q; exact n89.out q)).trans d8
          refine hK.out _ _ ?_ (fun hHeld => ?_)
          · exact hHeld.grown hG hHeld.size (by intro k hk; injection hk with hk; omega)
          clear hK K
          try simp only [Act.put, sQa, sQb, sQc, gQa, gQb, gQc]
          refine wpAnyH_done (by kernel_rfl) ?_ _
          refine NoPanic.normal ?_
          have k8 := hid (rd_blockP (l := da.1) d8)
          have k9 := hid (rd_blockP (l := db.1) d9)
          have R2 := hid ((hHeld.block _ (block_lt h0.out)).trans h0.out)
          have W2 := hid (W0.out.trans (hHeld.mono W0.out.size))
          go_wp2
          refine wp_region_noPanic ?_
          refine wp_region_held_drew (S := fun W' => Below w.heap.size w W') (by kernel_rfl) ?_ (fun hHeld => ?_)
          · exact W2.out.trans ((bel_drew w11).mono W2.out.size)
          refine' wpAnyH_take (i := 0) (oi := _) (v := _) rfl (by kernel_rfl) (by kernel_rfl) (by kernel_rfl) (fun _ _ _ h => h) (yieldsIf_slice (by rfl) _ _ _ _ _ rfl _ _ _ _ _ (fun W => run_all32P _ W) rfl rfl rfl rfl) (by assumption) ?_
          try simp only [Act.put, sQa, sQb, sQc, gQa, gQb, gQc]
          refine' wpAnyH_take (i := 1) (oi := _) (v := _) rfl (by kernel_rfl) (by kernel_rfl) (by kernel_rfl) (fun _ _ _ h => h) (yieldsIf_slice (by rfl) _ _ _ _ _ rfl _ _ _ _ _ (fun W => run_all32P _ W) rfl rfl rfl rfl) (by assumption) ?_
          try simp only [Act.put, sQa, sQb, sQc, gQa, gQb, gQc]
          refine wpAnyH_ready (rs := [2]) (by kernel_rfl) (by simp) ?_
          refine AllReadyH.cons (o := _) rfl (fun K hK => ?_) AllReadyH.nil
          go_simp
          refine (hT.out w11.drew g8 g9 k8.out k9.out).mono ?_
          rintro e v12 ⟨rfl, hB⟩
          have R3 := hid ((hB.block _ (block_lt (show w11.drew.heap[w.heap.size]? = _ from R2.out))).trans R2.out)
          go_wp2_with fail
          refine hK.out _ _ ?_ (fun hHeld => ?_)
          · exact hHeld.trans (hB.mono hHeld.size)
          clear hK K
          try simp only [Act.put, sQa, sQb, sQc, gQa, gQb, gQc]
          refine wpAnyH_ready (rs := [3]) (by kernel_rfl) (by simp) ?_
          refine AllReadyH.cons (o := _) rfl (fun K hK => ?_) AllReadyH.nil
          refine step_store_rowT rfl 29 (.tmp 2) (.tmp 30) rfl w.heap.size _ rfl rfl 29 z32 R3.out (by rw [z1]; exact size32) (by rw [z1]; exact z32_size) o1 ?_
          intro w13 d2 hG
          refine hK.out _ _ ?_ (fun hHeld => ?_)
          · exact hHeld.grown hG hHeld.size (fun g e => by injection e with e; omega)
          clear hK K
          try simp only [Act.put, sQa, sQb, sQc, gQa, gQb, gQc]
          refine wpAnyH_done (by kernel_rfl) ?_ _
          refine NoPanic.normal ?_
          go_wp2
          exact bodyPost_ret (results_cell_row Tryd.results31 _ _ w.heap.size 29 _ (0, 0) _ rfl d2 hu rfl (by rw [z1]; exact size32)) rfl ⟨rfl, hHeld⟩
        refine AllReadyH.cons (o := _) rfl (fun K hK => ?_) ?_
        · skip
          refine step_alloc_rowT rfl 29 rfl z32 info32 ?_
          intro g9 w9 b9 e9 hB
          have m9 := Nat.le_trans hHeld.size b9
          try have n89 := hid (show g8 ≠ g9 from by have := block_lt e8; omega)
          try have e8 := (hB.block _ (block_lt e8)).trans e8
          refine hK.out _ _ ?_ (fun hHeld => ?_)
          · exact hHeld.trans (hB.mono hHeld.size)
          clear hK K
          try simp only [Act.put, sQa, sQb, sQc, gQa, gQb, gQc]
          refine wpAnyH_ready (rs := [8]) (by kernel_rfl) (by simp) ?_
          refine AllReadyH.cons (o := _) rfl (fun K hK => ?_) AllReadyH.nil
          refine step_alloc_rowT rfl 29 rfl z32 info32 ?_
          intro g8 w8 b8 e8 hB
          have m8 := Nat.le_trans hHeld.size b8
          try have n89 := hid (show g8 ≠ g9 from by have := block_lt e9; omega)
          try have e9 := (hB.block _ (block_lt e9)).trans e9
          refine hK.out _ _ ?_ (fun hHeld => ?_)
          · exact hHeld.trans (hB.mono hHeld.size)
          clear hK K
          try simp only [Act.put, sQa, sQb, sQc, gQa, gQb, gQc]
          refine wpAnyH_ready (rs := [10]) (by kernel_rfl) (by simp) ?_
          refine AllReadyH.cons (o := _) rfl (fun K hK => ?_) AllReadyH.nil
          refine step_store_rowT rfl 29 (.tmp 4) (.tmp 23) rfl g8 _ rfl rfl 29 z32 e8 (by rw [zA]; exact size32) (by rw [zA]; exact z32_size) oA ?_
          intro w10 d8 hG
          have e9 := (hG.block _ (block_lt e9) (by intro q; injection q with q; exact n89.out q.symm)).trans e9
          refine hK.out _ _ ?_ (fun hHeld => ?_)
          · exact hHeld.grown hG hHeld.size (by intro k hk; injection hk with hk; omega)
          clear hK K
          try simp only [Act.put, sQa, sQb, sQc, gQa, gQb, gQc]
          refine wpAnyH_ready (rs := [11]) (by kernel_rfl) (by simp) ?_
          refine AllReadyH.cons (o := _) rfl (fun K hK => ?_) AllReadyH.nil
          refine step_store_rowT rfl 29 (.tmp 5) (.tmp 27) rfl g9 _ rfl rfl 29 z32 e9 (by rw [zB]; exact size32) (by rw [zB]; exact z32_size) oB ?_
          intro w11 d9 hG
          have d8 := (hG.block _ (block_lt d8) (by intro q; injection q with q; exact n89.out q)).trans d8
          refine hK.out _ _ ?_ (fun hHeld => ?_)
          · exact hHeld.grown hG hHeld.size (by intro k hk; injection hk with hk; omega)
          clear hK K
          try simp only [Act.put, sQa, sQb, sQc, gQa, gQb, gQc]
          refine wpAnyH_done (by kernel_rfl) ?_ _
          refine NoPanic.normal ?_
          have k8 := hid (rd_blockP (l := da.1) d8)
          have k9 := hid (rd_blockP (l := db.1) d9)
          have R2 := hid ((hHeld.block _ (block_lt h0.out)).trans h0.out)
          have W2 := hid (W0.out.trans (hHeld.mono W0.out.size))
          go_wp2
          refine wp_region_noPanic ?_
          refine wp_region_held_drew (S := fun W' => Below w.heap.size w W') (by kernel_rfl) ?_ (fun hHeld => ?_)
          · exact W2.out.trans ((bel_drew w11).mono W2.out.size)
          refine' wpAnyH_take (i := 0) (oi := _) (v := _) rfl (by kernel_rfl) (by kernel_rfl) (by kernel_rfl) (fun _ _ _ h => h) (yieldsIf_slice (by rfl) _ _ _ _ _ rfl _ _ _ _ _ (fun W => run_all32P _ W) rfl rfl rfl rfl) (by assumption) ?_
          try simp only [Act.put, sQa, sQb, sQc, gQa, gQb, gQc]
          refine' wpAnyH_take (i := 1) (oi := _) (v := _) rfl (by kernel_rfl) (by kernel_rfl) (by kernel_rfl) (fun _ _ _ h => h) (yieldsIf_slice (by rfl) _ _ _ _ _ rfl _ _ _ _ _ (fun W => run_all32P _ W) rfl rfl rfl rfl) (by assumption) ?_
          try simp only [Act.put, sQa, sQb, sQc, gQa, gQb, gQc]
          refine wpAnyH_ready (rs := [2]) (by kernel_rfl) (by simp) ?_
          refine AllReadyH.cons (o := _) rfl (fun K hK => ?_) AllReadyH.nil
          go_simp
          refine (hT.out w11.drew g8 g9 k8.out k9.out).mono ?_
          rintro e v12 ⟨rfl, hB⟩
          have R3 := hid ((hB.block _ (block_lt (show w11.drew.heap[w.heap.size]? = _ from R2.out))).trans R2.out)
          go_wp2_with fail
          refine hK.out _ _ ?_ (fun hHeld => ?_)
          · exact hHeld.trans (hB.mono hHeld.size)
          clear hK K
          try simp only [Act.put, sQa, sQb, sQc, gQa, gQb, gQc]
          refine wpAnyH_ready (rs := [3]) (by kernel_rfl) (by simp) ?_
          refine AllReadyH.cons (o := _) rfl (fun K hK => ?_) AllReadyH.nil
          refine step_store_rowT rfl 29 (.tmp 2) (.tmp 30) rfl w.heap.size _ rfl rfl 29 z32 R3.out (by rw [z1]; exact size32) (by rw [z1]; exact z32_size) o1 ?_
          intro w13 d2 hG
          refine hK.out _ _ ?_ (fun hHeld => ?_)
          · exact hHeld.grown hG hHeld.size (fun g e => by injection e with e; omega)
          clear hK K
          try simp only [Act.put, sQa, sQb, sQc, gQa, gQb, gQc]
          refine wpAnyH_done (by kernel_rfl) ?_ _
          refine NoPanic.normal ?_
          go_wp2
          exact bodyPost_ret (results_cell_row Tryd.results31 _ _ w.heap.size 29 _ (0, 0) _ rfl d2 hu rfl (by rw [z1]; exact size32)) rfl ⟨rfl, hHeld⟩
        exact AllReadyH.nil
      refine AllReadyH.cons (o := _) rfl (fun K hK => ?_) ?_
      · skip
        refine step_alloc_rowT rfl 29 rfl z32 info32 ?_
        intro g8 w8 b8 e8 hB
        have m8 := Nat.le_trans hHeld.size b8
        try have n89 := hid (show g8 ≠ g9 from by have := block_lt e9; omega)
        try have e9 := (hB.block _ (block_lt e9)).trans e9
        refine hK.out _ _ ?_ (fun hHeld => ?_)
        · exact hHeld.trans (hB.mono hHeld.size)
        clear hK K
        try simp only [Act.put, sQa, sQb, sQc, gQa, gQb, gQc]
        refine wpAnyH_ready (rs := [7, 9]) (by kernel_rfl) (by simp) ?_
        refine AllReadyH.cons (o := _) rfl (fun K hK => ?_) ?_
        · skip
          go_simp
          refine (hI2.out _ (hr0.out.bel hHeld)).mono ?_
          rintro e v7 ⟨rfl, hB⟩
          try have e8 := (hB.block _ (block_lt e8)).trans e8
          try have e9 := (hB.block _ (block_lt e9)).trans e9
          go_wp2_with fail
          refine hK.out _ _ ?_ (fun hHeld => ?_)
          · exact hHeld.trans (hB.mono hHeld.size)
          clear hK K
          try simp only [Act.put, sQa, sQb, sQc, gQa, gQb, gQc]
          refine wpAnyH_ready (rs := [9]) (by kernel_rfl) (by simp) ?_
          refine AllReadyH.cons (o := _) rfl (fun K hK => ?_) AllReadyH.nil
          refine step_alloc_rowT rfl 29 rfl z32 info32 ?_
          intro g9 w9 b9 e9 hB
          have m9 := Nat.le_trans hHeld.size b9
          try have n89 := hid (show g8 ≠ g9 from by have := block_lt e8; omega)
          try have e8 := (hB.block _ (block_lt e8)).trans e8
          refine hK.out _ _ ?_ (fun hHeld => ?_)
          · exact hHeld.trans (hB.mono hHeld.size)
          clear hK K
          try simp only [Act.put, sQa, sQb, sQc, gQa, gQb, gQc]
          refine wpAnyH_ready (rs := [10]) (by kernel_rfl) (by simp) ?_
          refine AllReadyH.cons (o := _) rfl (fun K hK => ?_) AllReadyH.nil
          refine step_store_rowT rfl 29 (.tmp 4) (.tmp 23) rfl g8 _ rfl rfl 29 z32 e8 (by rw [zA]; exact size32) (by rw [zA]; exact z32_size) oA ?_
          intro w10 d8 hG
          have e9 := (hG.block _ (block_lt e9) (by intro q; injection q with q; exact n89.out q.symm)).trans e9
          refine hK.out _ _ ?_ (fun hHeld => ?_)
          · exact hHeld.grown hG hHeld.size (by intro k hk; injection hk with hk; omega)
          clear hK K
          try simp only [Act.put, sQa, sQb, sQc, gQa, gQb, gQc]
          refine wpAnyH_ready (rs := [11]) (by kernel_rfl) (by simp) ?_
          refine AllReadyH.cons (o := _) rfl (fun K hK => ?_) AllReadyH.nil
          refine step_store_rowT rfl 29 (.tmp 5) (.tmp 27) rfl g9 _ rfl rfl 29 z32 e9 (by rw [zB]; exact size32) (by rw [zB]; exact z32_size) oB ?_
          intro w11 d9 hG
          have d8 := (hG.block _ (block_lt d8) (by intro q; injection q with q; exact n89.out q)).trans d8
          refine hK.out _ _ ?_ (fun hHeld => ?_)
          · exact hHeld.grown hG hHeld.size (by intro k hk; injection hk with hk; omega)
          clear hK K
          try simp only [Act.put, sQa, sQb, sQc, gQa, gQb, gQc]
          refine wpAnyH_done (by kernel_rfl) ?_ _
          refine NoPanic.normal ?_
          have k8 := hid (rd_blockP (l := da.1) d8)
          have k9 := hid (rd_blockP (l := db.1) d9)
          have R2 := hid ((hHeld.block _ (block_lt h0.out)).trans h0.out)
          have W2 := hid (W0.out.trans (hHeld.mono W0.out.size))
          go_wp2
          refine wp_region_noPanic ?_
          refine wp_region_held_drew (S := fun W' => Below w.heap.size w W') (by kernel_rfl) ?_ (fun hHeld => ?_)
          · exact W2.out.trans ((bel_drew w11).mono W2.out.size)
          refine' wpAnyH_take (i := 0) (oi := _) (v := _) rfl (by kernel_rfl) (by kernel_rfl) (by kernel_rfl) (fun _ _ _ h => h) (yieldsIf_slice (by rfl) _ _ _ _ _ rfl _ _ _ _ _ (fun W => run_all32P _ W) rfl rfl rfl rfl) (by assumption) ?_
          try simp only [Act.put, sQa, sQb, sQc, gQa, gQb, gQc]
          refine' wpAnyH_take (i := 1) (oi := _) (v := _) rfl (by kernel_rfl) (by kernel_rfl) (by kernel_rfl) (fun _ _ _ h => h) (yieldsIf_slice (by rfl) _ _ _ _ _ rfl _ _ _ _ _ (fun W => run_all32P _ W) rfl rfl rfl rfl) (by assumption) ?_
          try simp only [Act.put, sQa, sQb, sQc, gQa, gQb, gQc]
          refine wpAnyH_ready (rs := [2]) (by kernel_rfl) (by simp) ?_
          refine AllReadyH.cons (o := _) rfl (fun K hK => ?_) AllReadyH.nil
          go_simp
          refine (hT.out w11.drew g8 g9 k8.out k9.out).mono ?_
          rintro e v12 ⟨rfl, hB⟩
          have R3 := hid ((hB.block _ (block_lt (show w11.drew.heap[w.heap.size]? = _ from R2.out))).trans R2.out)
          go_wp2_with fail
          refine hK.out _ _ ?_ (fun hHeld => ?_)
          · exact hHeld.trans (hB.mono hHeld.size)
          clear hK K
          try simp only [Act.put, sQa, sQb, sQc, gQa, gQb, gQc]
          refine wpAnyH_ready (rs := [3]) (by kernel_rfl) (by simp) ?_
          refine AllReadyH.cons (o := _) rfl (fun K hK => ?_) AllReadyH.nil
          refine step_store_rowT rfl 29 (.tmp 2) (.tmp 30) rfl w.heap.size _ rfl rfl 29 z32 R3.out (by rw [z1]; exact size32) (by rw [z1]; exact z32_size) o1 ?_
          intro w13 d2 hG
          refine hK.out _ _ ?_ (fun hHeld => ?_)
          · exact hHeld.grown hG hHeld.size (fun g e => by injection e with e; omega)
          clear hK K
          try simp only [Act.put, sQa, sQb, sQc, gQa, gQb, gQc]
          refine wpAnyH_done (by kernel_rfl) ?_ _
          refine NoPanic.normal ?_
          go_wp2
          exact bodyPost_ret (results_cell_row Tryd.results31 _ _ w.heap.size 29 _ (0, 0) _ rfl d2 hu rfl (by rw [z1]; exact size32)) rfl ⟨rfl, hHeld⟩
        refine AllReadyH.cons (o := _) rfl (fun K hK => ?_) ?_
        · skip
          refine step_alloc_rowT rfl 29 rfl z32 info32 ?_
          intro g9 w9 b9 e9 hB
          have m9 := Nat.le_trans hHeld.size b9
          try have n89 := hid (show g8 ≠ g9 from by have := block_lt e8; omega)
          try have e8 := (hB.block _ (block_lt e8)).trans e8
          refine hK.out _ _ ?_ (fun hHeld => ?_)
          · exact hHeld.trans (hB.mono hHeld.size)
          clear hK K
          try simp only [Act.put, sQa, sQb, sQc, gQa, gQb, gQc]
          refine wpAnyH_ready (rs := [7]) (by kernel_rfl) (by simp) ?_
          refine AllReadyH.cons (o := _) rfl (fun K hK => ?_) AllReadyH.nil
          go_simp
          refine (hI2.out _ (hr0.out.bel hHeld)).mono ?_
          rintro e v7 ⟨rfl, hB⟩
          try have e8 := (hB.block _ (block_lt e8)).trans e8
          try have e9 := (hB.block _ (block_lt e9)).trans e9
          go_wp2_with fail
          refine hK.out _ _ ?_ (fun hHeld => ?_)
          · exact hHeld.trans (hB.mono hHeld.size)
          clear hK K
          try simp only [Act.put, sQa, sQb, sQc, gQa, gQb, gQc]
          refine wpAnyH_ready (rs := [10]) (by kernel_rfl) (by simp) ?_
          refine AllReadyH.cons (o := _) rfl (fun K hK => ?_) AllReadyH.nil
          refine step_store_rowT rfl 29 (.tmp 4) (.tmp 23) rfl g8 _ rfl rfl 29 z32 e8 (by rw [zA]; exact size32) (by rw [zA]; exact z32_size) oA ?_
          intro w10 d8 hG
          have e9 := (hG.block _ (block_lt e9) (by intro q; injection q with q; exact n89.out q.symm)).trans e9
          refine hK.out _ _ ?_ (fun hHeld => ?_)
          · exact hHeld.grown hG hHeld.size (by intro k hk; injection hk with hk; omega)
          clear hK K
          try simp only [Act.put, sQa, sQb, sQc, gQa, gQb, gQc]
          refine wpAnyH_ready (rs := [11]) (by kernel_rfl) (by simp) ?_
          refine AllReadyH.cons (o := _) rfl (fun K hK => ?_) AllReadyH.nil
          refine step_store_rowT rfl 29 (.tmp 5) (.tmp 27) rfl g9 _ rfl rfl 29 z32 e9 (by rw [zB]; exact size32) (by rw [zB]; exact z32_size) oB ?_
          intro w11 d9 hG
          have d8 := (hG.block _ (block_lt d8) (by intro q; injection q with q; exact n89.out q)).trans d8
          refine hK.out _ _ ?_ (fun hHeld => ?_)
          · exact hHeld.grown hG hHeld.size (by intro k hk; injection hk with hk; omega)
          clear hK K
          try simp only [Act.put, sQa, sQb, sQc, gQa, gQb, gQc]
          refine wpAnyH_done (by kernel_rfl) ?_ _
          refine NoPanic.normal ?_
          have k8 := hid (rd_blockP (l := da.1) d8)
          have k9 := hid (rd_blockP (l := db.1) d9)
          have R2 := hid ((hHeld.block _ (block_lt h0.out)).trans h0.out)
          have W2 := hid (W0.out.trans (hHeld.mono W0.out.size))
          go_wp2
          refine wp_region_noPanic ?_
          refine wp_region_held_drew (S := fun W' => Below w.heap.size w W') (by kernel_rfl) ?_ (fun hHeld => ?_)
          · exact W2.out.trans ((bel_drew w11).mono W2.out.size)
          refine' wpAnyH_take (i := 0) (oi := _) (v := _) rfl (by kernel_rfl) (by kernel_rfl) (by kernel_rfl) (fun _ _ _ h => h) (yieldsIf_slice (by rfl) _ _ _ _ _ rfl _ _ _ _ _ (fun W => run_all32P _ W) rfl rfl rfl rfl) (by assumption) ?_
          try simp only [Act.put, sQa, sQb, sQc, gQa, gQb, gQc]
          refine' wpAnyH_take (i := 1) (oi := _) (v := _) rfl (by kernel_rfl) (by kernel_rfl) (by kernel_rfl) (fun _ _ _ h => h) (yieldsIf_slice (by rfl) _ _ _ _ _ rfl _ _ _ _ _ (fun W => run_all32P _ W) rfl rfl rfl rfl) (by assumption) ?_
          try simp only [Act.put, sQa, sQb, sQc, gQa, gQb, gQc]
          refine wpAnyH_ready (rs := [2]) (by kernel_rfl) (by simp) ?_
          refine AllReadyH.cons (o := _) rfl (fun K hK => ?_) AllReadyH.nil
          go_simp
          refine (hT.out w11.drew g8 g9 k8.out k9.out).mono ?_
          rintro e v12 ⟨rfl, hB⟩
          have R3 := hid ((hB.block _ (block_lt (show w11.drew.heap[w.heap.size]? = _ from R2.out))).trans R2.out)
          go_wp2_with fail
          refine hK.out _ _ ?_ (fun hHeld => ?_)
          · exact hHeld.trans (hB.mono hHeld.size)
          clear hK K
          try simp only [Act.put, sQa, sQb, sQc, gQa, gQb, gQc]
          refine wpAnyH_ready (rs := [3]) (by kernel_rfl) (by simp) ?_
          refine AllReadyH.cons (o := _) rfl (fun K hK => ?_) AllReadyH.nil
          refine step_store_rowT rfl 29 (.tmp 2) (.tmp 30) rfl w.heap.size _ rfl rfl 29 z32 R3.out (by rw [z1]; exact size32) (by rw [z1]; exact z32_size) o1 ?_
          intro w13 d2 hG
          refine hK.out _ _ ?_ (fun hHeld => ?_)
          · exact hHeld.grown hG hHeld.size (fun g e => by injection e with e; omega)
          clear hK K
          try simp only [Act.put, sQa, sQb, sQc, gQa, gQb, gQc]
          refine wpAnyH_done (by kernel_rfl) ?_ _
          refine NoPanic.normal ?_
          go_wp2
          exact bodyPost_ret (results_cell_row Tryd.results31 _ _ w.heap.size 29 _ (0, 0) _ rfl d2 hu rfl (by rw [z1]; exact size32)) rfl ⟨rfl, hHeld⟩
        exact AllReadyH.nil
      refine AllReadyH.cons (o := _) rfl (fun K hK => ?_) ?_
      · skip
        refine step_alloc_rowT rfl 29 rfl z32 info32 ?_
        intro g9 w9 b9 e9 hB
        have m9 := Nat.le_trans hHeld.size b9
        try have n89 := hid (show g8 ≠ g9 from by have := block_lt e8; omega)
        try have e8 := (hB.block _ (block_lt e8)).trans e8
        refine hK.out _ _ ?_ (fun hHeld => ?_)
        · exact hHeld.trans (hB.mono hHeld.size)
        clear hK K
        try simp only [Act.put, sQa, sQb, sQc, gQa, gQb, gQc]
        refine wpAnyH_ready (rs := [7, 8]) (by kernel_rfl) (by simp) ?_
        refine AllReadyH.cons (o := _) rfl (fun K hK => ?_) ?_
        · skip
          go_simp
          refine (hI2.out _ (hr0.out.bel hHeld)).mono ?_
          rintro e v7 ⟨rfl, hB⟩
          try have e8 := (hB.block _ (block_lt e8)).trans e8
          try have e9 := (hB.block _ (block_lt e9)).trans e9
          go_wp2_with fail
          refine hK.out _ _ ?_ (fun hHeld => ?_)
          · exact hHeld.trans (hB.mono hHeld.size)
          clear hK K
          try simp only [Act.put, sQa, sQb, sQc, gQa, gQb, gQc]
          refine wpAnyH_ready (rs := [8]) (by kernel_rfl) (by simp) ?_
          refine AllReadyH.cons (o := _) rfl (fun K hK => ?_) AllReadyH.nil
          refine step_alloc_rowT rfl 29 rfl z32 info32 ?_
          intro g8 w8 b8 e8 hB
          have m8 := Nat.le_trans hHeld.size b8
          try have n89 := hid (show g8 ≠ g9 from by have := block_lt e9; omega)
          try have e9 := (hB.block _ (block_lt e9)).trans e9
          refine hK.out _ _ ?_ (fun hHeld => ?_)
          · exact hHeld.trans (hB.mono hHeld.size)
          clear hK K
          try simp only [Act.put, sQa, sQb, sQc, gQa, gQb, gQc]
          refine wpAnyH_ready (rs := [10]) (by kernel_rfl) (by simp) ?_
          refine AllReadyH.cons (o := _) rfl (fun K hK => ?_) AllReadyH.nil
          refine step_store_rowT rfl 29 (.tmp 4) (.tmp 23) rfl g8 _ rfl rfl 29 z32 e8 (by rw [zA]; exact size32) (by rw [zA]; exact z32_size) oA ?_
          intro w10 d8 hG
          have e9 := (hG.block _ (block_lt e9) (by intro q; injection q with q; exact n89.out q.symm)).trans e9
          refine hK.out _ _ ?_ (fun hHeld => ?_)
          · exact hHeld.grown hG hHeld.size (by intro k hk; injection hk with hk; omega)
          clear hK K
          try simp only [Act.put, sQa, sQb, sQc, gQa, gQb, gQc]
          refine wpAnyH_ready (rs := [11]) (by kernel_rfl) (by simp) ?_
          refine AllReadyH.cons (o := _) rfl (fun K hK => ?_) AllReadyH.nil
          refine step_store_rowT rfl 29 (.tmp 5) (.tmp 27) rfl g9 _ rfl rfl 29 z32 e9 (by rw [zB]; exact size32) (by rw [zB]; exact z32_size) oB ?_
          intro w11 d9 hG
          have d8 := (hG.block _ (block_lt d8) (by intro q; injection q with q; exact n89.out q)).trans d8
          refine hK.out _ _ ?_ (fun hHeld => ?_)
          · exact hHeld.grown hG hHeld.size (by intro k hk; injection hk with hk; omega)
          clear hK K
          try simp only [Act.put, sQa, sQb, sQc, gQa, gQb, gQc]
          refine wpAnyH_done (by kernel_rfl) ?_ _
          refine NoPanic.normal ?_
          have k8 := hid (rd_blockP (l := da.1) d8)
          have k9 := hid (rd_blockP (l := db.1) d9)
          have R2 := hid ((hHeld.block _ (block_lt h0.out)).trans h0.out)
          have W2 := hid (W0.out.trans (hHeld.mono W0.out.size))
          go_wp2
          refine wp_region_noPanic ?_
          refine wp_region_held_drew (S := fun W' => Below w.heap.size w W') (by kernel_rfl) ?_ (fun hHeld => ?_)
          · exact W2.out.trans ((bel_drew w11).mono W2.out.size)
          refine' wpAnyH_take (i := 0) (oi := _) (v := _) rfl (by kernel_rfl) (by kernel_rfl) (by kernel_rfl) (fun _ _ _ h => h) (yieldsIf_slice (by rfl) _ _ _ _ _ rfl _ _ _ _ _ (fun W => run_all32P _ W) rfl rfl rfl rfl) (by assumption) ?_
          try simp only [Act.put, sQa, sQb, sQc, gQa, gQb, gQc]
          refine' wpAnyH_take (i := 1) (oi := _) (v := _) rfl (by kernel_rfl) (by kernel_rfl) (by kernel_rfl) (fun _ _ _ h => h) (yieldsIf_slice (by rfl) _ _ _ _ _ rfl _ _ _ _ _ (fun W => run_all32P _ W) rfl rfl rfl rfl) (by assumption) ?_
          try simp only [Act.put, sQa, sQb, sQc, gQa, gQb, gQc]
          refine wpAnyH_ready (rs := [2]) (by kernel_rfl) (by simp) ?_
          refine AllReadyH.cons (o := _) rfl (fun K hK => ?_) AllReadyH.nil
          go_simp
          refine (hT.out w11.drew g8 g9 k8.out k9.out).mono ?_
          rintro e v12 ⟨rfl, hB⟩
          have R3 := hid ((hB.block _ (block_lt (show w11.drew.heap[w.heap.size]? = _ from R2.out))).trans R2.out)
          go_wp2_with fail
          refine hK.out _ _ ?_ (fun hHeld => ?_)
          · exact hHeld.trans (hB.mono hHeld.size)
          clear hK K
          try simp only [Act.put, sQa, sQb, sQc, gQa, gQb, gQc]
          refine wpAnyH_ready (rs := [3]) (by kernel_rfl) (by simp) ?_
          refine AllReadyH.cons (o := _) rfl (fun K hK => ?_) AllReadyH.nil
          refine step_store_rowT rfl 29 (.tmp 2) (.tmp 30) rfl w.heap.size _ rfl rfl 29 z32 R3.out (by rw [z1]; exact size32) (by rw [z1]; exact z32_size) o1 ?_
          intro w13 d2 hG
          refine hK.out _ _ ?_ (fun hHeld => ?_)
          · exact hHeld.grown hG hHeld.size (fun g e => by injection e with e; omega)
          clear hK K
          try simp only [Act.put, sQa, sQb, sQc, gQa, gQb, gQc]
          refine wpAnyH_done (by kernel_rfl) ?_ _
          refine NoPanic.normal ?_
          go_wp2
          exact bodyPost_ret (results_cell_row Tryd.results31 _ _ w.heap.size 29 _ (0, 0) _ rfl d2 hu rfl (by rw [z1]; exact size32)) rfl ⟨rfl, hHeld⟩
        refine AllReadyH.cons (o := _) rfl (fun K hK => ?_) ?_
        · skip
          refine step_alloc_rowT rfl 29 rfl z32 info32 ?_
          intro g8 w8 b8 e8 hB
          have m8 := Nat.le_trans hHeld.size b8
          try have n89 := hid (show g8 ≠ g9 from by have := block_lt e9; omega)
          try have e9 := (hB.block _ (block_lt e9)).trans e9
          refine hK.out _ _ ?_ (fun hHeld => ?_)
          · exact hHeld.trans (hB.mono hHeld.size)
          clear hK K
          try simp only [Act.put, sQa, sQb, sQc, gQa, gQb, gQc]
          refine wpAnyH_ready (rs := [7]) (by kernel_rfl) (by simp) ?_
          refine AllReadyH.cons (o := _) rfl (fun K hK => ?_) AllReadyH.nil
          go_simp
          refine (hI2.out _ (hr0.out.bel hHeld)).mono ?_
          rintro e v7 ⟨rfl, hB⟩
          try have e8 := (hB.block _ (block_lt e8)).trans e8
          try have e9 := (hB.block _ (block_lt e9)).trans e9
          go_wp2_with fail
          refine hK.out _ _ ?_ (fun hHeld => ?_)
          · exact hHeld.trans (hB.mono hHeld.size)
          clear hK K
          try simp only [Act.put, sQa, sQb, sQc, gQa, gQb, gQc]
          refine wpAnyH_ready (rs := [10]) (by kernel_rfl) (by simp) ?_
          refine AllReadyH.cons (o := _) rfl (fun K hK => ?_) AllReadyH.nil
          refine step_store_rowT rfl 29 (.tmp 4) (.tmp 23) rfl g8 _ rfl rfl 29 z32 e8 (by rw [zA]; exact size32) (by rw [zA]; exact z32_size) oA ?_
          intro w10 d8 hG
          have e9 := (hG.block _ (block_lt e9) (by intro q; injection q with q; exact n89.out q.symm)).trans e9
          refine hK.out _ _ ?_ (fun hHeld => ?_)
          · exact hHeld.grown hG hHeld.size (by intro k hk; injection hk with hk; omega)
          clear hK K
          try simp only [Act.put, sQa, sQb, sQc, gQa, gQb, gQc]
          refine wpAnyH_ready (rs := [11]) (by kernel_rfl) (by simp) ?_
          refine AllReadyH.cons (o := _) rfl (fun K hK => ?_) AllReadyH.nil
          refine step_store_rowT rfl 29 (.tmp 5) (.tmp 27) rfl g9 _ rfl rfl 29 z32 e9 (by rw [zB]; exact size32) (by rw [zB]; exact z32_size) oB ?_
          intro w11 d9 hG
          have d8 := (hG.block _ (block_lt d8) (by intro q; injection q with q; exact n89.out q)).trans d8
          refine hK.out _ _ ?_ (fun hHeld => ?_)
          · exact hHeld.grown hG hHeld.size (by intro k hk; injection hk with hk; omega)
          clear hK K
          try simp only [Act.put, sQa, sQb, sQc, gQa, gQb, gQc]
          refine wpAnyH_done (by kernel_rfl) ?_ _
          refine NoPanic.normal ?_
          have k8 := hid (rd_blockP (l := da.1) d8)
          have k9 := hid (rd_blockP (l := db.1) d9)
          have R2 := hid ((hHeld.block _ (block_lt h0.out)).trans h0.out)
          have W2 := hid (W0.out.trans (hHeld.mono W0.out.size))
          go_wp2
          refine wp_region_noPanic ?_
          refine wp_region_held_drew (S := fun W' => Below w.heap.size w W') (by kernel_rfl) ?_ (fun hHeld => ?_)
          · exact W2.out.trans ((bel_drew w11).mono W2.out.size)
          refine' wpAnyH_take (i := 0) (oi := _) (v := _) rfl (by kernel_rfl) (by kernel_rfl) (by kernel_rfl) (fun _ _ _ h => h) (yieldsIf_slice (by rfl) _ _ _ _ _ rfl _ _ _ _ _ (fun W => run_all32P _ W) rfl rfl rfl rfl) (by assumption) ?_
          try simp only [Act.put, sQa, sQb, sQc, gQa, gQb, gQc]
          refine' wpAnyH_take (i := 1) (oi := _) (v := _) rfl (by kernel_rfl) (by kernel_rfl) (by kernel_rfl) (fun _ _ _ h => h) (yieldsIf_slice (by rfl) _ _ _ _ _ rfl _ _ _ _ _ (fun W => run_all32P _ W) rfl rfl rfl rfl) (by assumption) ?_
          try simp only [Act.put, sQa, sQb, sQc, gQa, gQb, gQc]
          refine wpAnyH_ready (rs := [2]) (by kernel_rfl) (by simp) ?_
          refine AllReadyH.cons (o := _) rfl (fun K hK => ?_) AllReadyH.nil
          go_simp
          refine (hT.out w11.drew g8 g9 k8.out k9.out).mono ?_
          rintro e v12 ⟨rfl, hB⟩
          have R3 := hid ((hB.block _ (block_lt (show w11.drew.heap[w.heap.size]? = _ from R2.out))).trans R2.out)
          go_wp2_with fail
          refine hK.out _ _ ?_ (fun hHeld => ?_)
          · exact hHeld.trans (hB.mono hHeld.size)
          clear hK K
          try simp only [Act.put, sQa, sQb, sQc, gQa, gQb, gQc]
          refine wpAnyH_ready (rs := [3]) (by kernel_rfl) (by simp) ?_
          refine AllReadyH.cons (o := _) rfl (fun K hK => ?_) AllReadyH.nil
          refine step_store_rowT rfl 29 (.tmp 2) (.tmp 30) rfl w.heap.size _ rfl rfl 29 z32 R3.out (by rw [z1]; exact size32) (by rw [z1]; exact z32_size) o1 ?_
          intro w13 d2 hG
          refine hK.out _ _ ?_ (fun hHeld => ?_)
          · exact hHeld.grown hG hHeld.size (fun g e => by injection e with e; omega)
          clear hK K
          try simp only [Act.put, sQa, sQb, sQc, gQa, gQb, gQc]
          refine wpAnyH_done (by kernel_rfl) ?_ _
          refine NoPanic.normal ?_
          go_wp2
          exact bodyPost_ret (results_cell_row Tryd.results31 _ _ w.heap.size 29 _ (0, 0) _ rfl d2 hu rfl (by rw [z1]; exact size32)) rfl ⟨rfl, hHeld⟩
        exact AllReadyH.nil
      exact AllReadyH.nil
    refine AllReadyH.cons (o := _) rfl (fun K hK => ?_) ?_
    · skip
      refine step_alloc_rowT rfl 29 rfl z32 info32 ?_
      intro g8 w8 b8 e8 hB
      have m8 := Nat.le_trans hHeld.size b8
      try have n89 := hid (show g8 ≠ g9 from by have := block_lt e9; omega)
      try have e9 := (hB.block _ (block_lt e9)).trans e9
      refine hK.out _ _ ?_ (fun hHeld => ?_)
      · exact hHeld.trans (hB.mono hHeld.size)
      clear hK K
      try simp only [Act.put, sQa, sQb, sQc, gQa, gQb, gQc]
      refine wpAnyH_ready (rs := [3, 9]) (by kernel_rfl) (by simp) ?_
      refine AllReadyH.cons (o := _) rfl (fun K hK => ?_) ?_
      · skip
        go_simp
        refine (hI1.out _ (hr0.out.bel hHeld)).mono ?_
        rintro e v3 ⟨rfl, hB⟩
        try have e8 := (hB.block _ (block_lt e8)).trans e8
        try have e9 := (hB.block _ (block_lt e9)).trans e9
        go_wp2_with fail
        refine hK.out _ _ ?_ (fun hHeld => ?_)
        · exact hHeld.trans (hB.mono hHeld.size)
        clear hK K
        try simp only [Act.put, sQa, sQb, sQc, gQa, gQb, gQc]
        refine wpAnyH_ready (rs := [7, 9]) (by kernel_rfl) (by simp) ?_
        refine AllReadyH.cons (o := _) rfl (fun K hK => ?_) ?_
        · skip
          go_simp
          refine (hI2.out _ (hr0.out.bel hHeld)).mono ?_
          rintro e v7 ⟨rfl, hB⟩
          try have e8 := (hB.block _ (block_lt e8)).trans e8
          try have e9 := (hB.block _ (block_lt e9)).trans e9
          go_wp2_with fail
          refine hK.out _ _ ?_ (fun hHeld => ?_)
          · exact hHeld.trans (hB.mono hHeld.size)
          clear hK K
          try simp only [Act.put, sQa, sQb, sQc, gQa, gQb, gQc]
          refine wpAnyH_ready (rs := [9]) (by kernel_rfl) (by simp) ?_
          refine AllReadyH.cons (o := _) rfl (fun K hK => ?_) AllReadyH.nil
          refine step_alloc_rowT rfl 29 rfl z32 info32 ?_
          intro g9 w9 b9 e9 hB
          have m9 := Nat.le_trans hHeld.size b9
          try have n89 := hid (show g8 ≠ g9 from by have := block_lt e8; omega)
          try have e8 := (hB.block _ (block_lt e8)).trans e8
          refine hK.out _ _ ?_ (fun hHeld => ?_)
          · exact hHeld.trans (hB.mono hHeld.size)
          clear hK K
          try simp only [Act.put, sQa, sQb, sQc, gQa, gQb, gQc]
          refine wpAnyH_ready (rs := [10]) (by kernel_rfl) (by simp) ?_
          refine AllReadyH.cons (o := _) rfl (fun K hK => ?_) AllReadyH.nil
          refine step_store_rowT rfl 29 (.tmp 4) (.tmp 23) rfl g8 _ rfl rfl 29 z32 e8 (by rw [zA]; exact size32) (by rw [zA]; exact z32_size) oA ?_
          intro w10 d8 hG
          have e9 := (hG.block _ (block_lt e9) (by intro q; injection q with q; exact n89.out q.symm)).trans e9
          refine hK.out _ _ ?_ (fun hHeld => ?_)
          · exact hHeld.grown hG hHeld.size (by intro k hk; injection hk with hk; omega)
          clear hK K
          try simp only [Act.put, sQa, sQb, sQc, gQa, gQb, gQc]
          refine wpAnyH_ready (rs := [11]) (by kernel_rfl) (by simp) ?_
          refine AllReadyH.cons (o := _) rfl (fun K hK => ?_) AllReadyH.nil
          refine step_store_rowT rfl 29 (.tmp 5) (.tmp 27) rfl g9 _ rfl rfl 29 z32 e9 (by rw [zB]; exact size32) (by rw [zB]; exact z32_size) oB ?_
          intro w11 d9 hG
          have d8 := (hG.block _ (block_lt d8) (by intro q; injection q with q; exact n89.out q)).trans d8
          refine hK.out _ _ ?_ (fun hHeld => ?_)
          · exact hHeld.grown hG hHeld.size (by intro k hk; injection hk with hk; omega)
          clear hK K
          try simp only [Act.put, sQa, sQb, sQc, gQa, gQb, gQc]
          refine wpAnyH_done (by kernel_rfl) ?_ _
          refine NoPanic.normal ?_
          have k8 := hid (rd_blockP (l := da.1) d8)
          have k9 := hid (rd_blockP (l := db.1) d9)
          have R2 := hid ((hHeld.block _ (block_lt h0.out)).trans h0.out)
          have W2 := hid (W0.out.trans (hHeld.mono W0.out.size))
          go_wp2
          refine wp_region_noPanic ?_
          refine wp_region_held_drew (S := fun W' => Below w.heap.size w W') (by kernel_rfl) ?_ (fun hHeld => ?_)
          · exact W2.out.trans ((bel_drew w11).mono W2.out.size)
          refine' wpAnyH_take (i := 0) (oi := _) (v := _) rfl (by kernel_rfl) (by kernel_rfl) (by kernel_rfl) (fun _ _ _ h => h) (yieldsIf_slice (by rfl) _ _ _ _ _ rfl _ _ _ _ _ (fun W => run_all32P _ W) rfl rfl rfl rfl) (by assumption) ?_
          try simp only [Act.put, sQa, sQb, sQc, gQa, gQb, gQc]
          refine' wpAnyH_take (i := 1) (oi := _) (v := _) rfl (by kernel_rfl) (by kernel_rfl) (by kernel_rfl) (fun _ _ _ h => h) (yieldsIf_slice (by rfl) _ _ _ _ _ rfl _ _ _ _ _ (fun W => run_all32P _ W) rfl rfl rfl rfl) (by assumption) ?_
          try simp only [Act.put, sQa, sQb, sQc, gQa, gQb, gQc]
          refine wpAnyH_ready (rs := [2]) (by kernel_rfl) (by simp) ?_
          refine AllReadyH.cons (o := _) rfl (fun K hK => ?_) AllReadyH.nil
          go_simp
          refine (hT.out w11.drew g8 g9 k8.out k9.out).mono ?_
          rintro e v12 ⟨rfl, hB⟩
          have R3 := hid ((hB.block _ (block_lt (show w11.drew.heap[w.heap.size]? = _ from R2.out))).trans R2.out)
          go_wp2_with fail
          refine hK.out _ _ ?_ (fun hHeld => ?_)
          · exact hHeld.trans (hB.mono hHeld.size)
          clear hK K
          try simp only [Act.put, sQa, sQb, sQc, gQa, gQb, gQc]
          refine wpAnyH_ready (rs := [3]) (by kernel_rfl) (by simp) ?_
          refine AllReadyH.cons (o := _) rfl (fun K hK => ?_) AllReadyH.nil
          refine step_store_rowT rfl 29 (.tmp 2) (.tmp 30) rfl w.heap.size _ rfl rfl 29 z32 R3.out (by rw [z1]; exact size32) (by rw [z1]; exact z32_size) o1 ?_
          intro w13 d2 hG
          refine hK.out _ _ ?_ (fun hHeld => ?_)
          · exact hHeld.grown hG hHeld.size (fun g e => by injection e with e; omega)
          clear hK K
          try simp only [Act.put, sQa, sQb, sQc, gQa, gQb, gQc]
          refine wpAnyH_done (by kernel_rfl) ?_ _
          refine NoPanic.normal ?_
          go_wp2
          exact bodyPost_ret (results_cell_row Tryd.results31 _ _ w.heap.size 29 _ (0, 0) _ rfl d2 hu rfl (by rw [z1]; exact size32)) rfl ⟨rfl, hHeld⟩
        refine AllReadyH.cons (o := _) rfl (fun K hK => ?_) ?_
        · skip
          refine step_alloc_rowT rfl 29 rfl z32 info32 ?_
          intro g9 w9 b9 e9 hB
          have m9 := Nat.le_trans hHeld.size b9
          try have n89 := hid (show g8 ≠ g9 from by have := block_lt e8; omega)
          try have e8 := (hB.block _ (block_lt e8)).trans e8
          refine hK.out _ _ ?_ (fun hHeld => ?_)
          · exact hHeld.trans (hB.mono hHeld.size)
          clear hK K
          try simp only [Act.put, sQa, sQb, sQc, gQa, gQb, gQc]
          refine wpAnyH_ready (rs := [7]) (by kernel_rfl) (by simp) ?_
          refine AllReadyH.cons (o := _) rfl (fun K hK => ?_) AllReadyH.nil
          go_simp
          refine (hI2.out _ (hr0.out.bel hHeld)).mono ?_
          rintro e v7 ⟨rfl, hB⟩
          try have e8 := (hB.block _ (block_lt e8)).trans e8
          try have e9 := (hB.block _ (block_lt e9)).trans e9
          go_wp2_with fail
          refine hK.out _ _ ?_ (fun hHeld => ?_)
          · exact hHeld.trans (hB.mono hHeld.size)
          clear hK K
          try simp only [Act.put, sQa, sQb, sQc, gQa, gQb, gQc]
          refine wpAnyH_ready (rs := [10]) (by kernel_rfl) (by simp) ?_
          refine AllReadyH.cons (o := _) rfl (fun K hK => ?_) AllReadyH.nil
          refine step_store_rowT rfl 29 (.tmp 4) (.tmp 23) rfl g8 _ rfl rfl 29 z32 e8 (by rw [zA]; exact size32) (by rw [zA]; exact z32_size) oA ?_
          intro w10 d8 hG
          have e9 := (hG.block _ (block_lt e9) (by intro q; injection q with q; exact n89.out q.symm)).trans e9
          refine hK.out _ _ ?_ (fun hHeld => ?_)
          · exact hHeld.grown hG hHeld.size (by intro k hk; injection hk with hk; omega)
          clear hK K
          try simp only [Act.put, sQa, sQb, sQc, gQa, gQb, gQc]
          refine wpAnyH_ready (rs := [11]) (by kernel_rfl) (by simp) ?_
          refine AllReadyH.cons (o := _) rfl (fun K hK => ?_) AllReadyH.nil
          refine step_store_rowT rfl 29 (.tmp 5) (.tmp 27) rfl g9 _ rfl rfl 29 z32 e9 (by rw [zB]; exact size32) (by rw [zB]; exact z32_size) oB ?_
          intro w11 d9 hG
          have d8 := (hG.block _ (block_lt d8) (by intro q; injection q with q; exact n89.out q)).trans d8
          refine hK.out _ _ ?_ (fun hHeld => ?_)
          · exact hHeld.grown hG hHeld.size (by intro k hk; injection hk with hk; omega)
          clear hK K
          try simp only [Act.put, sQa, sQb, sQc, gQa, gQb, gQc]
          refine wpAnyH_done (by kernel_rfl) ?_ _
          refine NoPanic.normal ?_
          have k8 := hid (rd_blockP (l := da.1) d8)
          have k9 := hid (rd_blockP (l := db.1) d9)
          have R2 := hid ((hHeld.block _ (block_lt h0.out)).trans h0.out)
          have W2 := hid (W0.out.trans (hHeld.mono W0.out.size))
          go_wp2
          refine wp_region_noPanic ?_
          refine wp_region_held_drew (S := fun W' => Below w.heap.size w W') (by kernel_rfl) ?_ (fun hHeld => ?_)
          · exact W2.out.trans ((bel_drew w11).mono W2.out.size)
          refine' wpAnyH_take (i := 0) (oi := _) (v := _) rfl (by kernel_rfl) (by kernel_rfl) (by kernel_rfl) (fun _ _ _ h => h) (yieldsIf_slice (by rfl) _ _ _ _ _ rfl _ _ _ _ _ (fun W => run_all32P _ W) rfl rfl rfl rfl) (by assumption) ?_
          try simp only [Act.put, sQa, sQb, sQc, gQa, gQb, gQc]
          refine' wpAnyH_take (i := 1) (oi := _) (v := _) rfl (by kernel_rfl) (by kernel_rfl) (by kernel_rfl) (fun _ _ _ h => h) (yieldsIf_slice (by rfl) _ _ _ _ _ rfl _ _ _ _ _ (fun W => run_all32P _ W) rfl rfl rfl rfl) (by assumption) ?_
          try simp only [Act.put, sQa, sQb, sQc, gQa, gQb, gQc]
          refine wpAnyH_ready (rs := [2]) (by kernel_rfl) (by simp) ?_
          refine AllReadyH.cons (o := _) rfl (fun K hK => ?_) AllReadyH.nil
          go_simp
          refine (hT.out w11.drew g8 g9 k8.out k9.out).mono ?_
          rintro e v12 ⟨rfl, hB⟩
          have R3 := hid ((hB.block _ (block_lt (show w11.drew.heap[w.heap.size]? = _ from R2.out))).trans R2.out)
          go_wp2_with fail
          refine hK.out _ _ ?_ (fun hHeld => ?_)
          · exact hHeld.trans (hB.mono hHeld.size)
          clear hK K
          try simp only [Act.put, sQa, sQb, sQc, gQa, gQb, gQc]
          refine wpAnyH_ready (rs := [3]) (by kernel_rfl) (by simp) ?_
          refine AllReadyH.cons (o := _) rfl (fun K hK => ?_) AllReadyH.nil
          refine step_store_rowT rfl 29 (.tmp 2) (.tmp 30) rfl w.heap.size _ rfl rfl 29 z32 R3.out (by rw [z1]; exact size32) (by rw [z1]; exact z32_size) o1 ?_
          intro w13 d2 hG
          refine hK.out _ _ ?_ (fun hHeld => ?_)
          · exact hHeld.grown hG hHeld.size (fun g e => by injection e with e; omega)
          clear hK K
          try simp only [Act.put, sQa, sQb, sQc, gQa, gQb, gQc]
          refine wpAnyH_done (by kernel_rfl) ?_ _
          refine NoPanic.normal ?_
          go_wp2
          exact bodyPost_ret (results_cell_row Tryd.results31 _ _ w.heap.size 29 _ (0, 0) _ rfl d2 hu rfl (by rw [z1]; exact size32)) rfl ⟨rfl, hHeld⟩
        exact AllReadyH.nil
      refine AllReadyH.cons (o := _) rfl (fun K hK => ?_) ?_
      · skip
        refine step_alloc_rowT rfl 29 rfl z32 info32 ?_
        intro g9 w9 b9 e9 hB
        have m9 := Nat.le_trans hHeld.size b9
        try have n89 := hid (show g8 ≠ g9 from by have := block_lt e8; omega)
        try have e8 := (hB.block _ (block_lt e8)).trans e8
        refine hK.out _ _ ?_ (fun hHeld => ?_)
        · exact hHeld.trans (hB.mono hHeld.size)
        clear hK K
        try simp only [Act.put, sQa, sQb, sQc, gQa, gQb, gQc]
        refine wpAnyH_ready (rs := [3]) (by kernel_rfl) (by simp) ?_
        refine AllReadyH.cons (o := _) rfl (fun K hK => ?_) AllReadyH.nil
        go_simp
        refine (hI1.out _ (hr0.out.bel hHeld)).mono ?_
        rintro e v3 ⟨rfl, hB⟩
        try have e8 := (hB.block _ (block_lt e8)).trans e8
        try have e9 := (hB.block _ (block_lt e9)).trans e9
        go_wp2_with fail
        refine hK.out _ _ ?_ (fun hHeld => ?_)
        · exact hHeld.trans (hB.mono hHeld.size)
        clear hK K
        try simp only [Act.put, sQa, sQb, sQc, gQa, gQb, gQc]
        refine wpAnyH_ready (rs := [7]) (by kernel_rfl) (by simp) ?_
        refine AllReadyH.cons (o := _) rfl (fun K hK => ?_) AllReadyH.nil
        go_simp
        refine (hI2.out _ (hr0.out.bel hHeld)).mono ?_
        rintro e v7 ⟨rfl, hB⟩
        try have e8 := (hB.block _ (block_lt e8)).trans e8
        try have e9 := (hB.block _ (block_lt e9)).trans e9
        go_wp2_with fail
        refine hK.out _ _ ?_ (fun hHeld => ?_)
        · exact hHeld.trans (hB.mono hHeld.size)
        clear hK K
        try simp only [Act.put, sQa, sQb, sQc, gQa, gQb, gQc]
        refine wpAnyH_ready (rs := [10]) (by kernel_rfl) (by simp) ?_
        refine AllReadyH.cons (o := _) rfl (fun K hK => ?_) AllReadyH.nil
        refine step_store_rowT rfl 29 (.tmp 4) (.tmp 23) rfl g8 _ rfl rfl 29 z32 e8 (by rw [zA]; exact size32) (by rw [zA]; exact z32_size) oA ?_
        intro w10 d8 hG
        have e9 := (hG.block _ (block_lt e9) (by intro q; injection q with q; exact n89.out q.symm)).trans e9
        refine hK.out _ _ ?_ (fun hHeld => ?_)
        · exact hHeld.grown hG hHeld.size (by intro k hk; injection hk with hk; omega)
        clear hK K
        try simp only [Act.put, sQa, sQb, sQc, gQa, gQb, gQc]
        refine wpAnyH_ready (rs := [11]) (by kernel_rfl) (by simp) ?_
        refine AllReadyH.cons (o := _) rfl (fun K hK => ?_) AllReadyH.nil
        refine step_store_rowT rfl 29 (.tmp 5) (.tmp 27) rfl g9 _ rfl rfl 29 z32 e9 (by rw [zB]; exact size32) (by rw [zB]; exact z32_size) oB ?_
        intro w11 d9 hG
        have d8 := (hG.block _ (block_lt d8) (by intro q; injection q with q; exact n89.out q)).trans d8
        refine hK.out _ _ ?_ (fun hHeld => ?_)
        · exact hHeld.grown hG hHeld.size (by intro k hk; injection hk with hk; omega)
        clear hK K
        try simp only [Act.put, sQa, sQb, sQc, gQa, gQb, gQc]
        refine wpAnyH_done (by kernel_rfl) ?_ _
        refine NoPanic.normal ?_
        have k8 := hid (rd_blockP (l := da.1) d8)
        have k9 := hid (rd_blockP (l := db.1) d9)
        have R2 := hid ((hHeld.block _ (block_lt h0.out)).trans h0.out)
        have W2 := hid (W0.out.trans (hHeld.mono W0.out.size))
        go_wp2
        refine wp_region_noPanic ?_
        refine wp_region_held_drew (S := fun W' => Below w.heap.size w W') (by kernel_rfl) ?_ (fun hHeld => ?_)
        · exact W2.out.trans ((bel_drew w11).mono W2.out.size)
        refine' wpAnyH_take (i := 0) (oi := _) (v := _) rfl (by kernel_rfl) (by kernel_rfl) (by kernel_rfl) (fun _ _ _ h => h) (yieldsIf_slice (by rfl) _ _ _ _ _ rfl _ _ _ _ _ (fun W => run_all32P _ W) rfl rfl rfl rfl) (by assumption) ?_
        try simp only [Act.put, sQa, sQb, sQc, gQa, gQb, gQc]
        refine' wpAnyH_take (i := 1) (oi := _) (v := _) rfl (by kernel_rfl) (by kernel_rfl) (by kernel_rfl) (fun _ _ _ h => h) (yieldsIf_slice (by rfl) _ _ _ _ _ rfl _ _ _ _ _ (fun W => run_all32P _ W) rfl rfl rfl rfl) (by assumption) ?_
        try simp only [Act.put, sQa, sQb, sQc, gQa, gQb, gQc]
        refine wpAnyH_ready (rs := [2]) (by kernel_rfl) (by simp) ?_
        refine AllReadyH.cons (o := _) rfl (fun K hK => ?_) AllReadyH.nil
        go_simp
        refine (hT.out w11.drew g8 g9 k8.out k9.out).mono ?_
        rintro e v12 ⟨rfl, hB⟩
        have R3 := hid ((hB.block _ (block_lt (show w11.drew.heap[w.heap.size]? = _ from R2.out))).trans R2.out)
        go_wp2_with fail
        refine hK.out _ _ ?_ (fun hHeld => ?_)
        · exact hHeld.trans (hB.mono hHeld.size)
        clear hK K
        try simp only [Act.put, sQa, sQb, sQc, gQa, gQb, gQc]
        refine wpAnyH_ready (rs := [3]) (by kernel_rfl) (by simp) ?_
        refine AllReadyH.cons (o := _) rfl (fun K hK => ?_) AllReadyH.nil
        refine step_store_rowT rfl 29 (.tmp 2) (.tmp 30) rfl w.heap.size _ rfl rfl 29 z32 R3.out (by rw [z1]; exact size32) (by rw [z1]; exact z32_size) o1 ?_
        intro w13 d2 hG
        refine hK.out _ _ ?_ (fun hHeld => ?_)
        · exact hHeld.grown hG hHeld.size (fun g e => by injection e with e; omega)
        clear hK K
        try simp only [Act.put, sQa, sQb, sQc, gQa, gQb, gQc]
        refine wpAnyH_done (by kernel_rfl) ?_ _
        refine NoPanic.normal ?_
        go_wp2
        exact bodyPost_ret (results_cell_row Tryd.results31 _ _ w.heap.size 29 _ (0, 0) _ rfl d2 hu rfl (by rw [z1]; exact size32)) rfl ⟨rfl, hHeld⟩
      exact AllReadyH.nil
    refine AllReadyH.cons (o := _) rfl (fun K hK => ?_) ?_
    · skip
      refine step_alloc_rowT rfl 29 rfl z32 info32 ?_
      intro g9 w9 b9 e9 hB
      have m9 := Nat.le_trans hHeld.size b9
      try have n89 := hid (show g8 ≠ g9 from by have := block_lt e8; omega)
      try have e8 := (hB.block _ (block_lt e8)).trans e8
      refine hK.out _ _ ?_ (fun hHeld => ?_)
      · exact hHeld.trans (hB.mono hHeld.size)
      clear hK K
      try simp only [Act.put, sQa, sQb, sQc, gQa, gQb, gQc]
      refine wpAnyH_ready (rs := [3, 8]) (by kernel_rfl) (by simp) ?_
      refine AllReadyH.cons (o := _) rfl (fun K hK => ?_) ?_
      · skip
        go_simp
        refine (hI1.out _ (hr0.out.bel hHeld)).mono ?_
        rintro e v3 ⟨rfl, hB⟩
        try have e8 := (hB.block _ (block_lt e8)).trans e8
        try have e9 := (hB.block _ (block_lt e9)).trans e9
        go_wp2_with fail
        refine hK.out _ _ ?_ (fun hHeld => ?_)
        · exact hHeld.trans (hB.mono hHeld.size)
        clear hK K
        try simp only [Act.put, sQa, sQb, sQc, gQa, gQb, gQc]
        refine wpAnyH_ready (rs := [7, 8]) (by kernel_rfl) (by simp) ?_
        refine AllReadyH.cons (o := _) rfl (fun K hK => ?_) ?_
        · skip
          go_simp
          refine (hI2.out _ (hr0.out.bel hHeld)).mono ?_
          rintro e v7 ⟨rfl, hB⟩
          try have e8 := (hB.block _ (block_lt e8)).trans e8
          try have e9 := (hB.block _ (block_lt e9)).trans e9
          go_wp2_with fail
          refine hK.out _ _ ?_ (fun hHeld => ?_)
          · exact hHeld.trans (hB.mono hHeld.size)
          clear hK K
          try simp only [Act.put, sQa, sQb, sQc, gQa, gQb, gQc]
          refine wpAnyH_ready (rs := [8]) (by kernel_rfl) (by simp) ?_
          refine AllReadyH.cons (o := _) rfl (fun K hK => ?_) AllReadyH.nil
          refine step_alloc_rowT rfl 29 rfl z32 info32 ?_
          intro g8 w8 b8 e8 hB
          have m8 := Nat.le_trans hHeld.size b8
          try have n89 := hid (show g8 ≠ g9 from by have := block_lt e9; omega)
          try have e9 := (hB.block _ (block_lt e9)).trans e9
          refine hK.out _ _ ?_ (fun hHeld => ?_)
          · exact hHeld.trans (hB.mono hHeld.size)
          clear hK K
          try simp only [Act.put, sQa, sQb, sQc, gQa, gQb, gQc]
          refine wpAnyH_ready (rs := [10]) (by kernel_rfl) (by simp) ?_
          refine AllReadyH.cons (o := _) rfl (fun K hK => ?_) AllReadyH.nil
          refine step_store_rowT rfl 29 (.tmp 4) (.tmp 23) rfl g8 _ rfl rfl 29 z32 e8 (by rw [zA]; exact size32) (by rw [zA]; exact z32_size) oA ?_
          intro w10 d8 hG
          have e9 := (hG.block _ (block_lt e9) (by intro q; injection q with q; exact n89.out q.symm)).trans e9
          refine hK.out _ _ ?_ (fun hHeld => ?_)
          · exact hHeld.grown hG hHeld.size (by intro k hk; injection hk with hk; omega)
          clear hK K
          try simp only [Act.put, sQa, sQb, sQc, gQa, gQb, gQc]
          refine wpAnyH_ready (rs := [11]) (by kernel_rfl) (by simp) ?_
          refine AllReadyH.cons (o := _) rfl (fun K hK => ?_) AllReadyH.nil
          refine step_store_rowT rfl 29 (.tmp 5) (.tmp 27) rfl g9 _ rfl rfl 29 z32 e9 (by rw [zB]; exact size32) (by rw [zB]; exact z32_size) oB ?_
          intro w11 d9 hG
          have d8 := (hG.block _ (block_lt d8) (by intro q; injection q with q; exact n89.out q)).trans d8
          refine hK.out _ _ ?_ (fun hHeld => ?_)
          · exact hHeld.grown hG hHeld.size (by intro k hk; injection hk with hk; omega)
          clear hK K
          try simp only [Act.put, sQa, sQb, sQc, gQa, gQb, gQc]
          refine wpAnyH_done (by kernel_rfl) ?_ _
          refine NoPanic.normal ?_
          have k8 := hid (rd_blockP (l := da.1) d8)
          have k9 := hid (rd_blockP (l := db.1) d9)
          have R2 := hid ((hHeld.block _ (block_lt h0.out)).trans h0.out)
          have W2 := hid (W0.out.trans (hHeld.mono W0.out.size))
          go_wp2
          refine wp_region_noPanic ?_
          refine wp_region_held_drew (S := fun W' => Below w.heap.size w W') (by kernel_rfl) ?_ (fun hHeld => ?_)
          · exact W2.out.trans ((bel_drew w11).mono W2.out.size)
          refine' wpAnyH_take (i := 0) (oi := _) (v := _) rfl (by kernel_rfl) (by kernel_rfl) (by kernel_rfl) (fun _ _ _ h => h) (yieldsIf_slice (by rfl) _ _ _ _ _ rfl _ _ _ _ _ (fun W => run_all32P _ W) rfl rfl rfl rfl) (by assumption) ?_
          try simp only [Act.put, sQa, sQb, sQc, gQa, gQb, gQc]
          refine' wpAnyH_take (i := 1) (oi := _) (v := _) rfl (by kernel_rfl) (by kernel_rfl) (by kernel_rfl) (fun _ _ _ h => h) (yieldsIf_slice (by rfl) _ _ _ _ _ rfl _ _ _ _ _ (fun W => run_all32P _ W) rfl rfl rfl rfl) (by assumption) ?_
          try simp only [Act.put, sQa, sQb, sQc, gQa, gQb, gQc]
          refine wpAnyH_ready (rs := [2]) (by kernel_rfl) (by simp) ?_
          refine AllReadyH.cons (o := _) rfl (fun K hK => ?_) AllReadyH.nil
          go_simp
          refine (hT.out w11.drew g8 g9 k8.out k9.out).mono ?_
          rintro e v12 ⟨rfl, hB⟩
          have R3 := hid ((hB.block _ (block_lt (show w11.drew.heap[w.heap.size]? = _ from R2.out))).trans R2.out)
          go_wp2_with fail
          refine hK.out _ _ ?_ (fun hHeld => ?_)
          · exact hHeld.trans (hB.mono hHeld.size)
          clear hK K
          try simp only [Act.put, sQa, sQb, sQc, gQa, gQb, gQc]
          refine wpAnyH_ready (rs := [3]) (by kernel_rfl) (by simp) ?_
          refine AllReadyH.cons (o := _) rfl (fun K hK => ?_) AllReadyH.nil
          refine step_store_rowT rfl 29 (.tmp 2) (.tmp 30) rfl w.heap.size _ rfl rfl 29 z32 R3.out (by rw [z1]; exact size32) (by rw [z1]; exact z32_size) o1 ?_
          intro w13 d2 hG
          refine hK.out _ _ ?_ (fun hHeld => ?_)
          · exact hHeld.grown hG hHeld.size (fun g e => by injection e with e; omega)
          clear hK K
          try simp only [Act.put, sQa, sQb, sQc, gQa, gQb, gQc]
          refine wpAnyH_done (by kernel_rfl) ?_ _
          refine NoPanic.normal ?_
          go_wp2
          exact bodyPost_ret (results_cell_row Tryd.results31 _ _ w.heap.size 29 _ (0, 0) _ rfl d2 hu rfl (by rw [z1]; exact size32)) rfl ⟨rfl, hHeld⟩
        refine AllReadyH.cons (o := _) rfl (fun K hK => ?_) ?_
        · skip
          refine step_alloc_rowT rfl 29 rfl z32 info32 ?_
          intro g8 w8 b8 e8 hB
          have m8 := Nat.le_trans hHeld.size b8
          try have n89 := hid (show g8 ≠ g9 from by have := block_lt e9; omega)
          try have e9 := (hB.block _ (block_lt e9)).trans e9
          refine hK.out _ _ ?_ (fun hHeld => ?_)
          · exact hHeld.trans (hB.mono hHeld.size)
          clear hK K
          try simp only [Act.put, sQa, sQb, sQc, gQa, gQb, gQc]
          refine wpAnyH_ready (rs := [7]) (by kernel_rfl) (by simp) ?_
          refine AllReadyH.cons (o := _) rfl (fun K hK => ?_) AllReadyH.nil
          go_simp
          refine (hI2.out _ (hr0.out.bel hHeld)).mono ?_
          rintro e v7 ⟨rfl, hB⟩
          try have e8 := (hB.block _ (block_lt e8)).trans e8
          try have e9 := (hB.block _ (block_lt e9)).trans e9
          go_wp2_with fail
          refine hK.out _ _ ?_ (fun hHeld => ?_)
          · exact hHeld.trans (hB.mono hHeld.size)
          clear hK K
          try simp only [Act.put, sQa, sQb, sQc, gQa, gQb, gQc]
          refine wpAnyH_ready (rs := [10]) (by kernel_rfl) (by simp) ?_
          refine AllReadyH.cons (o := _) rfl (fun K hK => ?_) AllReadyH.nil
          refine step_store_rowT rfl 29 (.tmp 4) (.tmp 23) rfl g8 _ rfl rfl 29 z32 e8 (by rw [zA]; exact size32) (by rw [zA]; exact z32_size) oA ?_
          intro w10 d8 hG
          have e9 := (hG.block _ (block_lt e9) (by intro q; injection q with q; exact n89.out q.symm)).trans e9
          refine hK.out _ _ ?_ (fun hHeld => ?_)
          · exact hHeld.grown hG hHeld.size (by intro k hk; injection hk with hk; omega)
          clear hK K
          try simp only [Act.put, sQa, sQb, sQc, gQa, gQb, gQc]
          refine wpAnyH_ready (rs := [11]) (by kernel_rfl) (by simp) ?_
          refine AllReadyH.cons (o := _) rfl (fun K hK => ?_) AllReadyH.nil
          refine step_store_rowT rfl 29 (.tmp 5) (.tmp 27) rfl g9 _ rfl rfl 29 z32 e9 (by rw [zB]; exact size32) (by rw [zB]; exact z32_size) oB ?_
          intro w11 d9 hG
          have d8 := (hG.block _ (block_lt d8) (by intro q; injection q with q; exact n89.out q)).trans d8
          refine hK.out _ _ ?_ (fun hHeld => ?_)
          · exact hHeld.grown hG hHeld.size (by intro k hk; injection hk with hk; omega)
          clear hK K
          try simp only [Act.put, sQa, sQb, sQc, gQa, gQb, gQc]
          refine wpAnyH_done (by kernel_rfl) ?_ _
          refine NoPanic.normal ?_
          have k8 := hid (rd_blockP (l := da.1) d8)
          have k9 := hid (rd_blockP (l := db.1) d9)
          have R2 := hid ((hHeld.block _ (block_lt h0.out)).trans h0.out)
          have W2 := hid (W0.out.trans (hHeld.mono W0.out.size))
          go_wp2
          refine wp_region_noPanic ?_
          refine wp_region_held_drew (S := fun W' => Below w.heap.size w W') (by kernel_rfl) ?_ (fun hHeld => ?_)
          · exact W2.out.trans ((bel_drew w11).mono W2.out.size)
          refine' wpAnyH_take (i := 0) (oi := _) (v := _) rfl (by kernel_rfl) (by kernel_rfl) (by kernel_rfl) (fun _ _ _ h => h) (yieldsIf_slice (by rfl) _ _ _ _ _ rfl _ _ _ _ _ (fun W => run_all32P _ W) rfl rfl rfl rfl) (by assumption) ?_
          try simp only [Act.put, sQa, sQb, sQc, gQa, gQb, gQc]
          refine' wpAnyH_take (i := 1) (oi := _) (v := _) rfl (by kernel_rfl) (by kernel_rfl) (by kernel_rfl) (fun _ _ _ h => h) (yieldsIf_slice (by rfl) _ _ _ _ _ rfl _ _ _ _ _ (fun W => run_all32P _ W) rfl rfl rfl rfl) (by assumption) ?_
          try simp only [Act.put, sQa, sQb, sQc, gQa, gQb, gQc]
          refine wpAnyH_ready (rs := [2]) (by kernel_rfl) (by simp) ?_
          refine AllReadyH.cons (o := _) rfl (fun K hK => ?_) AllReadyH.nil
          go_simp
          refine (hT.out w11.drew g8 g9 k8.out k9.out).mono ?_
          rintro e v12 ⟨rfl, hB⟩
          have R3 := hid ((hB.block _ (block_lt (show w11.drew.heap[w.heap.size]? = _ from R2.out))).trans R2.out)
          go_wp2_with fail
          refine hK.out _ _ ?_ (fun hHeld => ?_)
          · exact hHeld.trans (hB.mono hHeld.size)
          clear hK K
          try simp only [Act.put, sQa, sQb, sQc, gQa, gQb, gQc]
          refine wpAnyH_ready (rs := [3]) (by kernel_rfl) (by simp) ?_
          refine AllReadyH.cons (o := _) rfl (fun K hK => ?_) AllReadyH.nil
          refine step_store_rowT rfl 29 (.tmp 2) (.tmp 30) rfl w.heap.size _ rfl rfl 29 z32 R3.out (by rw [z1]; exact size32) (by rw [z1]; exact z32_size) o1 ?_
          intro w13 d2 hG
          refine hK.out _ _ ?_ (fun hHeld => ?_)
          · exact hHeld.grown hG hHeld.size (fun g e => by injection e with e; omega)
          clear hK K
          try simp only [Act.put, sQa, sQb, sQc, gQa, gQb, gQc]
          refine wpAnyH_done (by kernel_rfl) ?_ _
          refine NoPanic.normal ?_
          go_wp2
          exact bodyPost_ret (results_cell_row Tryd.results31 _ _ w.heap.size 29 _ (0, 0) _ rfl d2 hu rfl (by rw [z1]; exact size32)) rfl ⟨rfl, hHeld⟩
        exact AllReadyH.nil
      refine AllReadyH.cons (o := _) rfl (fun K hK => ?_) ?_
      · skip
        refine step_alloc_rowT rfl 29 rfl z32 info32 ?_
        intro g8 w8 b8 e8 hB
        have m8 := Nat.le_trans hHeld.size b8
        try have n89 := hid (show g8 ≠ g9 from by have := block_lt e9; omega)
        try have e9 := (hB.block _ (block_lt e9)).trans e9
        refine hK.out _ _ ?_ (fun hHeld => ?_)
        · exact hHeld.trans (hB.mono hHeld.size)
        clear hK K
        try simp only [Act.put, sQa, sQb, sQc, gQa, gQb, gQc]
        refine wpAnyH_ready (rs := [3]) (by kernel_rfl) (by simp) ?_
        refine AllReadyH.cons (o := _) rfl (fun K hK => ?_) AllReadyH.nil
        go_simp
        refine (hI1.out _ (hr0.out.bel hHeld)).mono ?_
        rintro e v3 ⟨rfl, hB⟩
        try have e8 := (hB.block _ (block_lt e8)).trans e8
        try have e9 := (hB.block _ (block_lt e9)).trans e9
        go_wp2_with fail
        refine hK.out _ _ ?_ (fun hHeld => ?_)
        · exact hHeld.trans (hB.mono hHeld.size)
        clear hK K
        try simp only [Act.put, sQa, sQb, sQc, gQa, gQb, gQc]
        refine wpAnyH_ready (rs := [7]) (by kernel_rfl) (by simp) ?_
        refine AllReadyH.cons (o := _) rfl (fun K hK => ?_) AllReadyH.nil
        go_simp
        refine (hI2.out _ (hr0.out.bel hHeld)).mono ?_
        rintro e v7 ⟨rfl, hB⟩
        try have e8 := (hB.block _ (block_lt e8)).trans e8
        try have e9 := (hB.block _ (block_lt e9)).trans e9
        go_wp2_with fail
        refine hK.out _ _ ?_ (fun hHeld => ?_)
        · exact hHeld.trans (hB.mono hHeld.size)
        clear hK K
        try simp only [Act.put, sQa, sQb, sQc, gQa, gQb, gQc]
        refine wpAnyH_ready (rs := [10]) (by kernel_rfl) (by simp) ?_
        refine AllReadyH.cons (o := _) rfl (fun K hK => ?_) AllReadyH.nil
        refine step_store_rowT rfl 29 (.tmp 4) (.tmp 23) rfl g8 _ rfl rfl 29 z32 e8 (by rw [zA]; exact size32) (by rw [zA]; exact z32_size) oA ?_
        intro w10 d8 hG
        have e9 := (hG.block _ (block_lt e9) (by intro q; injection q with q; exact n89.out q.symm)).trans e9
        refine hK.out _ _ ?_ (fun hHeld => ?_)
        · exact hHeld.grown hG hHeld.size (by intro k hk; injection hk with hk; omega)
        clear hK K
        try simp only [Act.put, sQa, sQb, sQc, gQa, gQb, gQc]
        refine wpAnyH_ready (rs := [11]) (by kernel_rfl) (by simp) ?_
        refine AllReadyH.cons (o := _) rfl (fun K hK => ?_) AllReadyH.nil
        refine step_store_rowT rfl 29 (.tmp 5) (.tmp 27) rfl g9 _ rfl rfl 29 z32 e9 (by rw [zB]; exact size32) (by rw [zB]; exact z32_size) oB ?_
        intro w11 d9 hG
        have d8 := (hG.block _ (block_lt d8) (by intro q; injection q with q; exact n89.out q)).trans d8
        refine hK.out _ _ ?_ (fun hHeld => ?_)
        · exact hHeld.grown hG hHeld.size (by intro k hk; injection hk with hk; omega)
        clear hK K
        try simp only [Act.put, sQa, sQb, sQc, gQa, gQb, gQc]
        refine wpAnyH_done (by kernel_rfl) ?_ _
        refine NoPanic.normal ?_
        have k8 := hid (rd_blockP (l := da.1) d8)
        have k9 := hid (rd_blockP (l := db.1) d9)
        have R2 := hid ((hHeld.block _ (block_lt h0.out)).trans h0.out)
        have W2 := hid (W0.out.trans (hHeld.mono W0.out.size))
        go_wp2
        refine wp_region_noPanic ?_
        refine wp_region_held_drew (S := fun W' => Below w.heap.size w W') (by kernel_rfl) ?_ (fun hHeld => ?_)
        · exact W2.out.trans ((bel_drew w11).mono W2.out.size)
        refine' wpAnyH_take (i := 0) (oi := _) (v := _) rfl (by kernel_rfl) (by kernel_rfl) (by kernel_rfl) (fun _ _ _ h => h) (yieldsIf_slice (by rfl) _ _ _ _ _ rfl _ _ _ _ _ (fun W => run_all32P _ W) rfl rfl rfl rfl) (by assumption) ?_
        try simp only [Act.put, sQa, sQb, sQc, gQa, gQb, gQc]
        refine' wpAnyH_take (i := 1) (oi := _) (v := _) rfl (by kernel_rfl) (by kernel_rfl) (by kernel_rfl) (fun _ _ _ h => h) (yieldsIf_slice (by rfl) _ _ _ _ _ rfl _ _ _ _ _ (fun W => run_all32P _ W) rfl rfl rfl rfl) (by assumption) ?_
        try simp only [Act.put, sQa, sQb, sQc, gQa, gQb, gQc]
        refine wpAnyH_ready (rs := [2]) (by kernel_rfl) (by simp) ?_
        refine AllReadyH.cons (o := _) rfl (fun K hK => ?_) AllReadyH.nil
        go_simp
        refine (hT.out w11.drew g8 g9 k8.out k9.out).mono ?_
        rintro e v12 ⟨rfl, hB⟩
        have R3 := hid ((hB.block _ (block_lt (show w11.drew.heap[w.heap.size]? = _ from R2.out))).trans R2.out)
        go_wp2_with fail
        refine hK.out _ _ ?_ (fun hHeld => ?_)
        · exact hHeld.trans (hB.mono hHeld.size)
        clear hK K
        try simp only [Act.put, sQa, sQb, sQc, gQa, gQb, gQc]
        refine wpAnyH_ready (rs := [3]) (by kernel_rfl) (by simp) ?_
        refine AllReadyH.cons (o := _) rfl (fun K hK => ?_) AllReadyH.nil
        refine step_store_rowT rfl 29 (.tmp 2) (.tmp 30) rfl w.heap.size _ rfl rfl 29 z32 R3.out (by rw [z1]; exact size32) (by rw [z1]; exact z32_size) o1 ?_
        intro w13 d2 hG
        refine hK.out _ _ ?_ (fun hHeld => ?_)
        · exact hHeld.grown hG hHeld.size (fun g e => by injection e with e; omega)
        clear hK K
        try simp only [Act.put, sQa, sQb, sQc, gQa, gQb, gQc]
        refine wpAnyH_done (by kernel_rfl) ?_ _
        refine NoPanic.normal ?_
        go_wp2
        exact bodyPost_ret (results_cell_row Tryd.results31 _ _ w.heap.size 29 _ (0, 0) _ rfl d2 hu rfl (by rw [z1]; exact size32)) rfl ⟨rfl, hHeld⟩
      exact AllReadyH.nil
    exact AllReadyH.nil
theorem ROfR_any (k : Nat) : ∀ (A : Option Addr) (c : Nat) (ls : List (List UInt8)) (w : World), ls.length ≤ k → Rds w A ls → ls.length ≤ c → c ≤ maxLen → (∀ x ∈ ls, x.length ≤ 5000) → ls.length ≤ 1000000 →
    Calls Tryd.prog 31 #[.slice A ls.length c] w fun e w' => e = .returned (.agg ((rootR ls).1.map bv).toArray) ∧ Below w.heap.size w w' := by
  induction k with
  | zero => exact fun A c ls w hk hr hc hm hx hl => ROfR_step A c ls w (fun _ _ _ _ h => by omega) hr hc hm hx hl
  | succ k ih => exact fun A c ls w hk hr hc hm hx hl => ROfR_step A c ls w (fun A c ms w h hr hc hm hx => ih A c ms w (by omega) hr hc hm hx (by omega)) hr hc hm hx hl
end Go.Proofs.YtgmlmkhiflnhdaaDoor
