/-
  The document's answers for layer 4: bits of keys.
-/
import Derived.Test.YtcnehjnphfmhjaaKeyP
import Derived.Test.YtcnehjnphfmhjaaDig
import Derived.Test.YtcnehjnphfmhjaaHeld
import Derived.IntWalk
namespace Go.Proofs.Ytcnehjnphfmhjaa
open Go.RowKit
set_option linter.unusedVariables false
set_option linter.unusedSimpArgs false

theorem dcell (ds : Array Value) (t : TypeId) (w : World) (m : Nat) : (w.alloc (.cells ds t)).cell? ⟨w.heap.size, m, none⟩ = ds[m]? := cell_of_row _ _ _ _ _ (0, 0) (heap_alloc_new w _)
theorem dget (l : List UInt8) (m : Nat) (hm : m < l.length) : (l.map bv).toArray[m]? = some (.int .u8 ((l.getD m 0).toNat : Int)) := by
  simp [bv, List.getD, hm]

theorem tdiv8 (i : Nat) : (i : Int).tdiv 8 = ((i / 8 : Nat) : Int) := by rw [Int.tdiv_eq_ediv_of_nonneg (by omega)]; omega
theorem tmod8 (i : Nat) : (i : Int).tmod 8 = ((i % 8 : Nat) : Int) := by rw [Int.tmod_eq_emod_of_nonneg (by omega)]; omega
theorem tdiv2 (i : Nat) : (i : Int).tdiv 2 = ((i / 2 : Nat) : Int) := by rw [Int.tdiv_eq_ediv_of_nonneg (by omega)]; omega
theorem tmod2 (i : Nat) : (i : Int).tmod 2 = ((i % 2 : Nat) : Int) := by rw [Int.tmod_eq_emod_of_nonneg (by omega)]; omega

set_option maxRecDepth 100000 in
set_option maxHeartbeats 800000 in
theorem At_any (l : List UInt8) (i : Nat) (w : World) (hl : l.length = 32) (hi : i < 256) :
    Calls Try.prog 21 #[.agg (l.map bv).toArray, .int .i64 (i : Int)] w fun r w' => r = .returned (.int .u8 (kb l i : Int)) ∧ Below w.heap.size w w' := by
  obtain ⟨c, hc⟩ : ∃ c, (l.getD (i / 8) 0).toNat = c := ⟨_, rfl⟩
  have hcl : c < 256 := by have := (l.getD (i / 8) 0).toNat_lt; omega
  have hcell := dcell (l.map bv).toArray 26 w (i / 8)
  rw [dget l (i / 8) (by omega), hc] at hcell
  have hk : kb l i = c / 2 ^ (7 - i % 8) % 2 := by unfold kb; rw [hc]
  rw [hk]
  clear hk hc
  obtain ⟨ds, hds⟩ : ∃ ds, ds = (l.map bv).toArray := ⟨_, rfl⟩
  have hsz : ds.size = 32 := by rw [hds]; simp [hl]
  rw [← hds] at hcell ⊢
  replace hds := hid hds
  have q1 := tdiv8 i
  have q2 := tmod8 i
  have q3 : i / 8 < 32 := by omega
  have q4 : i % 8 < 8 := Nat.mod_lt _ (by omega)
  generalize i / 8 = q at *
  generalize i % 8 = p at *
  go_enter Try.func21, Try.ntmps21
  go_wp2
  go_loopw [5, 6] (fun v j wr => ∃ k : Nat, k ≤ 7 - p ∧ v = .int .u8 ((c / 2 ^ k : Nat) : Int) ∧ j = .int .i64 ((7 - k : Nat) : Int) ∧ Below w.heap.size w wr) (fun _ j _ => (intOf j).toNat)
  case atStart => exact ⟨0, Nat.zero_le _, by simp, rfl, ext_alloc _ _⟩
  case round =>
    obtain ⟨k, hk, rfl, rfl, hb⟩ := hrel
    have hx : c / 2 ^ k < 256 := Nat.lt_of_le_of_lt (Nat.div_le_self _ _) hcl
    have hs : c / 2 ^ (k + 1) = c / 2 ^ k / 2 := by rw [Nat.pow_succ, ← Nat.div_div_eq_div_mul]
    have hy : 7 - p = k → c / 2 ^ (7 - p) % 2 = c / 2 ^ k % 2 := fun h => by rw [h]
    by_cases hlt : k < 7 - p
    · have d2 := tdiv2 (c / 2 ^ k)
      replace hs := hid hs
      generalize c / 2 ^ k = x at *
      clear hy
      go_wp2
      go_roundw
      case rel => exact ⟨k + 1, by omega, by rw [hs.out]; simp, by congr 1; omega, hb⟩
      case measure => simp [intOf]; omega
    · have hy2 := hid (hy (by omega))
      have d2 := tmod2 (c / 2 ^ k)
      clear hs hy
      generalize c / 2 ^ k = x at *
      go_wp2
      go_ret
      rw [hy2.out]
      exact ⟨by simp, hb⟩

set_option maxRecDepth 100000 in
set_option maxHeartbeats 800000 in
theorem RBit_any (l : List UInt8) (i : Int) (w : World) (hl : l.length = 32) :
    Calls Try.prog 12 #[.agg (l.map bv).toArray, .int .i64 i] w fun r w' => r = .returned (.tuple #[.int .u8 (bitV l i : Int), .int .i64 (bitE i)]) ∧ Below w.heap.size w w' := by
  obtain ⟨ds, hds⟩ : ∃ ds, ds = (l.map bv).toArray := ⟨_, rfl⟩
  have hsz : ds.size = 32 := by rw [hds]; simp [hl]
  have hd1 := heap_alloc_new w (.cells ds 26)
  unfold bitV bitE
  rw [← hds]
  replace hds := hid hds
  by_cases h : 0 ≤ i ∧ i < 256
  · rw [if_pos h, if_pos h]
    obtain ⟨h1, h2⟩ := h
    obtain ⟨n, rfl⟩ := Int.eq_ofNat_of_zero_le h1
    go_enter Try.func12, Try.ntmps12
    go_wp2_with (first
      | ((with_reducible refine wpList_load_row rfl 26 (.tmp 2) rfl w.heap.size rfl 26 ds (0, 0) _ ?_ Try.underlying26 rfl ?_ ?_); exact hd1; (rw [hsz]; exact size32)))
    have ha := At_any l n (w.alloc (.cells ds 26)) hl (by omega)
    rw [← hds.out] at ha
    refine ha.mono ?_
    rintro e w1 ⟨rfl, hb⟩
    go_wp2_with fail
    go_ret2
    exact ⟨rfl, ext_trans (ext_alloc _ _) hb⟩
  · rw [if_neg h, if_neg h]
    have h3 : i < 0 ∨ 256 ≤ i := by omega
    go_enter Try.func12, Try.ntmps12
    rcases h3 with h3 | h3
    · go_wp2
      go_ret2
      exact ⟨rfl, ext_alloc _ _⟩
    · go_wp2
      go_ret2
      exact ⟨rfl, ext_alloc _ _⟩

/-! ### two keys -/
theorem At_is (l : List UInt8) (i : Nat) (v : Value) (w : World) (hv : v = .agg (l.map bv).toArray) (hl : l.length = 32) (hi : i < 256) :
    Calls Try.prog 21 #[v, .int .i64 (i : Int)] w fun r w' => r = .returned (.int .u8 (kb l i : Int)) ∧ Below w.heap.size w w' := by
  subst hv
  exact At_any l i w hl hi

set_option maxRecDepth 100000 in
set_option maxHeartbeats 1600000 in
theorem RShared_any (l m : List UInt8) (w : World) (hl : l.length = 32) (hm : m.length = 32) :
    Calls Try.prog 14 #[.agg (l.map bv).toArray, .agg (m.map bv).toArray] w fun r w' => r = .returned (.int .i64 (shared l m : Int)) ∧ Below w.heap.size w w' := by
  obtain ⟨ds, hds⟩ : ∃ ds, ds = (l.map bv).toArray := ⟨_, rfl⟩
  have hsz : ds.size = 32 := by rw [hds]; simp [hl]
  obtain ⟨es, hes⟩ : ∃ es, es = (m.map bv).toArray := ⟨_, rfl⟩
  have hsy : es.size = 32 := by rw [hes]; simp [hm]
  have hd1 := heap_alloc_new w (.cells ds 26)
  have hd2 := heap_alloc_new (w.alloc (.cells ds 26)) (.cells es 26)
  have hd3 := (Below.heap_alloc (w.alloc (.cells ds 26)) (.cells es 26) w.heap.size (by simp)).trans hd1
  rw [← hds, ← hes]
  replace hds := hid hds
  replace hes := hid hes
  have W2 := ext_trans (ext_alloc w (.cells ds 26)) (ext_alloc _ (.cells es 26))
  go_enter Try.func14, Try.ntmps14
  go_wp2
  generalize ((w.alloc (.cells ds 26)).alloc (.cells es 26)) = W0 at *
  simp only [World.size_alloc] at hd2
  clear hd1
  go_loopw [5] (fun j wr => ∃ n : Nat, n ≤ shared l m ∧ j = .int .i64 (n : Int) ∧ Below w.heap.size w wr ∧ wr.rangeAt w.heap.size 0 (l.map bv) ∧ wr.rangeAt (w.heap.size + 1) 0 (m.map bv)) (fun j _ => 256 - (intOf j).toNat)
  case atStart => exact ⟨0, Nat.zero_le _, rfl, W2, rangeOf (by rw [← hds.out]; exact hd3), rangeOf (by rw [← hes.out]; exact hd2)⟩
  case round =>
    obtain ⟨n, hn, rfl, hb, r1, r2⟩ := hrel
    have hle := shared_le l m
    have hu := Try.underlying26
    have i0 : (Try.prog.info? 26).map (·.size) = some (l.map bv).length := by rw [List.length_map, hl]; exact size32
    have i1 : (Try.prog.info? 26).map (·.size) = some (m.map bv).length := by rw [List.length_map, hm]; exact size32
    by_cases hlt : n < 256
    · have hn1 : (n : Int) < 256 := by omega
      have hq : ((kb l n : Int) == (kb m n : Int)) = decide (n < shared l m) := by
        by_cases h : n < shared l m
        · rw [shared_eq h, decide_eq_true h]; simp
        · have e : n = shared l m := by omega
          have hne := shared_ne (show shared l m < 256 by omega)
          rw [decide_eq_false h, e, beq_eq_false_iff_ne]
          omega
      go_wp2
      -- REGION shared
      refine wp_region_noPanic ?_
      refine wp_region_held_drew (S := fun w' => w'.rangeAt w.heap.size 0 (l.map bv) ∧ w'.rangeAt (w.heap.size + 1) 0 (m.map bv) ∧ Below w.heap.size w w') (by kernel_rfl) ?_ (fun hHeld => ?_)
      · exact ⟨r1, r2, hb.drew⟩
      refine' wpAnyH_take (i := 0) (oi := _) (v := ?_) rfl (by kernel_rfl) (by kernel_rfl) (by kernel_rfl) (fun _ _ _ h => h) (Or.inl ⟨by rfl, ?_⟩) (by assumption) ?_
      rotate_left
      · intro w hSw
        go_simp
        first | done | (with_reducible rfl)
      try simp only [Act.put, List.setIfInBounds_toArray, List.set_cons_zero, List.set_cons_succ, List.getElem_toArray, List.getElem_cons_succ, List.getElem_cons_zero]
      refine' wpAnyH_take (i := 1) (oi := _) (v := ?_) rfl (by kernel_rfl) (by kernel_rfl) (by kernel_rfl) (fun _ _ _ h => h) (Or.inl ⟨by rfl, ?_⟩) (by assumption) ?_
      rotate_left
      · intro w hSw
        go_simp
        first | done | (with_reducible rfl)
      try simp only [Act.put, List.setIfInBounds_toArray, List.set_cons_zero, List.set_cons_succ, List.getElem_toArray, List.getElem_cons_succ, List.getElem_cons_zero]
      refine' wpAnyH_take (i := 2) (oi := _) (v := ?_) rfl (by kernel_rfl) (by kernel_rfl) (by kernel_rfl) (fun _ _ _ h => h) (Or.inl ⟨by rfl, ?_⟩) (by assumption) ?_
      rotate_left
      · intro w hSw
        go_simp
        first | done | (with_reducible rfl)
      try simp only [Act.put, List.setIfInBounds_toArray, List.set_cons_zero, List.set_cons_succ, List.getElem_toArray, List.getElem_cons_succ, List.getElem_cons_zero]
      refine' wpAnyH_take (i := 3) (oi := _) (v := _) rfl (by kernel_rfl) (by kernel_rfl) (by kernel_rfl) (fun _ _ _ h => h) (yieldsIf_load_mid (by rfl) _ _ rfl _ _ rfl _ _ (fun _ h => h.1) hu rfl i0) (by assumption) ?_
      try simp only [Act.put, List.setIfInBounds_toArray, List.set_cons_zero, List.set_cons_succ, List.getElem_toArray, List.getElem_cons_succ, List.getElem_cons_zero]
      refine' wpAnyH_take (i := 4) (oi := _) (v := ?_) rfl (by kernel_rfl) (by kernel_rfl) (by kernel_rfl) (fun _ _ _ h => h) (Or.inl ⟨by rfl, ?_⟩) (by assumption) ?_
      rotate_left
      · intro w hSw
        go_simp
        first | done | (with_reducible rfl)
      try simp only [Act.put, List.setIfInBounds_toArray, List.set_cons_zero, List.set_cons_succ, List.getElem_toArray, List.getElem_cons_succ, List.getElem_cons_zero]
      refine' wpAnyH_take (i := 6) (oi := _) (v := _) rfl (by kernel_rfl) (by kernel_rfl) (by kernel_rfl) (fun _ _ _ h => h) (yieldsIf_load_mid (by rfl) _ _ rfl _ _ rfl _ _ (fun _ h => h.2.1) hu rfl i1) (by assumption) ?_
      try simp only [Act.put, List.setIfInBounds_toArray, List.set_cons_zero, List.set_cons_succ, List.getElem_toArray, List.getElem_cons_succ, List.getElem_cons_zero]
      refine' wpAnyH_take (i := 7) (oi := _) (v := ?_) rfl (by kernel_rfl) (by kernel_rfl) (by kernel_rfl) (fun _ _ _ h => h) (Or.inl ⟨by rfl, ?_⟩) (by assumption) ?_
      rotate_left
      · intro w hSw
        go_simp
        first | done | (with_reducible rfl)
      try simp only [Act.put, List.setIfInBounds_toArray, List.set_cons_zero, List.set_cons_succ, List.getElem_toArray, List.getElem_cons_succ, List.getElem_cons_zero]
      refine wpAnyH_ready (rs := [5]) (by kernel_rfl) (by simp) ?_
      refine AllReadyH.cons (o := _) rfl (fun K hK => ?_) AllReadyH.nil
      go_simp
      refine (At_any l n _ hl (by omega)).mono ?_
      rintro e7 w7 ⟨rfl, hB⟩
      go_wp2_with fail
      refine hK.out _ _ ?_ (fun hHeld => ?_)
      · exact ⟨rangeBel hB hHeld.1, rangeBel hB hHeld.2.1, hHeld.2.2.trans (hB.mono hHeld.2.2.size)⟩
      clear hK K
      try simp only [Act.put, List.setIfInBounds_toArray, List.set_cons_zero, List.set_cons_succ, List.getElem_toArray, List.getElem_cons_succ, List.getElem_cons_zero]
      refine wpAnyH_ready (rs := [8]) (by kernel_rfl) (by simp) ?_
      refine AllReadyH.cons (o := _) rfl (fun K hK => ?_) AllReadyH.nil
      go_simp
      refine (At_any m n _ hm (by omega)).mono ?_
      rintro e7 w7 ⟨rfl, hB⟩
      go_wp2_with fail
      refine hK.out _ _ ?_ (fun hHeld => ?_)
      · exact ⟨rangeBel hB hHeld.1, rangeBel hB hHeld.2.1, hHeld.2.2.trans (hB.mono hHeld.2.2.size)⟩
      clear hK K
      try simp only [Act.put, List.setIfInBounds_toArray, List.set_cons_zero, List.set_cons_succ, List.getElem_toArray, List.getElem_cons_succ, List.getElem_cons_zero]
      refine' wpAnyH_take (i := 9) (oi := _) (v := ?_) rfl (by kernel_rfl) (by kernel_rfl) (by kernel_rfl) (fun _ _ _ h => h) (Or.inl ⟨by rfl, ?_⟩) (by assumption) ?_
      rotate_left
      · intro w hSw
        go_simp
        first | done | (with_reducible rfl)
      try simp only [Act.put, List.setIfInBounds_toArray, List.set_cons_zero, List.set_cons_succ, List.getElem_toArray, List.getElem_cons_succ, List.getElem_cons_zero]
      refine' wpAnyH_take (i := 10) (oi := _) (v := ?_) rfl (by kernel_rfl) (by kernel_rfl) (by kernel_rfl) (fun _ _ _ h => h) (Or.inl ⟨by rfl, ?_⟩) (by assumption) ?_
      rotate_left
      · intro w hSw
        go_simp
        first | done | (with_reducible rfl)
      try simp only [Act.put, List.setIfInBounds_toArray, List.set_cons_zero, List.set_cons_succ, List.getElem_toArray, List.getElem_cons_succ, List.getElem_cons_zero]
      refine wpAnyH_done (by kernel_rfl) ?_ _
      refine NoPanic.normal ?_
      -- END shared
      by_cases h : n < shared l m
      · rw [decide_eq_true h]
        go_wp2
        go_roundw
        case rel => exact ⟨n + 1, by omega, by go_num, hHeld.2.2, hHeld.1, hHeld.2.1⟩
        case measure => simp [intOf]; omega
      · rw [decide_eq_false h]
        have e : shared l m = n := by omega
        go_wp2
        go_ret
        exact ⟨by rw [e]; rfl, hHeld.2.2⟩
    · obtain rfl : n = 256 := by omega
      have he : shared l m = 256 := by omega
      go_wp2
      -- REGION sharedEnd
      refine wp_region_noPanic ?_
      refine wp_region_held_drew (S := fun w' => w'.rangeAt w.heap.size 0 (l.map bv) ∧ w'.rangeAt (w.heap.size + 1) 0 (m.map bv) ∧ Below w.heap.size w w') (by kernel_rfl) ?_ (fun hHeld => ?_)
      · exact ⟨r1, r2, hb.drew⟩
      refine' wpAnyH_take (i := 0) (oi := _) (v := ?_) rfl (by kernel_rfl) (by kernel_rfl) (by kernel_rfl) (fun _ _ _ h => h) (Or.inl ⟨by rfl, ?_⟩) (by assumption) ?_
      rotate_left
      · intro w hSw
        go_simp
        first | done | (with_reducible rfl)
      try simp only [Act.put, List.setIfInBounds_toArray, List.set_cons_zero, List.set_cons_succ, List.getElem_toArray, List.getElem_cons_succ, List.getElem_cons_zero]
      refine' wpAnyH_take (i := 1) (oi := _) (v := ?_) rfl (by kernel_rfl) (by kernel_rfl) (by kernel_rfl) (fun _ _ _ h => h) (Or.inl ⟨by rfl, ?_⟩) (by assumption) ?_
      rotate_left
      · intro w hSw
        go_simp
        first | done | (with_reducible rfl)
      try simp only [Act.put, List.setIfInBounds_toArray, List.set_cons_zero, List.set_cons_succ, List.getElem_toArray, List.getElem_cons_succ, List.getElem_cons_zero]
      refine' wpAnyH_take (i := 2) (oi := _) (v := ?_) rfl (by kernel_rfl) (by kernel_rfl) (by kernel_rfl) (fun _ _ _ h => h) (Or.inl ⟨by rfl, ?_⟩) (by assumption) ?_
      rotate_left
      · intro w hSw
        go_simp
        first | done | (with_reducible rfl)
      try simp only [Act.put, List.setIfInBounds_toArray, List.set_cons_zero, List.set_cons_succ, List.getElem_toArray, List.getElem_cons_succ, List.getElem_cons_zero]
      refine' wpAnyH_take (i := 3) (oi := _) (v := _) rfl (by kernel_rfl) (by kernel_rfl) (by kernel_rfl) (fun _ _ _ h => h) (Or.inr ⟨by rfl, rfl⟩) (by assumption) ?_
      try simp only [Act.put, List.setIfInBounds_toArray, List.set_cons_zero, List.set_cons_succ, List.getElem_toArray, List.getElem_cons_succ, List.getElem_cons_zero]
      refine' wpAnyH_take (i := 4) (oi := _) (v := _) rfl (by kernel_rfl) (by kernel_rfl) (by kernel_rfl) (fun _ _ _ h => h) (Or.inr ⟨by rfl, rfl⟩) (by assumption) ?_
      try simp only [Act.put, List.setIfInBounds_toArray, List.set_cons_zero, List.set_cons_succ, List.getElem_toArray, List.getElem_cons_succ, List.getElem_cons_zero]
      refine' wpAnyH_take (i := 5) (oi := _) (v := _) rfl (by kernel_rfl) (by kernel_rfl) (by kernel_rfl) (fun _ _ _ h => h) (Or.inr ⟨by rfl, rfl⟩) (by assumption) ?_
      try simp only [Act.put, List.setIfInBounds_toArray, List.set_cons_zero, List.set_cons_succ, List.getElem_toArray, List.getElem_cons_succ, List.getElem_cons_zero]
      refine' wpAnyH_take (i := 6) (oi := _) (v := _) rfl (by kernel_rfl) (by kernel_rfl) (by kernel_rfl) (fun _ _ _ h => h) (Or.inr ⟨by rfl, rfl⟩) (by assumption) ?_
      try simp only [Act.put, List.setIfInBounds_toArray, List.set_cons_zero, List.set_cons_succ, List.getElem_toArray, List.getElem_cons_succ, List.getElem_cons_zero]
      refine' wpAnyH_take (i := 7) (oi := _) (v := _) rfl (by kernel_rfl) (by kernel_rfl) (by kernel_rfl) (fun _ _ _ h => h) (Or.inr ⟨by rfl, rfl⟩) (by assumption) ?_
      try simp only [Act.put, List.setIfInBounds_toArray, List.set_cons_zero, List.set_cons_succ, List.getElem_toArray, List.getElem_cons_succ, List.getElem_cons_zero]
      refine' wpAnyH_take (i := 8) (oi := _) (v := _) rfl (by kernel_rfl) (by kernel_rfl) (by kernel_rfl) (fun _ _ _ h => h) (Or.inr ⟨by rfl, rfl⟩) (by assumption) ?_
      try simp only [Act.put, List.setIfInBounds_toArray, List.set_cons_zero, List.set_cons_succ, List.getElem_toArray, List.getElem_cons_succ, List.getElem_cons_zero]
      refine' wpAnyH_take (i := 9) (oi := _) (v := _) rfl (by kernel_rfl) (by kernel_rfl) (by kernel_rfl) (fun _ _ _ h => h) (Or.inr ⟨by rfl, rfl⟩) (by assumption) ?_
      try simp only [Act.put, List.setIfInBounds_toArray, List.set_cons_zero, List.set_cons_succ, List.getElem_toArray, List.getElem_cons_succ, List.getElem_cons_zero]
      refine' wpAnyH_take (i := 10) (oi := _) (v := ?_) rfl (by kernel_rfl) (by kernel_rfl) (by kernel_rfl) (fun _ _ _ h => h) (Or.inl ⟨by rfl, ?_⟩) (by assumption) ?_
      rotate_left
      · intro w hSw
        go_simp
        first | done | (with_reducible rfl)
      try simp only [Act.put, List.setIfInBounds_toArray, List.set_cons_zero, List.set_cons_succ, List.getElem_toArray, List.getElem_cons_succ, List.getElem_cons_zero]
      refine wpAnyH_done (by kernel_rfl) ?_ _
      refine NoPanic.normal ?_
      -- END sharedEnd
      go_wp2
      go_ret
      exact ⟨by rw [he]; rfl, hHeld.2.2⟩

set_option maxRecDepth 100000 in
set_option maxHeartbeats 1600000 in
theorem RAhead_any (l m : List UInt8) (w : World) (hl : l.length = 32) (hm : m.length = 32) :
    Calls Try.prog 15 #[.agg (l.map bv).toArray, .agg (m.map bv).toArray] w fun r w' => r = .returned (.bool (ahead l m)) ∧ Below w.heap.size w w' := by
  obtain ⟨ds, hds⟩ : ∃ ds, ds = (l.map bv).toArray := ⟨_, rfl⟩
  have hsz : ds.size = 32 := by rw [hds]; simp [hl]
  obtain ⟨es, hes⟩ : ∃ es, es = (m.map bv).toArray := ⟨_, rfl⟩
  have hsy : es.size = 32 := by rw [hes]; simp [hm]
  have hd1 := heap_alloc_new w (.cells ds 26)
  have hd2 := heap_alloc_new (w.alloc (.cells ds 26)) (.cells es 26)
  have hd3 := (Below.heap_alloc (w.alloc (.cells ds 26)) (.cells es 26) w.heap.size (by simp)).trans hd1
  have r1 := rangeOf (l := l.map bv) (by rw [← hds]; exact hd3)
  have r2 := rangeOf (l := m.map bv) (by rw [← hes]; exact hd2)
  have hsh := RShared_any l m ((w.alloc (.cells ds 26)).alloc (.cells es 26)) hl hm
  rw [← hds, ← hes] at hsh ⊢
  replace hds := hid hds
  replace hes := hid hes
  have W2 := ext_trans (ext_alloc w (.cells ds 26)) (ext_alloc _ (.cells es 26))
  simp only [World.size_alloc] at hd2 r2
  go_enter Try.func15, Try.ntmps15
  go_wp2_with (first
    | ((with_reducible refine wpList_load_row rfl 26 (.tmp 2) rfl w.heap.size rfl 26 ds (0, 0) _ ?_ Try.underlying26 rfl ?_ ?_); exact hd3; (rw [hsz]; exact size32))
    | ((with_reducible refine wpList_load_row rfl 26 (.tmp 3) rfl (w.heap.size + 1) rfl 26 es (0, 0) _ ?_ Try.underlying26 rfl ?_ ?_); exact hd2; (rw [hsy]; exact size32)))
  refine hsh.mono ?_
  rintro e w3 ⟨rfl, hb3⟩
  replace r1 := rangeBel hb3 r1
  replace r2 := rangeBel hb3 r2
  have hb := ext_trans W2 hb3
  generalize hn : shared l m = n at *
  have hle : n ≤ 256 := by rw [← hn]; exact shared_le l m
  have hu := Try.underlying26
  have i0 : (Try.prog.info? 26).map (·.size) = some (l.map bv).length := by rw [List.length_map, hl]; exact size32
  have i1 : (Try.prog.info? 26).map (·.size) = some (m.map bv).length := by rw [List.length_map, hm]; exact size32
  have hah : ahead l m = decide (n < 256 ∧ kb l n < kb m n) := by unfold ahead; rw [hn]
  replace hn := hid hn
  clear hd1 hd2 hd3 hb3 hsh
  go_wp2_with fail
  by_cases hlt : n < 256
  · have hn1 : (n : Int) < 256 := by omega
    have hq : decide ((kb l n : Int) < (kb m n : Int)) = ahead l m := by rw [hah]; apply decide_eq_decide.2; omega
    -- REGION ahead
    refine wp_region_noPanic ?_
    refine wp_region_held_drew (S := fun w' => w'.rangeAt w.heap.size 0 (l.map bv) ∧ w'.rangeAt (w.heap.size + 1) 0 (m.map bv) ∧ Below w.heap.size w w') (by kernel_rfl) ?_ (fun hHeld => ?_)
    · exact ⟨r1, r2, hb.drew⟩
    refine' wpAnyH_take (i := 0) (oi := _) (v := ?_) rfl (by kernel_rfl) (by kernel_rfl) (by kernel_rfl) (fun _ _ _ h => h) (Or.inl ⟨by rfl, ?_⟩) (by assumption) ?_
    rotate_left
    · intro w hSw
      go_simp
      first | done | (with_reducible rfl)
    try simp only [Act.put, List.setIfInBounds_toArray, List.set_cons_zero, List.set_cons_succ, List.getElem_toArray, List.getElem_cons_succ, List.getElem_cons_zero]
    refine' wpAnyH_take (i := 1) (oi := _) (v := ?_) rfl (by kernel_rfl) (by kernel_rfl) (by kernel_rfl) (fun _ _ _ h => h) (Or.inl ⟨by rfl, ?_⟩) (by assumption) ?_
    rotate_left
    · intro w hSw
      go_simp
      first | done | (with_reducible rfl)
    try simp only [Act.put, List.setIfInBounds_toArray, List.set_cons_zero, List.set_cons_succ, List.getElem_toArray, List.getElem_cons_succ, List.getElem_cons_zero]
    refine' wpAnyH_take (i := 2) (oi := _) (v := ?_) rfl (by kernel_rfl) (by kernel_rfl) (by kernel_rfl) (fun _ _ _ h => h) (Or.inl ⟨by rfl, ?_⟩) (by assumption) ?_
    rotate_left
    · intro w hSw
      go_simp
      first | done | (with_reducible rfl)
    try simp only [Act.put, List.setIfInBounds_toArray, List.set_cons_zero, List.set_cons_succ, List.getElem_toArray, List.getElem_cons_succ, List.getElem_cons_zero]
    refine' wpAnyH_take (i := 3) (oi := _) (v := _) rfl (by kernel_rfl) (by kernel_rfl) (by kernel_rfl) (fun _ _ _ h => h) (yieldsIf_load_mid (by rfl) _ _ rfl _ _ rfl _ _ (fun _ h => h.1) hu rfl i0) (by assumption) ?_
    try simp only [Act.put, List.setIfInBounds_toArray, List.set_cons_zero, List.set_cons_succ, List.getElem_toArray, List.getElem_cons_succ, List.getElem_cons_zero]
    refine' wpAnyH_take (i := 4) (oi := _) (v := ?_) rfl (by kernel_rfl) (by kernel_rfl) (by kernel_rfl) (fun _ _ _ h => h) (Or.inl ⟨by rfl, ?_⟩) (by assumption) ?_
    rotate_left
    · intro w hSw
      go_simp
      first | done | (with_reducible rfl)
    try simp only [Act.put, List.setIfInBounds_toArray, List.set_cons_zero, List.set_cons_succ, List.getElem_toArray, List.getElem_cons_succ, List.getElem_cons_zero]
    refine' wpAnyH_take (i := 6) (oi := _) (v := _) rfl (by kernel_rfl) (by kernel_rfl) (by kernel_rfl) (fun _ _ _ h => h) (yieldsIf_load_mid (by rfl) _ _ rfl _ _ rfl _ _ (fun _ h => h.2.1) hu rfl i1) (by assumption) ?_
    try simp only [Act.put, List.setIfInBounds_toArray, List.set_cons_zero, List.set_cons_succ, List.getElem_toArray, List.getElem_cons_succ, List.getElem_cons_zero]
    refine' wpAnyH_take (i := 7) (oi := _) (v := ?_) rfl (by kernel_rfl) (by kernel_rfl) (by kernel_rfl) (fun _ _ _ h => h) (Or.inl ⟨by rfl, ?_⟩) (by assumption) ?_
    rotate_left
    · intro w hSw
      go_simp
      first | done | (with_reducible rfl)
    try simp only [Act.put, List.setIfInBounds_toArray, List.set_cons_zero, List.set_cons_succ, List.getElem_toArray, List.getElem_cons_succ, List.getElem_cons_zero]
    refine wpAnyH_ready (rs := [5]) (by kernel_rfl) (by simp) ?_
    refine AllReadyH.cons (o := _) rfl (fun K hK => ?_) AllReadyH.nil
    go_simp
    refine (At_any l n _ hl (by omega)).mono ?_
    rintro e7 w7 ⟨rfl, hB⟩
    go_wp2_with fail
    refine hK.out _ _ ?_ (fun hHeld => ?_)
    · exact ⟨rangeBel hB hHeld.1, rangeBel hB hHeld.2.1, hHeld.2.2.trans (hB.mono hHeld.2.2.size)⟩
    clear hK K
    try simp only [Act.put, List.setIfInBounds_toArray, List.set_cons_zero, List.set_cons_succ, List.getElem_toArray, List.getElem_cons_succ, List.getElem_cons_zero]
    refine wpAnyH_ready (rs := [8]) (by kernel_rfl) (by simp) ?_
    refine AllReadyH.cons (o := _) rfl (fun K hK => ?_) AllReadyH.nil
    go_simp
    refine (At_any m n _ hm (by omega)).mono ?_
    rintro e7 w7 ⟨rfl, hB⟩
    go_wp2_with fail
    refine hK.out _ _ ?_ (fun hHeld => ?_)
    · exact ⟨rangeBel hB hHeld.1, rangeBel hB hHeld.2.1, hHeld.2.2.trans (hB.mono hHeld.2.2.size)⟩
    clear hK K
    try simp only [Act.put, List.setIfInBounds_toArray, List.set_cons_zero, List.set_cons_succ, List.getElem_toArray, List.getElem_cons_succ, List.getElem_cons_zero]
    refine' wpAnyH_take (i := 9) (oi := _) (v := ?_) rfl (by kernel_rfl) (by kernel_rfl) (by kernel_rfl) (fun _ _ _ h => h) (Or.inl ⟨by rfl, ?_⟩) (by assumption) ?_
    rotate_left
    · intro w hSw
      go_simp
      first | done | (with_reducible rfl)
    try simp only [Act.put, List.setIfInBounds_toArray, List.set_cons_zero, List.set_cons_succ, List.getElem_toArray, List.getElem_cons_succ, List.getElem_cons_zero]
    refine' wpAnyH_take (i := 10) (oi := _) (v := ?_) rfl (by kernel_rfl) (by kernel_rfl) (by kernel_rfl) (fun _ _ _ h => h) (Or.inl ⟨by rfl, ?_⟩) (by assumption) ?_
    rotate_left
    · intro w hSw
      go_simp
      first | done | (with_reducible rfl)
    try simp only [Act.put, List.setIfInBounds_toArray, List.set_cons_zero, List.set_cons_succ, List.getElem_toArray, List.getElem_cons_succ, List.getElem_cons_zero]
    refine' wpAnyH_take (i := 11) (oi := _) (v := ?_) rfl (by kernel_rfl) (by kernel_rfl) (by kernel_rfl) (fun _ _ _ h => h) (Or.inl ⟨by rfl, ?_⟩) (by assumption) ?_
    rotate_left
    · intro w hSw
      go_simp
      first | done | (with_reducible rfl)
    try simp only [Act.put, List.setIfInBounds_toArray, List.set_cons_zero, List.set_cons_succ, List.getElem_toArray, List.getElem_cons_succ, List.getElem_cons_zero]
    refine wpAnyH_done (by kernel_rfl) ?_ _
    refine NoPanic.normal ?_
    -- END ahead
    go_wp2
    go_ret
    refine ⟨?_, hHeld.2.2⟩
    show Ending.returned (.bool (decide (kb l n < kb m n))) = _
    rw [hah]
    simp [hlt]
  · obtain rfl : n = 256 := by omega
    have hq : ahead l m = false := by rw [hah]; apply decide_eq_false; omega
    -- REGION aheadNo
    refine wp_region_noPanic ?_
    refine wp_region_held_drew (S := fun w' => w'.rangeAt w.heap.size 0 (l.map bv) ∧ w'.rangeAt (w.heap.size + 1) 0 (m.map bv) ∧ Below w.heap.size w w') (by kernel_rfl) ?_ (fun hHeld => ?_)
    · exact ⟨r1, r2, hb.drew⟩
    refine' wpAnyH_take (i := 0) (oi := _) (v := ?_) rfl (by kernel_rfl) (by kernel_rfl) (by kernel_rfl) (fun _ _ _ h => h) (Or.inl ⟨by rfl, ?_⟩) (by assumption) ?_
    rotate_left
    · intro w hSw
      go_simp
      first | done | (with_reducible rfl)
    try simp only [Act.put, List.setIfInBounds_toArray, List.set_cons_zero, List.set_cons_succ, List.getElem_toArray, List.getElem_cons_succ, List.getElem_cons_zero]
    refine' wpAnyH_take (i := 1) (oi := _) (v := ?_) rfl (by kernel_rfl) (by kernel_rfl) (by kernel_rfl) (fun _ _ _ h => h) (Or.inl ⟨by rfl, ?_⟩) (by assumption) ?_
    rotate_left
    · intro w hSw
      go_simp
      first | done | (with_reducible rfl)
    try simp only [Act.put, List.setIfInBounds_toArray, List.set_cons_zero, List.set_cons_succ, List.getElem_toArray, List.getElem_cons_succ, List.getElem_cons_zero]
    refine' wpAnyH_take (i := 2) (oi := _) (v := ?_) rfl (by kernel_rfl) (by kernel_rfl) (by kernel_rfl) (fun _ _ _ h => h) (Or.inl ⟨by rfl, ?_⟩) (by assumption) ?_
    rotate_left
    · intro w hSw
      go_simp
      first | done | (with_reducible rfl)
    try simp only [Act.put, List.setIfInBounds_toArray, List.set_cons_zero, List.set_cons_succ, List.getElem_toArray, List.getElem_cons_succ, List.getElem_cons_zero]
    refine' wpAnyH_take (i := 3) (oi := _) (v := _) rfl (by kernel_rfl) (by kernel_rfl) (by kernel_rfl) (fun _ _ _ h => h) (Or.inr ⟨by rfl, rfl⟩) (by assumption) ?_
    try simp only [Act.put, List.setIfInBounds_toArray, List.set_cons_zero, List.set_cons_succ, List.getElem_toArray, List.getElem_cons_succ, List.getElem_cons_zero]
    refine' wpAnyH_take (i := 4) (oi := _) (v := _) rfl (by kernel_rfl) (by kernel_rfl) (by kernel_rfl) (fun _ _ _ h => h) (Or.inr ⟨by rfl, rfl⟩) (by assumption) ?_
    try simp only [Act.put, List.setIfInBounds_toArray, List.set_cons_zero, List.set_cons_succ, List.getElem_toArray, List.getElem_cons_succ, List.getElem_cons_zero]
    refine' wpAnyH_take (i := 5) (oi := _) (v := _) rfl (by kernel_rfl) (by kernel_rfl) (by kernel_rfl) (fun _ _ _ h => h) (Or.inr ⟨by rfl, rfl⟩) (by assumption) ?_
    try simp only [Act.put, List.setIfInBounds_toArray, List.set_cons_zero, List.set_cons_succ, List.getElem_toArray, List.getElem_cons_succ, List.getElem_cons_zero]
    refine' wpAnyH_take (i := 6) (oi := _) (v := _) rfl (by kernel_rfl) (by kernel_rfl) (by kernel_rfl) (fun _ _ _ h => h) (Or.inr ⟨by rfl, rfl⟩) (by assumption) ?_
    try simp only [Act.put, List.setIfInBounds_toArray, List.set_cons_zero, List.set_cons_succ, List.getElem_toArray, List.getElem_cons_succ, List.getElem_cons_zero]
    refine' wpAnyH_take (i := 7) (oi := _) (v := _) rfl (by kernel_rfl) (by kernel_rfl) (by kernel_rfl) (fun _ _ _ h => h) (Or.inr ⟨by rfl, rfl⟩) (by assumption) ?_
    try simp only [Act.put, List.setIfInBounds_toArray, List.set_cons_zero, List.set_cons_succ, List.getElem_toArray, List.getElem_cons_succ, List.getElem_cons_zero]
    refine' wpAnyH_take (i := 8) (oi := _) (v := _) rfl (by kernel_rfl) (by kernel_rfl) (by kernel_rfl) (fun _ _ _ h => h) (Or.inr ⟨by rfl, rfl⟩) (by assumption) ?_
    try simp only [Act.put, List.setIfInBounds_toArray, List.set_cons_zero, List.set_cons_succ, List.getElem_toArray, List.getElem_cons_succ, List.getElem_cons_zero]
    refine' wpAnyH_take (i := 9) (oi := _) (v := _) rfl (by kernel_rfl) (by kernel_rfl) (by kernel_rfl) (fun _ _ _ h => h) (Or.inr ⟨by rfl, rfl⟩) (by assumption) ?_
    try simp only [Act.put, List.setIfInBounds_toArray, List.set_cons_zero, List.set_cons_succ, List.getElem_toArray, List.getElem_cons_succ, List.getElem_cons_zero]
    refine' wpAnyH_take (i := 10) (oi := _) (v := ?_) rfl (by kernel_rfl) (by kernel_rfl) (by kernel_rfl) (fun _ _ _ h => h) (Or.inl ⟨by rfl, ?_⟩) (by assumption) ?_
    rotate_left
    · intro w hSw
      go_simp
      first | done | (with_reducible rfl)
    try simp only [Act.put, List.setIfInBounds_toArray, List.set_cons_zero, List.set_cons_succ, List.getElem_toArray, List.getElem_cons_succ, List.getElem_cons_zero]
    refine' wpAnyH_take (i := 11) (oi := _) (v := ?_) rfl (by kernel_rfl) (by kernel_rfl) (by kernel_rfl) (fun _ _ _ h => h) (Or.inl ⟨by rfl, ?_⟩) (by assumption) ?_
    rotate_left
    · intro w hSw
      go_simp
      first | done | (with_reducible rfl)
    try simp only [Act.put, List.setIfInBounds_toArray, List.set_cons_zero, List.set_cons_succ, List.getElem_toArray, List.getElem_cons_succ, List.getElem_cons_zero]
    refine wpAnyH_done (by kernel_rfl) ?_ _
    refine NoPanic.normal ?_
    -- END aheadNo
    go_wp2
    go_ret
    exact ⟨by rw [hq]; rfl, hHeld.2.2⟩

theorem res_dig {fn : Func} {p u : Tmp} (h : fn.results = #[.cell p 26, .tmp u]) (tmps : Array Value) (w : World) (g : Nat) (cs : Array Value) (e1 : tmps.getD p undef = .pointer (some ⟨g, 0, none⟩))
    (hg : w.heap[g]? = some (.cells cs 26 (0, 0))) (hs : cs.size = 32) : (results fn tmps).run Try.prog w = .ok (.tuple #[.agg cs, tmps.getD u undef]) w := by
  have h2 := run_loadVar_mid (P := Try.prog) w g 0 26 cs.toList _ (rangeOf hg) Try.underlying26 rfl (by rw [Array.length_toList, hs]; exact size32)
  rw [results_cell_tmp h, e1]
  simp only [asAddr, Sem.run_pure, Result.andThen_ok, h2]
theorem tbyte_nat : ∀ c : Fin 256, ∀ p : Fin 8, (tbyte (UInt8.ofNat c.val) p.val).toNat = (if c.val / 2 ^ (7 - p.val) % 2 = 1 then c.val - 2 ^ (7 - p.val) else c.val + 2 ^ (7 - p.val)) ∧ (c.val / 2 ^ (7 - p.val) % 2 = 1 → 2 ^ (7 - p.val) ≤ c.val) ∧ (c.val / 2 ^ (7 - p.val) % 2 ≠ 1 → c.val + 2 ^ (7 - p.val) < 256) := by decide +kernel

set_option maxRecDepth 100000 in
set_option maxHeartbeats 1600000 in
theorem RTurn_any (l : List UInt8) (i : Int) (w : World) (hl : l.length = 32) :
    Calls Try.prog 13 #[.agg (l.map bv).toArray, .int .i64 i] w fun r w' => r = .returned (.tuple #[.agg ((turnV l i).map bv).toArray, .int .i64 (bitE i)]) ∧ Below w.heap.size w w' := by
  obtain ⟨ds, hds⟩ : ∃ ds, ds = (l.map bv).toArray := ⟨_, rfl⟩
  have hsz : ds.size = 32 := by rw [hds]; simp [hl]
  have hd1 := heap_alloc_new w (.cells ds 26)
  have hz1 := heap_alloc_new (w.alloc (.cells ds 26)) (.cells z32 26)
  rw [World.size_alloc] at hz1
  have W2 := ext_trans (ext_alloc w (.cells ds 26)) (ext_alloc _ (.cells z32 26))
  unfold turnV bitE
  rw [← hds]
  replace hds := hid hds
  by_cases h : 0 ≤ i ∧ i < 256
  · rw [if_pos h, if_pos h]
    obtain ⟨h1, h2⟩ := h
    obtain ⟨n, rfl⟩ := Int.eq_ofNat_of_zero_le h1
    have hn : n < 256 := by omega
    have hat := fun w => At_any l n w hl hn
    rw [← hds.out] at hat
    have hd2 := (Below.heap_alloc (w.alloc (.cells ds 26)) (.cells z32 26) w.heap.size (by simp)).trans hd1
    obtain ⟨c0, hc0⟩ : ∃ c0, l.getD (n / 8) 0 = c0 := ⟨_, rfl⟩
    have hcl := c0.toNat_lt
    have hdq := dget l (n / 8) (by omega)
    rw [hc0, ← hds.out] at hdq
    have hk : kb l n = c0.toNat / 2 ^ (7 - n % 8) % 2 := by unfold kb; rw [hc0]
    have htn : turn l n = l.set (n / 8) (tbyte c0 (n % 8)) := by unfold turn; rw [hc0]
    have q1 := tdiv8 n
    have q2 := tmod8 n
    have q3 : n / 8 < 32 := by omega
    have q4 : n % 8 < 8 := Nat.mod_lt _ (by omega)
    obtain ⟨t1, t2, t3⟩ := tbyte_nat ⟨c0.toNat, hcl⟩ ⟨n % 8, q4⟩
    simp only [UInt8.ofNat_toNat] at t1 t2 t3
    rw [← hk] at t1 t2 t3
    have hkl := kb_lt l n
    rw [show ((n : Int).toNat) = n by omega, htn]
    clear htn hk hc0 hd1
    generalize n / 8 = q at *
    generalize n % 8 = p at *
    generalize kb l n = k at *
    generalize hx : tbyte c0 p = x at *
    go_enter Try.func13, Try.ntmps13
    go_wp2_with (first
      | (with_reducible refine wpList_alloc_row rfl 26 rfl z32 info32 ?_))
    generalize ((w.alloc (.cells ds 26)).alloc (.cells z32 26)) = W0 at *
    go_loopw [6, 7] (fun v j wr => ∃ m : Nat, m ≤ 7 - p ∧ v = .int .u8 ((2 ^ m : Nat) : Int) ∧ j = .int .i64 ((7 - m : Nat) : Int) ∧ Below w.heap.size w wr ∧ wr.heap[w.heap.size]? = some (.cells ds 26 (0, 0)) ∧ wr.heap[w.heap.size + 1]? = some (.cells z32 26 (0, 0))) (fun _ j _ => (intOf j).toNat)
    case atStart => exact ⟨0, Nat.zero_le _, by simp, rfl, W2, hd2, hz1⟩
    case round =>
      obtain ⟨m, hm, rfl, rfl, hb, g1, g2⟩ := hrel
      have hm2 : 2 ^ m ≤ 2 ^ 7 := Nat.pow_le_pow_right (by omega) (by omega)
      have hm3 : 2 ^ (m + 1) = 2 * 2 ^ m := by rw [Nat.pow_succ, Nat.mul_comm]
      by_cases hlt : m < 7 - p
      · have hm4 : 2 ^ (m + 1) ≤ 2 ^ 7 := Nat.pow_le_pow_right (by omega) (by omega)
        replace hm3 := hid hm3
        have hm5 : 2 * 2 ^ m ≤ 2 ^ 7 := by rw [← hm3.out]; exact hm4
        simp only [Nat.reducePow] at hm2 hm5
        generalize 2 ^ m = y at *
        clear hm4
        replace g1 := hid g1
        replace g2 := hid g2
        go_wp2
        go_roundw
        case rel => exact ⟨m + 1, by omega, by rw [hm3.out]; simp, by congr 1; omega, hb, g1.out, g2.out⟩
        case measure => simp [intOf]; omega
      · have hmp : 7 - p = m := by omega
        rw [hmp] at t1 t2 t3
        simp only [Nat.reducePow] at hm2
        generalize 2 ^ m = y at *
        go_wp2_with (first
          | ((with_reducible refine wpList_load_row rfl 26 (.tmp 2) rfl w.heap.size rfl 26 ds (0, 0) _ ?_ Try.underlying26 rfl ?_ ?_); exact g1; (rw [hsz]; exact size32)))
        refine (hat wr).mono ?_
        rintro e w5 ⟨rfl, hb5⟩
        replace g1 := (hb5.block _ (block_lt g1)).trans g1
        replace g2 := (hb5.block _ (block_lt g2)).trans g2
        have hb5' := hb.trans (hb5.mono hb.size)
        have hcell := block_cell g1 q
        rw [hdq] at hcell
        have hfz := block_frozen g1 q
        have g3 := block_set g1 q (.int .u8 (x.toNat : Int))
        have g4 := (Below.heap_setCell w5 ⟨w.heap.size, q, none⟩ (.int .u8 (x.toNat : Int)) (w.heap.size + 1) (by simp)).trans g2
        have hds2 : ds.setIfInBounds q (.int .u8 (x.toNat : Int)) = ((l.set q x).map bv).toArray := by rw [hds.out]; simp [bv]
        rw [hds2] at g3
        have hsz2 : ((l.set q x).map bv).toArray.size = 32 := by simp [hl]
        have hall := bvs_all (l.set q x)
        clear hds2 g1 g2 hb5 hb hdq hm3 hmp hx
        replace hds := trivial
        by_cases hk1 : k = 1
        · subst hk1
          have t4 := t2 rfl
          rw [if_pos rfl] at t1
          have t5 : ((c0.toNat : Int) - (y : Int)) = (x.toNat : Int) := by omega
          have hxl := x.toNat_lt
          clear t1 t2 t3
          go_wp2_with (first
            | ((with_reducible refine wpList_load_row rfl 26 (.tmp 2) rfl w.heap.size rfl 26 ((l.set q x).map bv).toArray (0, 0) _ ?_ Try.underlying26 rfl ?_ ?_); exact g3; (rw [hsz2]; exact size32))
            | ((with_reducible refine wpList_store_row rfl 26 (.tmp 4) (.tmp 41) rfl _ _ rfl rfl 26 z32 ?_ ?_ ?_ ?_ ?_); exact g4; (rw [hsz2]; exact size32); (rw [hsz2]; exact z32_size); exact hall; intro w6 hg6 hb6 hs6))
          refine bodyPost_ret (res_dig rfl _ _ (w.heap.size + 1) _ rfl hg6 hsz2) rfl ⟨rfl, (hb5'.setCell (p := ⟨w.heap.size, q, none⟩) (Nat.le_refl _) _).grown hb6 (Nat.le_trans hb5'.size (by simp [World.setCell])) (by intro k hk; injection hk with hk; omega)⟩
        · have hk0 : k = 0 := by omega
          subst hk0
          have t4 := t3 (by omega)
          rw [if_neg (by omega)] at t1
          have t5 : ((c0.toNat : Int) + (y : Int)) = (x.toNat : Int) := by omega
          have hxl := x.toNat_lt
          clear t1 t2 t3
          go_wp2_with (first
            | ((with_reducible refine wpList_load_row rfl 26 (.tmp 2) rfl w.heap.size rfl 26 ((l.set q x).map bv).toArray (0, 0) _ ?_ Try.underlying26 rfl ?_ ?_); exact g3; (rw [hsz2]; exact size32))
            | ((with_reducible refine wpList_store_row rfl 26 (.tmp 4) (.tmp 41) rfl _ _ rfl rfl 26 z32 ?_ ?_ ?_ ?_ ?_); exact g4; (rw [hsz2]; exact size32); (rw [hsz2]; exact z32_size); exact hall; intro w6 hg6 hb6 hs6))
          refine bodyPost_ret (res_dig rfl _ _ (w.heap.size + 1) _ rfl hg6 hsz2) rfl ⟨rfl, (hb5'.setCell (p := ⟨w.heap.size, q, none⟩) (Nat.le_refl _) _).grown hb6 (Nat.le_trans hb5'.size (by simp [World.setCell])) (by intro k hk; injection hk with hk; omega)⟩
  · rw [if_neg h, if_neg h]
    have h3 : i < 0 ∨ 256 ≤ i := by omega
    go_enter Try.func13, Try.ntmps13
    rcases h3 with h3 | h3
    · go_wp2_with (first
        | (with_reducible refine wpList_alloc_row rfl 26 rfl z32 info32 ?_)
        | ((with_reducible refine wpList_store_row rfl 26 (.tmp 4) (.tmp 14) rfl _ _ rfl rfl 26 z32 ?_ ?_ ?_ ?_ ?_); exact hz1; exact size32; rfl; decide +kernel; intro w4 hg4 hb4 hs4))
      refine bodyPost_ret (res_dig rfl _ _ (w.heap.size + 1) _ rfl hg4 rfl) rfl ⟨rfl, W2.grown hb4 W2.size (by intro k hk; injection hk with hk; omega)⟩
    · go_wp2_with (first
        | (with_reducible refine wpList_alloc_row rfl 26 rfl z32 info32 ?_)
        | ((with_reducible refine wpList_store_row rfl 26 (.tmp 4) (.tmp 14) rfl _ _ rfl rfl 26 z32 ?_ ?_ ?_ ?_ ?_); exact hz1; exact size32; rfl; decide +kernel; intro w4 hg4 hb4 hs4))
      refine bodyPost_ret (res_dig rfl _ _ (w.heap.size + 1) _ rfl hg4 rfl) rfl ⟨rfl, W2.grown hb4 W2.size (by intro k hk; injection hk with hk; omega)⟩
end Go.Proofs.Ytcnehjnphfmhjaa
