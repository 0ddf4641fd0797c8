/-
 Texts laid together: Ref04a, Ref04, Ref04h.
-/
import Derived.Test.YtmjocmogfckmmaaGreatDoorBits
import Derived.Test.YtmjocmogfckmmaaGreatDoorMem
import Derived.IntWalk
set_option maxRecDepth 100000
set_option linter.unusedVariables false
set_option linter.unusedSimpArgs false
namespace Go.Proofs.YtmjocmogfckmmaaGreatDoor
/- (Ref04a)
 The document's answers for layer 4: the bit at a place.
-/
section
open Go.RowKit

set_option maxRecDepth 100000 in
set_option maxHeartbeats 800000 in
theorem At_any (l : List UInt8) (i : Nat) (w : World) (hl : l.length = 32) (hi : i < 256) :
  Calls Tryz.prog 85 #[.agg (l.map bv).toArray, .int .i64 (i : Int)] w fun r w' => r = .returned (.int .u8 (kb l i : Int)) ∧ Below w.heap.size w w' := by
 obtain ⟨c, hc⟩ : ∃ c, (l.getD (i / 8) 0).toNat = c := ⟨_, rfl⟩
 have hcl : c < 256 := by have := (l.getD (i / 8) 0).toNat_lt; omega
 have hcell := dcell (l.map bv).toArray 26 w (i / 8)
 rw [dget l (i / 8) (by omega), hc] at hcell
 have hk : kb l i = c / 2 ^ (7 - i % 8) % 2 := by unfold kb; rw [hc]
 rw [hk]
 clear hk hc
 obtain ⟨ds, hds⟩ : ∃ ds, ds = (l.map bv).toArray := ⟨_, rfl⟩
 have hsz : ds.size = 32 := by rw [hds]; simp [hl]
 rw [← hds] at hcell ⊢
 replace hds := hid hds
 have q1 := tdiv8 i
 have q2 := tmod8 i
 have q3 : i / 8 < 32 := by omega
 have q4 : i % 8 < 8 := Nat.mod_lt _ (by omega)
 generalize i / 8 = q at *
 generalize i % 8 = p at *
 go_enter Tryz.func85, Tryz.ntmps85
 go_wp2
 go_loopw [5, 6] (fun v j wr => ∃ k : Nat, k ≤ 7 - p ∧ v = .int .u8 ((c / 2 ^ k : Nat) : Int) ∧ j = .int .i64 ((7 - k : Nat) : Int) ∧ Below w.heap.size w wr) (fun _ j _ => (intOf j).toNat)
 case atStart => exact ⟨0, Nat.zero_le _, by simp, rfl, ext_alloc _ _⟩
 case round =>
  obtain ⟨k, hk, rfl, rfl, hb⟩ := hrel
  have hx : c / 2 ^ k < 256 := Nat.lt_of_le_of_lt (Nat.div_le_self _ _) hcl
  have hs : c / 2 ^ (k + 1) = c / 2 ^ k / 2 := by rw [Nat.pow_succ, ← Nat.div_div_eq_div_mul]
  have hy : 7 - p = k → c / 2 ^ (7 - p) % 2 = c / 2 ^ k % 2 := fun h => by rw [h]
  by_cases hlt : k < 7 - p
  ·have d2 := tdiv2 (c / 2 ^ k)
   replace hs := hid hs
   generalize c / 2 ^ k = x at *
   clear hy
   go_wp2
   go_roundw
   case rel => exact ⟨k + 1, by omega, by rw [hs.out]; simp, by congr 1; omega, hb⟩
   case measure => simp [intOf]; omega
  ·have hy2 := hid (hy (by omega))
   have d2 := tmod2 (c / 2 ^ k)
   clear hs hy
   generalize c / 2 ^ k = x at *
   go_wp2
   go_ret
   rw [hy2.out]
   exact ⟨by simp, hb⟩
/-! ### two keys -/
end

/- (Ref04)
 The document's answers for layer 4: Shared.
-/
section
open Go.RowKit

set_option maxRecDepth 100000 in
set_option maxHeartbeats 1600000 in
theorem RShared_any (l m : List UInt8) (w : World) (hl : l.length = 32) (hm : m.length = 32) :
  Calls Tryz.prog 63 #[.agg (l.map bv).toArray, .agg (m.map bv).toArray] w fun r w' => r = .returned (.int .i64 (shared l m : Int)) ∧ Below w.heap.size w w' := by
 obtain ⟨ds, hds⟩ : ∃ ds, ds = (l.map bv).toArray := ⟨_, rfl⟩
 have hsz : ds.size = 32 := by rw [hds]; simp [hl]
 obtain ⟨es, hes⟩ : ∃ es, es = (m.map bv).toArray := ⟨_, rfl⟩
 have hsy : es.size = 32 := by rw [hes]; simp [hm]
 have hd1 := heap_alloc_new w (.cells ds 26)
 have hd2 := heap_alloc_new (w.alloc (.cells ds 26)) (.cells es 26)
 have hd3 := (Below.heap_alloc (w.alloc (.cells ds 26)) (.cells es 26) w.heap.size (by simp)).trans hd1
 rw [← hds, ← hes]
 replace hds := hid hds
 replace hes := hid hes
 have W2 := ext_trans (ext_alloc w (.cells ds 26)) (ext_alloc _ (.cells es 26))
 go_enter Tryz.func63, Tryz.ntmps63
 go_wp2
 generalize ((w.alloc (.cells ds 26)).alloc (.cells es 26)) = W0 at *
 simp only [World.size_alloc] at hd2
 clear hd1
 go_loopw [5] (fun j wr => ∃ n : Nat, n ≤ shared l m ∧ j = .int .i64 (n : Int) ∧ Below w.heap.size w wr ∧ wr.rangeAt w.heap.size 0 (l.map bv) ∧ wr.rangeAt (w.heap.size + 1) 0 (m.map bv)) (fun j _ => 256 - (intOf j).toNat)
 case atStart => exact ⟨0, Nat.zero_le _, rfl, W2, rangeOf (by rw [← hds.out]; exact hd3), rangeOf (by rw [← hes.out]; exact hd2)⟩
 case round =>
  obtain ⟨n, hn, rfl, hb, r1, r2⟩ := hrel
  have hle := shared_le l m
  have hu := Tryz.underlying26
  have i0 : (Tryz.prog.info? 26).map (·.size) = some (l.map bv).length := by rw [List.length_map, hl]; exact size32
  have i1 : (Tryz.prog.info? 26).map (·.size) = some (m.map bv).length := by rw [List.length_map, hm]; exact size32
  by_cases hlt : n < 256
  ·have hn1 : (n : Int) < 256 := by omega
   have hq : ((kb l n : Int) == (kb m n : Int)) = decide (n < shared l m) := by
    by_cases h : n < shared l m
    ·rw [shared_eq h, decide_eq_true h]; simp
    ·have e : n = shared l m := by omega
     have hne := shared_ne (show shared l m < 256 by omega)
     rw [decide_eq_false h, e, beq_eq_false_iff_ne]
     omega
   go_wp2
   -- REGION shared
   refine wp_region_noPanic ?_
   refine wp_region_held_drew (S := fun w' => w'.rangeAt w.heap.size 0 (l.map bv) ∧ w'.rangeAt (w.heap.size + 1) 0 (m.map bv) ∧ Below w.heap.size w w') (by kernel_rfl) ?_ (fun hHeld => ?_)
   ·exact ⟨r1, r2, hb.drew⟩
   refine' tkL 0 ?_ rfl ?_ ?_
   rotate_left
   ·intro w hSw
    go_simp
    first | done | (with_reducible rfl)
   try simp only [Act.put, sQ]
   refine' tkL 1 ?_ rfl ?_ ?_
   rotate_left
   ·intro w hSw
    go_simp
    first | done | (with_reducible rfl)
   try simp only [Act.put, sQ]
   refine' tkL 2 ?_ rfl ?_ ?_
   rotate_left
   ·intro w hSw
    go_simp
    first | done | (with_reducible rfl)
   try simp only [Act.put, sQ]
   refine' tkH 3 rfl (yieldsIf_load_mid (by rfl) _ _ rfl _ _ rfl _ _ (fun _ h => h.1) hu rfl i0) ?_
   try simp only [Act.put, sQ]
   refine' tkL 4 ?_ rfl ?_ ?_
   rotate_left
   ·intro w hSw
    go_simp
    first | done | (with_reducible rfl)
   try simp only [Act.put, sQ]
   refine' tkH 6 rfl (yieldsIf_load_mid (by rfl) _ _ rfl _ _ rfl _ _ (fun _ h => h.2.1) hu rfl i1) ?_
   try simp only [Act.put, sQ]
   refine' tkL 7 ?_ rfl ?_ ?_
   rotate_left
   ·intro w hSw
    go_simp
    first | done | (with_reducible rfl)
   try simp only [Act.put, sQ]
   refine wpAnyH_ready (rs := [5]) (by kernel_rfl) (by simp) ?_
   refine AllReadyH.cons (o := _) rfl (fun K hK => ?_) AllReadyH.nil
   go_simp
   refine (At_any l n _ hl (by omega)).mono ?_
   rintro e7 w7 ⟨rfl, hB⟩
   go_wp2_with fail
   refine hK.out _ _ ?_ (fun hHeld => ?_)
   ·exact ⟨rangeBel hB hHeld.1, rangeBel hB hHeld.2.1, hHeld.2.2.trans (hB.mono hHeld.2.2.size)⟩
   clear hK K
   try simp only [Act.put, sQ]
   refine wpAnyH_ready (rs := [8]) (by kernel_rfl) (by simp) ?_
   refine AllReadyH.cons (o := _) rfl (fun K hK => ?_) AllReadyH.nil
   go_simp
   refine (At_any m n _ hm (by omega)).mono ?_
   rintro e7 w7 ⟨rfl, hB⟩
   go_wp2_with fail
   refine hK.out _ _ ?_ (fun hHeld => ?_)
   ·exact ⟨rangeBel hB hHeld.1, rangeBel hB hHeld.2.1, hHeld.2.2.trans (hB.mono hHeld.2.2.size)⟩
   clear hK K
   try simp only [Act.put, sQ]
   refine' tkL 9 ?_ rfl ?_ ?_
   rotate_left
   ·intro w hSw
    go_simp
    first | done | (with_reducible rfl)
   try simp only [Act.put, sQ]
   refine' tkL 10 ?_ rfl ?_ ?_
   rotate_left
   ·intro w hSw
    go_simp
    first | done | (with_reducible rfl)
   try simp only [Act.put, sQ]
   refine wpAnyH_done (by kernel_rfl) ?_ _
   refine NoPanic.normal ?_
   -- END shared
   by_cases h : n < shared l m
   ·rw [decide_eq_true h]
    go_wp2
    go_roundw
    case rel => exact ⟨n + 1, by omega, by go_num, hHeld.2.2, hHeld.1, hHeld.2.1⟩
    case measure => simp [intOf]; omega
   ·rw [decide_eq_false h]
    have e : shared l m = n := by omega
    go_wp2
    go_ret
    exact ⟨by rw [e]; rfl, hHeld.2.2⟩
  ·obtain rfl : n = 256 := by omega
   have he : shared l m = 256 := by omega
   go_wp2
   -- REGION sharedEnd
   refine wp_region_noPanic ?_
   refine wp_region_held_drew (S := fun w' => w'.rangeAt w.heap.size 0 (l.map bv) ∧ w'.rangeAt (w.heap.size + 1) 0 (m.map bv) ∧ Below w.heap.size w w') (by kernel_rfl) ?_ (fun hHeld => ?_)
   ·exact ⟨r1, r2, hb.drew⟩
   refine' tkL 0 ?_ rfl ?_ ?_
   rotate_left
   ·intro w hSw
    go_simp
    first | done | (with_reducible rfl)
   try simp only [Act.put, sQ]
   refine' tkL 1 ?_ rfl ?_ ?_
   rotate_left
   ·intro w hSw
    go_simp
    first | done | (with_reducible rfl)
   try simp only [Act.put, sQ]
   refine' tkL 2 ?_ rfl ?_ ?_
   rotate_left
   ·intro w hSw
    go_simp
    first | done | (with_reducible rfl)
   try simp only [Act.put, sQ]
   refine' tkR 3 rfl ?_
   try simp only [Act.put, sQ]
   refine' tkR 4 rfl ?_
   try simp only [Act.put, sQ]
   refine' tkR 5 rfl ?_
   try simp only [Act.put, sQ]
   refine' tkR 6 rfl ?_
   try simp only [Act.put, sQ]
   refine' tkR 7 rfl ?_
   try simp only [Act.put, sQ]
   refine' tkR 8 rfl ?_
   try simp only [Act.put, sQ]
   refine' tkR 9 rfl ?_
   try simp only [Act.put, sQ]
   refine' tkL 10 ?_ rfl ?_ ?_
   rotate_left
   ·intro w hSw
    go_simp
    first | done | (with_reducible rfl)
   try simp only [Act.put, sQ]
   refine wpAnyH_done (by kernel_rfl) ?_ _
   refine NoPanic.normal ?_
   -- END sharedEnd
   go_wp2
   go_ret
   exact ⟨by rw [he]; rfl, hHeld.2.2⟩
end

/- (Ref04h)
 The document's answers for layer 4: Ahead.
-/
section
open Go.RowKit

set_option maxRecDepth 100000 in
set_option maxHeartbeats 1600000 in
theorem RAhead_any (l m : List UInt8) (w : World) (hl : l.length = 32) (hm : m.length = 32) :
  Calls Tryz.prog 84 #[.agg (l.map bv).toArray, .agg (m.map bv).toArray] w fun r w' => r = .returned (.bool (ahead l m)) ∧ Below w.heap.size w w' := by
 obtain ⟨ds, hds⟩ : ∃ ds, ds = (l.map bv).toArray := ⟨_, rfl⟩
 have hsz : ds.size = 32 := by rw [hds]; simp [hl]
 obtain ⟨es, hes⟩ : ∃ es, es = (m.map bv).toArray := ⟨_, rfl⟩
 have hsy : es.size = 32 := by rw [hes]; simp [hm]
 have hd1 := heap_alloc_new w (.cells ds 26)
 have hd2 := heap_alloc_new (w.alloc (.cells ds 26)) (.cells es 26)
 have hd3 := (Below.heap_alloc (w.alloc (.cells ds 26)) (.cells es 26) w.heap.size (by simp)).trans hd1
 have r1 := rangeOf (l := l.map bv) (by rw [← hds]; exact hd3)
 have r2 := rangeOf (l := m.map bv) (by rw [← hes]; exact hd2)
 have hsh := RShared_any l m ((w.alloc (.cells ds 26)).alloc (.cells es 26)) hl hm
 rw [← hds, ← hes] at hsh ⊢
 replace hds := hid hds
 replace hes := hid hes
 have W2 := ext_trans (ext_alloc w (.cells ds 26)) (ext_alloc _ (.cells es 26))
 simp only [World.size_alloc] at hd2 r2
 go_enter Tryz.func84, Tryz.ntmps84
 go_wp2_with (first
  | ((with_reducible refine wpList_load_row rfl 26 (.tmp 2) rfl w.heap.size rfl 26 ds (0, 0) _ ?_ Tryz.underlying26 rfl ?_ ?_); exact hd3; (rw [hsz]; exact size32))
  | ((with_reducible refine wpList_load_row rfl 26 (.tmp 3) rfl (w.heap.size + 1) rfl 26 es (0, 0) _ ?_ Tryz.underlying26 rfl ?_ ?_); exact hd2; (rw [hsy]; exact size32)))
 refine hsh.mono ?_
 rintro e w3 ⟨rfl, hb3⟩
 replace r1 := rangeBel hb3 r1
 replace r2 := rangeBel hb3 r2
 have hb := ext_trans W2 hb3
 generalize hn : shared l m = n at *
 have hle : n ≤ 256 := by rw [← hn]; exact shared_le l m
 have hu := Tryz.underlying26
 have i0 : (Tryz.prog.info? 26).map (·.size) = some (l.map bv).length := by rw [List.length_map, hl]; exact size32
 have i1 : (Tryz.prog.info? 26).map (·.size) = some (m.map bv).length := by rw [List.length_map, hm]; exact size32
 have hah : ahead l m = decide (n < 256 ∧ kb l n < kb m n) := by unfold ahead; rw [hn]
 replace hn := hid hn
 clear hd1 hd2 hd3 hb3 hsh
 go_wp2_with fail
 by_cases hlt : n < 256
 ·have hn1 : (n : Int) < 256 := by omega
  have hq : decide ((kb l n : Int) < (kb m n : Int)) = ahead l m := by rw [hah]; apply decide_eq_decide.2; omega
  -- REGION ahead
  refine wp_region_noPanic ?_
  refine wp_region_held_drew (S := fun w' => w'.rangeAt w.heap.size 0 (l.map bv) ∧ w'.rangeAt (w.heap.size + 1) 0 (m.map bv) ∧ Below w.heap.size w w') (by kernel_rfl) ?_ (fun hHeld => ?_)
  ·exact ⟨r1, r2, hb.drew⟩
  refine' tkL 0 ?_ rfl ?_ ?_
  rotate_left
  ·intro w hSw
   go_simp
   first | done | (with_reducible rfl)
  try simp only [Act.put, sQ]
  refine' tkL 1 ?_ rfl ?_ ?_
  rotate_left
  ·intro w hSw
   go_simp
   first | done | (with_reducible rfl)
  try simp only [Act.put, sQ]
  refine' tkL 2 ?_ rfl ?_ ?_
  rotate_left
  ·intro w hSw
   go_simp
   first | done | (with_reducible rfl)
  try simp only [Act.put, sQ]
  refine' tkH 3 rfl (yieldsIf_load_mid (by rfl) _ _ rfl _ _ rfl _ _ (fun _ h => h.1) hu rfl i0) ?_
  try simp only [Act.put, sQ]
  refine' tkL 4 ?_ rfl ?_ ?_
  rotate_left
  ·intro w hSw
   go_simp
   first | done | (with_reducible rfl)
  try simp only [Act.put, sQ]
  refine' tkH 6 rfl (yieldsIf_load_mid (by rfl) _ _ rfl _ _ rfl _ _ (fun _ h => h.2.1) hu rfl i1) ?_
  try simp only [Act.put, sQ]
  refine' tkL 7 ?_ rfl ?_ ?_
  rotate_left
  ·intro w hSw
   go_simp
   first | done | (with_reducible rfl)
  try simp only [Act.put, sQ]
  refine wpAnyH_ready (rs := [5]) (by kernel_rfl) (by simp) ?_
  refine AllReadyH.cons (o := _) rfl (fun K hK => ?_) AllReadyH.nil
  go_simp
  refine (At_any l n _ hl (by omega)).mono ?_
  rintro e7 w7 ⟨rfl, hB⟩
  go_wp2_with fail
  refine hK.out _ _ ?_ (fun hHeld => ?_)
  ·exact ⟨rangeBel hB hHeld.1, rangeBel hB hHeld.2.1, hHeld.2.2.trans (hB.mono hHeld.2.2.size)⟩
  clear hK K
  try simp only [Act.put, sQ]
  refine wpAnyH_ready (rs := [8]) (by kernel_rfl) (by simp) ?_
  refine AllReadyH.cons (o := _) rfl (fun K hK => ?_) AllReadyH.nil
  go_simp
  refine (At_any m n _ hm (by omega)).mono ?_
  rintro e7 w7 ⟨rfl, hB⟩
  go_wp2_with fail
  refine hK.out _ _ ?_ (fun hHeld => ?_)
  ·exact ⟨rangeBel hB hHeld.1, rangeBel hB hHeld.2.1, hHeld.2.2.trans (hB.mono hHeld.2.2.size)⟩
  clear hK K
  try simp only [Act.put, sQ]
  refine' tkL 9 ?_ rfl ?_ ?_
  rotate_left
  ·intro w hSw
   go_simp
   first | done | (with_reducible rfl)
  try simp only [Act.put, sQ]
  refine' tkL 10 ?_ rfl ?_ ?_
  rotate_left
  ·intro w hSw
   go_simp
   first | done | (with_reducible rfl)
  try simp only [Act.put, sQ]
  refine' tkL 11 ?_ rfl ?_ ?_
  rotate_left
  ·intro w hSw
   go_simp
   first | done | (with_reducible rfl)
  try simp only [Act.put, sQ]
  refine wpAnyH_done (by kernel_rfl) ?_ _
  refine NoPanic.normal ?_
  -- END ahead
  go_wp2
  go_ret
  refine ⟨?_, hHeld.2.2⟩
  show Ending.returned (.bool (decide (kb l n < kb m n))) = _
  rw [hah]
  simp [hlt]
 ·obtain rfl : n = 256 := by omega
  have hq : ahead l m = false := by rw [hah]; apply decide_eq_false; omega
  -- REGION aheadNo
  refine wp_region_noPanic ?_
  refine wp_region_held_drew (S := fun w' => w'.rangeAt w.heap.size 0 (l.map bv) ∧ w'.rangeAt (w.heap.size + 1) 0 (m.map bv) ∧ Below w.heap.size w w') (by kernel_rfl) ?_ (fun hHeld => ?_)
  ·exact ⟨r1, r2, hb.drew⟩
  refine' tkL 0 ?_ rfl ?_ ?_
  rotate_left
  ·intro w hSw
   go_simp
   first | done | (with_reducible rfl)
  try simp only [Act.put, sQ]
  refine' tkL 1 ?_ rfl ?_ ?_
  rotate_left
  ·intro w hSw
   go_simp
   first | done | (with_reducible rfl)
  try simp only [Act.put, sQ]
  refine' tkL 2 ?_ rfl ?_ ?_
  rotate_left
  ·intro w hSw
   go_simp
   first | done | (with_reducible rfl)
  try simp only [Act.put, sQ]
  refine' tkR 3 rfl ?_
  try simp only [Act.put, sQ]
  refine' tkR 4 rfl ?_
  try simp only [Act.put, sQ]
  refine' tkR 5 rfl ?_
  try simp only [Act.put, sQ]
  refine' tkR 6 rfl ?_
  try simp only [Act.put, sQ]
  refine' tkR 7 rfl ?_
  try simp only [Act.put, sQ]
  refine' tkR 8 rfl ?_
  try simp only [Act.put, sQ]
  refine' tkR 9 rfl ?_
  try simp only [Act.put, sQ]
  refine' tkL 10 ?_ rfl ?_ ?_
  rotate_left
  ·intro w hSw
   go_simp
   first | done | (with_reducible rfl)
  try simp only [Act.put, sQ]
  refine' tkL 11 ?_ rfl ?_ ?_
  rotate_left
  ·intro w hSw
   go_simp
   first | done | (with_reducible rfl)
  try simp only [Act.put, sQ]
  refine wpAnyH_done (by kernel_rfl) ?_ _
  refine NoPanic.normal ?_
  -- END aheadNo
  go_wp2
  go_ret
  exact ⟨by rw [hq]; rfl, hHeld.2.2⟩
end
end Go.Proofs.YtmjocmogfckmmaaGreatDoor
