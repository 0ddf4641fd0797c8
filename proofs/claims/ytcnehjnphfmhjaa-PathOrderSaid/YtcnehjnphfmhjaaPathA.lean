/-
  Contracts of the landed package path: places, masks, bits, turns.
-/
import Derived.Test.YtcnehjnphfmhjaaKeyP
import Derived.Test.YtcnehjnphfmhjaaDig
import Derived.Test.YtcnehjnphfmhjaaRef04
import Derived.IntWalk
import Derived.StillTailTactics
namespace Go.Proofs.Ytcnehjnphfmhjaa
open Go.RowKit
set_option linter.unusedVariables false
set_option linter.unusedSimpArgs false

theorem isPlace_any (i : Int) (w : World) : Calls Try.prog 16 #[.int .i64 i] w fun r w' => r = .returned (.bool (decide (0 ≤ i ∧ i < 256))) ∧ w' = w := by
  go_enter Try.func16, Try.ntmps16
  by_cases h1 : 0 ≤ i
  · by_cases h2 : i < 256
    · go_wp2
      go_ret
      exact ⟨by simp [h1, h2], rfl⟩
    · go_wp2
      go_ret
      exact ⟨by simp [h1, h2], rfl⟩
  · go_wp2
    go_ret
    refine ⟨?_, rfl⟩
    show Ending.returned (.bool false) = _
    congr 2
    symm
    rw [decide_eq_false (show ¬ 0 ≤ i by omega)]
    rfl

theorem pow_div (p : Nat) (h : p < 8) : (128 : Int) / 2 ^ p = ((2 ^ (7 - p) : Nat) : Int) := by
  have : ∀ p : Fin 8, (128 : Int) / 2 ^ p.val = ((2 ^ (7 - p.val) : Nat) : Int) := by decide +kernel
  exact this ⟨p, h⟩
theorem mask_any (i : Nat) (w : World) : Calls Try.prog 18 #[.int .i64 (i : Int)] w fun r w' => r = .returned (.int .u8 ((2 ^ (7 - i % 8) : Nat) : Int)) ∧ w' = w := by
  have q2 := tmod8 i
  have q4 : i % 8 < 8 := Nat.mod_lt _ (by omega)
  generalize i % 8 = p at *
  go_enter Try.func18, Try.ntmps18
  go_wp2
  go_ret
  refine ⟨?_, rfl⟩
  show Ending.returned (.int .u8 ((128 : Int) / 2 ^ p)) = _
  rw [pow_div p q4]

theorem byte_and (c p : Nat) (hc : c < 256) (hp : p < 8) : bits .and .u8 (c : Int) ((2 ^ (7 - p) : Nat) : Int) = ((c / 2 ^ (7 - p) % 2 * 2 ^ (7 - p) : Nat) : Int) := by
  have : ∀ c : Fin 256, ∀ p : Fin 8, bits .and .u8 (c.val : Int) ((2 ^ (7 - p.val) : Nat) : Int) = ((c.val / 2 ^ (7 - p.val) % 2 * 2 ^ (7 - p.val) : Nat) : Int) := by decide +kernel
  exact this ⟨c, hc⟩ ⟨p, hp⟩
theorem byte_xor (c : UInt8) (p : Nat) (hp : p < 8) : bits .xor .u8 (c.toNat : Int) ((2 ^ (7 - p) : Nat) : Int) = ((tbyte c p).toNat : Int) := by
  have : ∀ c : Fin 256, ∀ p : Fin 8, bits .xor .u8 (c.val : Int) ((2 ^ (7 - p.val) : Nat) : Int) = ((tbyte (UInt8.ofNat c.val) p.val).toNat : Int) := by decide +kernel
  have h := this ⟨c.toNat, c.toNat_lt⟩ ⟨p, hp⟩
  simp only [UInt8.ofNat_toNat] at h
  exact h

theorem mask_is (i : Nat) (m : Int) (w : World) (hm : ((2 ^ (7 - i % 8) : Nat) : Int) = m) : Calls Try.prog 18 #[.int .i64 (i : Int)] w fun r w' => r = .returned (.int .u8 m) ∧ w' = w := by
  subst hm
  exact mask_any i w

set_option maxRecDepth 100000 in
set_option maxHeartbeats 800000 in
theorem bit_any (l : List UInt8) (i : Nat) (w : World) (hl : l.length = 32) (hi : i < 256) :
    Calls Try.prog 17 #[.agg (l.map bv).toArray, .int .i64 (i : Int)] w fun r w' => r = .returned (.int .u8 (kb l i : Int)) ∧ Below w.heap.size w w' := by
  obtain ⟨c, hc⟩ : ∃ c, (l.getD (i / 8) 0).toNat = c := ⟨_, rfl⟩
  have hcl : c < 256 := by have := (l.getD (i / 8) 0).toNat_lt; omega
  have hcell := dcell (l.map bv).toArray 26 w (i / 8)
  rw [dget l (i / 8) (by omega), hc] at hcell
  have hk : kb l i = c / 2 ^ (7 - i % 8) % 2 := by unfold kb; rw [hc]
  rw [hk]
  clear hk hc
  obtain ⟨ds, hds⟩ : ∃ ds, ds = (l.map bv).toArray := ⟨_, rfl⟩
  have hsz : ds.size = 32 := by rw [hds]; simp [hl]
  rw [← hds] at hcell ⊢
  replace hds := hid hds
  have q1 := tdiv8 i
  have q3 : i / 8 < 32 := by omega
  have q4 : i % 8 < 8 := Nat.mod_lt _ (by omega)
  have hB := byte_and c (i % 8) hcl q4
  obtain ⟨m, hm⟩ : ∃ m : Int, ((2 ^ (7 - i % 8) : Nat) : Int) = m := ⟨_, rfl⟩
  have hm0 : (2 ^ (7 - i % 8) : Nat) ≠ 0 := Nat.ne_of_gt (Nat.two_pow_pos _)
  obtain ⟨z, hz⟩ : ∃ z, c / 2 ^ (7 - i % 8) % 2 = z := ⟨_, rfl⟩
  have hzl : z < 2 := by rw [← hz]; exact Nat.mod_lt _ (by omega)
  rw [hz] at hB ⊢
  rw [hm] at hB
  have hM := fun W => mask_is i m W hm
  replace hm0 := hid hm0
  have hE : ((z * 2 ^ (7 - i % 8) : Nat) : Int) = 0 ↔ z = 0 := by
    rw [Int.natCast_eq_zero, Nat.mul_eq_zero]
    exact ⟨fun h => h.resolve_right hm0.out, .inl⟩
  obtain ⟨u, hu⟩ : ∃ u : Int, ((z * 2 ^ (7 - i % 8) : Nat) : Int) = u := ⟨_, rfl⟩
  rw [hu] at hB hE
  clear hm hz hu hm0
  generalize i / 8 = q at *
  replace hM := hid hM
  go_enter Try.func17, Try.ntmps17
  go_wp2
  go_quiet ((go_at_call 18; refine Calls.quiet_of_same (hM.out _)))
  rcases Nat.eq_zero_or_pos z with h0 | h0
  · have hu0 := hE.2 h0
    subst h0
    subst hu0
    go_wp2
    go_ret
    exact ⟨rfl, below_drewN (ext_alloc _ _) _⟩
  · have hu0 : ¬ u = 0 := fun h => by have := hE.1 h; omega
    obtain rfl : z = 1 := by omega
    go_wp2
    go_ret
    exact ⟨rfl, below_drewN (ext_alloc _ _) _⟩
theorem bit_is (l : List UInt8) (i : Nat) (v : Value) (n : Int) (w : World) (hv : v = .agg (l.map bv).toArray) (hl : l.length = 32) (hi : i < 256) (hn : (kb l i : Int) = n) :
    Calls Try.prog 17 #[v, .int .i64 (i : Int)] w fun r w' => r = .returned (.int .u8 n) ∧ Below w.heap.size w w' := by
  subst hv hn
  exact bit_any l i w hl hi

set_option maxRecDepth 100000 in
set_option maxHeartbeats 800000 in
theorem PBit_any (l : List UInt8) (i : Int) (w : World) (hl : l.length = 32) :
    Calls Try.prog 7 #[.agg (l.map bv).toArray, .int .i64 i] w fun r w' => r = .returned (.tuple #[.int .u8 (bitV l i : Int), .int .i64 (bitE i)]) ∧ Below w.heap.size w w' := by
  obtain ⟨ds, hds⟩ : ∃ ds, ds = (l.map bv).toArray := ⟨_, rfl⟩
  have hsz : ds.size = 32 := by rw [hds]; simp [hl]
  have hd1 := heap_alloc_new w (.cells ds 26)
  unfold bitV bitE
  rw [← hds]
  replace hds := hid hds
  have hP := fun W => isPlace_any i W
  by_cases h : 0 ≤ i ∧ i < 256
  · rw [if_pos h, if_pos h]
    rw [decide_eq_true h] at hP
    replace hP := hid hP
    obtain ⟨h1, h2⟩ := h
    obtain ⟨n, rfl⟩ := Int.eq_ofNat_of_zero_le h1
    go_enter Try.func7, Try.ntmps7
    go_wp2_with (first
      | (go_at_call 16; refine (hP.out _).mono ?_; rintro e w1 ⟨rfl, rfl⟩)
      | ((with_reducible refine wpList_load_row rfl 26 (.tmp 2) rfl w.heap.size rfl 26 ds (0, 0) _ ?_ Try.underlying26 rfl ?_ ?_); exact hd1; (rw [hsz]; exact size32)))
    refine (bit_is l n _ _ _ (by rw [hds.out]) hl (by omega) rfl).mono ?_
    rintro e w1 ⟨rfl, hb⟩
    go_wp2_with fail
    go_ret2
    exact ⟨rfl, ext_trans (ext_alloc _ _) hb⟩
  · rw [if_neg h, if_neg h]
    rw [decide_eq_false h] at hP
    replace hP := hid hP
    go_enter Try.func7, Try.ntmps7
    go_wp2_with (first
      | (go_at_call 16; refine (hP.out _).mono ?_; rintro e w1 ⟨rfl, rfl⟩))
    go_ret2
    exact ⟨rfl, ext_alloc _ _⟩

set_option maxRecDepth 100000 in
set_option maxHeartbeats 1600000 in
theorem PTurn_any (l : List UInt8) (i : Int) (w : World) (hl : l.length = 32) :
    Calls Try.prog 8 #[.agg (l.map bv).toArray, .int .i64 i] w fun r w' => r = .returned (.tuple #[.agg ((turnV l i).map bv).toArray, .int .i64 (bitE i)]) ∧ Below w.heap.size w w' := by
  obtain ⟨ds, hds⟩ : ∃ ds, ds = (l.map bv).toArray := ⟨_, rfl⟩
  have hsz : ds.size = 32 := by rw [hds]; simp [hl]
  have hd1 := heap_alloc_new w (.cells ds 26)
  have hz1 := heap_alloc_new (w.alloc (.cells ds 26)) (.cells z32 26)
  rw [World.size_alloc] at hz1
  have W2 := ext_trans (ext_alloc w (.cells ds 26)) (ext_alloc _ (.cells z32 26))
  unfold turnV bitE
  rw [← hds]
  replace hds := hid hds
  have hP := fun W => isPlace_any i W
  by_cases h : 0 ≤ i ∧ i < 256
  · rw [if_pos h, if_pos h]
    rw [decide_eq_true h] at hP
    replace hP := hid hP
    obtain ⟨h1, h2⟩ := h
    obtain ⟨n, rfl⟩ := Int.eq_ofNat_of_zero_le h1
    have hn : n < 256 := by omega
    have hd2 := (Below.heap_alloc (w.alloc (.cells ds 26)) (.cells z32 26) w.heap.size (by simp)).trans hd1
    obtain ⟨c0, hc0⟩ : ∃ c0, l.getD (n / 8) 0 = c0 := ⟨_, rfl⟩
    have hcl := c0.toNat_lt
    have hdq := dget l (n / 8) (by omega)
    rw [hc0, ← hds.out] at hdq
    have htn : turn l n = l.set (n / 8) (tbyte c0 (n % 8)) := by unfold turn; rw [hc0]
    have q1 := tdiv8 n
    have q3 : n / 8 < 32 := by omega
    have q4 : n % 8 < 8 := Nat.mod_lt _ (by omega)
    have hX := byte_xor c0 (n % 8) q4
    obtain ⟨m, hm⟩ : ∃ m : Int, ((2 ^ (7 - n % 8) : Nat) : Int) = m := ⟨_, rfl⟩
    rw [hm] at hX
    have hM := fun W => mask_is n m W hm
    rw [show ((n : Int).toNat) = n by omega, htn]
    clear htn hc0 hd1 hm
    generalize n / 8 = q at *
    generalize hx : tbyte c0 (n % 8) = x at *
    replace hM := hid hM
    have hcell : ((w.alloc (.cells ds 26)).alloc (.cells z32 26)).cell? ⟨w.heap.size, q, none⟩ = some (.int .u8 (c0.toNat : Int)) := by
      rw [cell_of_row _ _ _ _ _ (0, 0) hd2]; exact hdq
    go_enter Try.func8, Try.ntmps8
    go_wp2_with (first
      | (with_reducible refine wpList_alloc_row rfl 26 rfl z32 info32 ?_)
      | (go_at_call 16; refine (hP.out _).mono ?_; rintro e w1 ⟨rfl, rfl⟩))
    generalize ((w.alloc (.cells ds 26)).alloc (.cells z32 26)) = W0 at *
    have hfz := block_frozen hd2 q
    have hds2 : ds.setIfInBounds q (.int .u8 (x.toNat : Int)) = ((l.set q x).map bv).toArray := by rw [hds.out]; simp [bv]
    go_wp2_with fail
    have wq : IntKind.i64.wrap (q : Int) = (q : Int) := IntWalk.i64_in _ (by omega)
    have q5 : 0 ≤ (q : Int) := by omega
    have q6 : (q : Int) < 32 := by omega
    have q7 : (q : Int).toNat = q := by omega
    go_still_tail 8, (by kernel_rfl)
    still_call (hM.out _)
    repeat still_step
    refine wpStill_nil ?_
    have g3 : (W0.setCell ⟨w.heap.size, q, none⟩ (.int .u8 (x.toNat : Int))).drew.heap[w.heap.size]? = some (.cells (ds.setIfInBounds q (.int .u8 (x.toNat : Int))) 26 (0, 0)) := block_set hd2 q (.int .u8 (x.toNat : Int))
    have g4 : (W0.setCell ⟨w.heap.size, q, none⟩ (.int .u8 (x.toNat : Int))).drew.heap[w.heap.size + 1]? = some (.cells z32 26 (0, 0)) := (Below.heap_setCell W0 ⟨w.heap.size, q, none⟩ (.int .u8 (x.toNat : Int)) (w.heap.size + 1) (by simp)).trans hz1
    have hb5 : Below w.heap.size w (W0.setCell ⟨w.heap.size, q, none⟩ (.int .u8 (x.toNat : Int))).drew := (W2.setCell (p := ⟨w.heap.size, q, none⟩) (Nat.le_refl _) _).drew
    rw [hds2] at g3
    have hsz2 : ((l.set q x).map bv).toArray.size = 32 := by simp [hl]
    have hall := bvs_all (l.set q x)
    clear hds2 hd2 hz1 hdq hx
    replace hds := trivial
    replace hX := hid hX
    go_wp2_with (first
      | ((with_reducible refine wpList_load_row rfl 26 (.tmp 2) rfl w.heap.size rfl 26 ((l.set q x).map bv).toArray (0, 0) _ ?_ Try.underlying26 rfl ?_ ?_); exact g3; (rw [hsz2]; exact size32))
      | ((with_reducible refine wpList_store_row rfl 26 (.tmp 4) (.tmp 18) rfl _ _ rfl rfl 26 z32 ?_ ?_ ?_ ?_ ?_); exact g4; (rw [hsz2]; exact size32); (rw [hsz2]; exact z32_size); exact hall; intro w6 hg6 hb6 hs6))
    refine bodyPost_ret (res_dig rfl _ _ (w.heap.size + 1) _ rfl hg6 hsz2) rfl ⟨rfl, hb5.grown hb6 hb5.size (by intro k hk; injection hk with hk; omega)⟩
  · rw [if_neg h, if_neg h]
    rw [decide_eq_false h] at hP
    replace hP := hid hP
    go_enter Try.func8, Try.ntmps8
    go_wp2_with (first
      | (with_reducible refine wpList_alloc_row rfl 26 rfl z32 info32 ?_)
      | (go_at_call 16; refine (hP.out _).mono ?_; rintro e w1 ⟨rfl, rfl⟩)
      | ((with_reducible refine wpList_store_row rfl 26 (.tmp 4) (.tmp 9) rfl _ _ rfl rfl 26 z32 ?_ ?_ ?_ ?_ ?_); exact hz1; exact size32; rfl; decide +kernel; intro w4 hg4 hb4 hs4))
    refine bodyPost_ret (res_dig rfl _ _ (w.heap.size + 1) _ rfl hg4 rfl) rfl ⟨rfl, W2.grown hb4 W2.size (by intro k hk; injection hk with hk; omega)⟩
end Go.Proofs.Ytcnehjnphfmhjaa
