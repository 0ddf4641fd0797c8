/-
  Layer 4's law: a bit is that; the chapter's first examples.
-/
import Derived.Test.YtcnehjnphfmhjaaPath
import Derived.Test.YtcnehjnphfmhjaaHeld
import Derived.IntWalk
namespace Go.Proofs.Ytcnehjnphfmhjaa
open Go.RowKit
set_option linter.unusedVariables false
set_option linter.unusedSimpArgs false

/-- A key of which the first byte is told. -/
def kfst (c : UInt8) : List UInt8 := c :: List.replicate 31 0
theorem kfst_length (c : UInt8) : (kfst c).length = 32 := rfl

set_option maxRecDepth 100000 in
theorem bit4_any (l : List UInt8) (i : Int) (b : UInt8) (w : World) (hl : l.length = 32) :
    Calls Try.prog 19 #[.agg (l.map bv).toArray, .int .i64 i, .int .u8 (b.toNat : Int)] w fun r w' => r = .returned (.bool (decide (bitE i = 0 ∧ bitV l i = b.toNat))) ∧ Below w.heap.size w w' := by
  have hp := PBit_any l i (w.alloc (.cells (l.map bv).toArray 26)) hl
  obtain ⟨ds, hds⟩ : ∃ ds, ds = (l.map bv).toArray := ⟨_, rfl⟩
  have hsz : ds.size = 32 := by rw [hds]; simp [hl]
  have hd1 := heap_alloc_new w (.cells ds 26)
  rw [← hds] at hp ⊢
  replace hds := hid hds
  generalize bitE i = e at *
  generalize bitV l i = v at *
  go_enter Try.func19, Try.ntmps19
  go_wp2_with (first
    | ((with_reducible refine wpList_load_row rfl 26 (.tmp 3) rfl w.heap.size rfl 26 ds (0, 0) _ ?_ Try.underlying26 rfl ?_ ?_); exact hd1; (rw [hsz]; exact size32)))
  refine hp.mono ?_
  rintro e1 w1 ⟨rfl, hb⟩
  have W1 := ext_trans (ext_alloc w (.cells ds 26)) hb
  by_cases h : e = 0
  · subst h
    go_wp2
    go_ret
    refine ⟨?_, W1⟩
    show Ending.returned (.bool ((v : Int) == (b.toNat : Int))) = _
    congr 2
    rw [Bool.eq_iff_iff, beq_iff_eq, decide_eq_true_eq]
    omega
  · go_wp2
    go_ret
    refine ⟨?_, W1⟩
    show Ending.returned (.bool false) = _
    congr 2
    symm
    apply decide_eq_false
    intro h2
    exact h h2.1
theorem bit4_is (l : List UInt8) (i : Int) (b : UInt8) (u z : Value) (ans : Bool) (w : World) (hu : u = .agg (l.map bv).toArray) (hz : z = .int .u8 (b.toNat : Int)) (hl : l.length = 32) (ha : decide (bitE i = 0 ∧ bitV l i = b.toNat) = ans) :
    Calls Try.prog 19 #[u, .int .i64 i, z] w fun r w' => r = .returned (.bool ans) ∧ Below w.heap.size w w' := by
  subst hu hz ha
  exact bit4_any l i b w hl
theorem PShared_is (l m : List UInt8) (u v : Value) (ans : Int) (w : World) (hu : u = .agg (l.map bv).toArray) (hv : v = .agg (m.map bv).toArray) (hl : l.length = 32) (hm : m.length = 32) (ha : (shared l m : Int) = ans) :
    Calls Try.prog 10 #[u, v] w fun r w' => r = .returned (.int .i64 ans) ∧ Below w.heap.size w w' := by
  subst hu hv ha
  exact PShared_any l m w hl hm
theorem PAhead_is (l m : List UInt8) (u v : Value) (ans : Bool) (w : World) (hu : u = .agg (l.map bv).toArray) (hv : v = .agg (m.map bv).toArray) (hl : l.length = 32) (hm : m.length = 32) (ha : ahead l m = ans) :
    Calls Try.prog 11 #[u, v] w fun r w' => r = .returned (.bool ans) ∧ Below w.heap.size w w' := by
  subst hu hv ha
  exact PAhead_any l m w hl hm
theorem PBit_is (l : List UInt8) (i : Int) (u : Value) (n e : Int) (w : World) (hu : u = .agg (l.map bv).toArray) (hl : l.length = 32) (hn : (bitV l i : Int) = n) (he : bitE i = e) :
    Calls Try.prog 7 #[u, .int .i64 i] w fun r w' => r = .returned (.tuple #[.int .u8 n, .int .i64 e]) ∧ Below w.heap.size w w' := by
  subst hu hn he
  exact PBit_any l i w hl
theorem PTurn_is (l : List UInt8) (i : Int) (u : Value) (m : List UInt8) (e : Int) (w : World) (hu : u = .agg (l.map bv).toArray) (hl : l.length = 32) (hn : turnV l i = m) (he : bitE i = e) :
    Calls Try.prog 8 #[u, .int .i64 i] w fun r w' => r = .returned (.tuple #[.agg (m.map bv).toArray, .int .i64 e]) ∧ Below w.heap.size w w' := by
  subst hu hn he
  exact PTurn_any l i w hl

set_option maxRecDepth 100000 in
set_option maxHeartbeats 800000 in
theorem alive4_any (w : World) : Calls Try.prog 9 #[] w fun r w' => r = .returned (.bool true) ∧ Below w.heap.size w w' := by
  obtain ⟨ds, hds⟩ : ∃ ds, ds = ((kfst 129).map bv).toArray := ⟨_, rfl⟩
  have hsz : ds.size = 32 := by rw [hds]; rfl
  replace hds := hid hds
  have hz1 := heap_alloc_new w (.cells z32 26)
  go_enter Try.func9, Try.ntmps9
  go_wp2_with (first
    | (with_reducible refine wpList_alloc_row rfl 26 rfl z32 info32 ?_)
    | ((with_reducible refine wpList_store_row rfl 26 (.tmp 1) (.tmp 2) rfl _ _ rfl rfl 26 z32 ?_ ?_ ?_ ?_ ?_); exact hz1; exact size32; rfl; decide +kernel; intro w4 hg4 hb4 hs4; have hg5 : w4.heap[w.heap.size]? = some (.cells ds 26 (0, 0)) := (by rw [hds.out]; exact hg4); clear hg4)
    | ((with_reducible refine wpList_load_rowg rfl 26 (.tmp 1) rfl w.heap.size rfl 26 ds (0, 0) _ ?_ Try.underlying26 rfl ?_ ?_); exact hg5; (rw [hsz]; exact size32)))
  have W4 := (ext_alloc w (.cells z32 26)).grown hb4 (by simp) (by intro k hk; injection hk with hk; omega)
  clear hb4 hs4 hz1
  refine (bit4_is (kfst 129) 0 1 _ _ true _ (by rw [hds.out]) rfl rfl (by decide +kernel)).mono ?_
  rintro e w5 ⟨rfl, hb5⟩
  replace hg5 := (hb5.block _ (block_lt hg5)).trans hg5
  have W5 := ext_trans W4 hb5
  clear hb5 W4
  go_wp2_with (((with_reducible refine wpList_load_rowg rfl 26 (.tmp 1) rfl w.heap.size rfl 26 ds (0, 0) _ ?_ Try.underlying26 rfl ?_ ?_); exact hg5; (rw [hsz]; exact size32)))
  refine (bit4_is (kfst 129) 1 0 _ _ true _ (by rw [hds.out]) rfl rfl (by decide +kernel)).mono ?_
  rintro e w6 ⟨rfl, hb6⟩
  replace hg5 := (hb6.block _ (block_lt hg5)).trans hg5
  have W6 := ext_trans W5 hb6
  clear hb6 W5
  go_wp2_with (((with_reducible refine wpList_load_rowg rfl 26 (.tmp 1) rfl w.heap.size rfl 26 ds (0, 0) _ ?_ Try.underlying26 rfl ?_ ?_); exact hg5; (rw [hsz]; exact size32)))
  refine (bit4_is (kfst 129) 7 1 _ _ true _ (by rw [hds.out]) rfl rfl (by decide +kernel)).mono ?_
  rintro e w7 ⟨rfl, hb7⟩
  have W7 := ext_trans W6 hb7
  clear hb7 W6
  go_wp2_with fail
  refine (PShared_is (kfst 128) (kfst 192) _ _ 1 _ rfl rfl rfl rfl (by decide +kernel)).mono ?_
  rintro e w8 ⟨rfl, hb8⟩
  go_wp2_with fail
  go_ret
  exact ⟨rfl, ext_trans W7 hb8⟩
end Go.Proofs.Ytcnehjnphfmhjaa
