/-
  Contracts of the landed package path: Ahead.
-/
import Derived.Test.YtiogdenlaelkbaaPathC
namespace Go.Proofs.Ytiogdenlaelkbaa
open Go.RowKit Go.Shelf
set_option linter.unusedVariables false
set_option linter.unusedSimpArgs false

theorem PAhead_any (l m : List UInt8) (w : World) (hl : l.length = 32) (hm : m.length = 32) :
    Calls Try.prog 31 #[.agg (l.map bv).toArray, .agg (m.map bv).toArray] w fun r w' => r = .returned ((.bool (ahead l m))) ∧ Below w.heap.size w w' := by
  obtain ⟨ds, hds⟩ : ∃ ds, ds = (l.map bv).toArray := ⟨_, rfl⟩
  have hsz : ds.size = 32 := by rw [hds]; simp [hl]
  obtain ⟨es, hes⟩ : ∃ es, es = (m.map bv).toArray := ⟨_, rfl⟩
  have hsy : es.size = 32 := by rw [hes]; simp [hm]
  have hP := fun W => parting_any l m W hl hm
  rw [← hds, ← hes] at hP ⊢
  clear hds hes
  generalize (shared l m : Int) = sv at *
  generalize ahead l m = ab at *
  have hd1 := heap_alloc_new w (.cells ds 24)
  have hd2 := heap_alloc_new (w.alloc (.cells ds 24)) (.cells es 24)
  rw [World.size_alloc] at hd2
  have hd3 := (Below.heap_alloc (w.alloc (.cells ds 24)) (.cells es 24) w.heap.size (by simp)).trans hd1
  replace hP := hid hP
  go_enter Try.func31, Try.ntmps31
  go_wp2_with (first
    | ((with_reducible refine wpList_load_row rfl 24 (.tmp 2) rfl w.heap.size rfl 24 ds (0, 0) _ ?_ Try.underlying24 rfl ?_ ?_); exact hd3; (rw [hsz]; exact size32))
    | ((with_reducible refine wpList_load_row rfl 24 (.tmp 3) rfl (w.heap.size + 1) rfl 24 es (0, 0) _ ?_ Try.underlying24 rfl ?_ ?_); exact hd2; (rw [hsy]; exact size32))
    | (go_at_call 39; refine (hP.out _).mono ?_; rintro e w1 ⟨rfl, hb1⟩))
  go_ret
  exact ⟨rfl, ext_trans (ext_trans (ext_alloc w (.cells ds 24)) (ext_alloc _ (.cells es 24))) hb1⟩
end Go.Proofs.Ytiogdenlaelkbaa
