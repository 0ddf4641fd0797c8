/-
  Layer 13's examples: sides of the chapter's rows, what fits them; a made slice of empty rows.
-/
import Derived.Test.YtgmlmkhiflnhdaaDoorAlive13b
import Derived.Test.YtgmlmkhiflnhdaaDoorRwT
namespace Go.Proofs.YtgmlmkhiflnhdaaDoor
open Go.RowKit
set_option linter.unusedVariables false
set_option linter.unusedSimpArgs false
set_option maxRecDepth 100000

theorem first3 : firstN abcR.length = 2 := by decide +kernel
theorem sides_abc0 : sidesR abcR 0 = [lbR, lcR] := by
  rw [sidesR_left (by decide) (by rw [first3]; decide), first3]
  show sidesR [[97], [98]] 0 ++ [rootR [[99]]] = _
  rw [sidesR_left (by decide) (by decide +kernel), show firstN [[(97 : UInt8)], [98]].length = 1 from by decide +kernel]
  show (sidesR [[97]] 0 ++ [rootR [[98]]]) ++ [rootR [[99]]] = _
  rw [sidesR_one (by decide)]
  rfl
theorem sides_abc2 : sidesR abcR 2 = [forkR laR lbR] := by
  rw [sidesR_right (by decide) (by rw [first3]; decide), first3]
  show sidesR [[99]] 0 ++ [rootR [[97], [98]]] = _
  rw [sidesR_one (by decide), rootR_more (by decide), show firstN [[(97 : UInt8)], [98]].length = 1 from by decide +kernel]
  rfl
theorem sidesE_abc (i : Int) : sidesE abcR i = if i < 0 ∨ (3 : Int) ≤ i then 2 else 0 := by
  unfold sidesE
  rw [if_pos abc_list]
  rfl
theorem sidesL_abc0 : sidesL abcR 0 = [lbR, lcR] := by unfold sidesL; rw [sidesE_abc, if_pos (by decide)]; exact sides_abc0
theorem sidesL_abc2 : sidesL abcR 2 = [forkR laR lbR] := by unfold sidesL; rw [sidesE_abc, if_pos (by decide)]; exact sides_abc2
theorem sidesL_abc3 : sidesL abcR 3 = [] := by unfold sidesL; rw [sidesE_abc, if_neg (by decide)]
theorem fits_abc : fitsR (forkR (forkR laR lbR) lcR) 3 2 [99] [forkR laR lbR] = true := by
  have h := fits_sides abc_list (show 2 < abcR.length by decide)
  rw [root_abc, sides_abc2] at h
  exact h
theorem fits_abc1 (r s : Dg) : fitsR r 3 1 [99] [s] = false := by
  have h := madeR_left (n := 3) (i := 1) (by decide) (by decide +kernel) [99] [] s
  rw [show firstN 3 = 2 from by decide +kernel, madeR_nil (by decide)] at h
  unfold fitsR
  rw [if_neg (by decide), show (3 : Int).toNat = 3 from rfl, show (1 : Int).toNat = 1 from rfl, show ([s] : List Dg) = [] ++ [s] from rfl, h]
  rfl
theorem fits_abc4 (r s : Dg) : fitsR r 4 2 [99] [s] = false := by
  have h := madeR_right (n := 4) (i := 2) (by decide) (by decide +kernel) [99] [] s
  rw [show firstN 4 = 2 from by decide +kernel, madeR_nil (by decide)] at h
  unfold fitsR
  rw [if_neg (by decide), show (4 : Int).toNat = 4 from rfl, show (2 : Int).toNat = 2 from rfl, show ([s] : List Dg) = [] ++ [s] from rfl, h]
  rfl
theorem many_list : listR (List.replicate 257 []) = false := by unfold listR; rw [List.length_replicate]; rfl
theorem made_sls {w : World} {B g n : Nat} {E : TypeId} (h : w.ownsRow B E 1 (.slice (some ⟨g, 0, none⟩) n n) n (madeCells (Value.slice none 0 0).cells (n * 1)).toList) : Rds w (some ⟨g, 0, none⟩) (List.replicate n []) := fun _ => by
  rcases h.2 with ⟨hv, _⟩ | ⟨g', cap, cur, hv, hb, hg, hnc, hcm, hsz, ht⟩
  · cases hv
  · injection hv with hA _ hc
    injection hA with hA
    injection hA with hA
    subst hA hc
    refine ⟨g, 0, rfl, fun j l hl => ?_⟩
    have hj : j < n := by have := (List.getElem?_eq_some_iff.1 hl).1; simpa using this
    rw [List.getElem?_replicate, if_pos hj] at hl
    injection hl with hl
    subst hl
    refine ⟨none, 0, ?_, fun h => absurd h (by simp), Nat.le_refl _, Nat.zero_le _⟩
    rw [cell_of_row w g (0 + j) cur E (0, 0) hg, Nat.zero_add]
    have h1 : (cur.toList.take (n * 1))[j]? = some (Value.slice none 0 0) := by
      rw [ht]
      simp [madeCells, Value.cells, hj, Nat.mod_one]
    rw [List.getElem?_take, if_pos (by omega)] at h1
    simpa using h1
theorem row_dgsN (w : World) (ds : List Dg) (E : TypeId) : Row (fun b => w.heap.size ≤ b ∧ b < w.heap.size + 1) (w.alloc (.cells ((ds.map fun d => d.1.map bv).flatten).toArray E)) (some ⟨w.heap.size, 0, none⟩) ds := fun hn =>
  ⟨w.heap.size, 0, rfl, ⟨Nat.le_refl _, Nat.lt_succ_self _⟩, by simp, cells_all (F := fun b => w.heap.size ≤ b ∧ b < w.heap.size + 1) (by simp) fun j x vs hx hv => by
    rw [List.getElem?_map, hx] at hv
    injection hv with hv
    subst hv
    rfl⟩
theorem row_twoN (w : World) (a b : Dg) (E : TypeId) : Row (fun b => w.heap.size ≤ b ∧ b < w.heap.size + 1) (w.alloc (.cells (a.1.map bv ++ b.1.map bv).toArray E)) (some ⟨w.heap.size, 0, none⟩) [a, b] := by
  have h := row_dgsN w [a, b] E
  rw [show (([a, b].map fun d => d.1.map bv).flatten) = a.1.map bv ++ b.1.map bv by simp] at h
  exact h
theorem row_oneN (w : World) (a : Dg) (E : TypeId) : Row (fun b => w.heap.size ≤ b ∧ b < w.heap.size + 1) (w.alloc (.cells (a.1.map bv).toArray E)) (some ⟨w.heap.size, 0, none⟩) [a] := by
  have h := row_dgsN w [a] E
  rw [show (([a].map fun d => d.1.map bv).flatten) = a.1.map bv by simp] at h
  exact h
end Go.Proofs.YtgmlmkhiflnhdaaDoor
