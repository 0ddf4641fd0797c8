/-
  Texts laid together: Ref05o, Ref05r.
-/
import Derived.Test.YtfjkcdccnbggnaaDoorBits
import Derived.Test.YtfjkcdccnbggnaaDoorPlain
import Derived.Test.YtfjkcdccnbggnaaDoorShaR
import Derived.Test.YtfjkcdccnbggnaaDoorMem
import Derived.Deep.RegionWith
import Derived.IntWalk
import Derived.Test.YtfjkcdccnbggnaaDoorRefE
set_option maxRecDepth 100000
/- (Ref05o)
  The document's answers of layer 5: the root of pairs.
-/
namespace Go.Proofs.YtfjkcdccnbggnaaDoor
open Go.RowKit
set_option linter.unusedVariables false
set_option linter.unusedSimpArgs false
set_option maxRecDepth 100000

/-- All of an array of 32 bytes, cut. -/
theorem run_all32 (a : Addr) (w : World) : (Instr.sliceAt 23 (.pointer (some a)) none none none).run Tryd.prog w = .ok (.slice (some a) 32 32) w := by
  have hu := Tryd.underlying23
  have h := run_sliceAt_array_all (P := Tryd.prog) w 23 a (by rw [hu]; rfl)
  rw [h]
  rfl
theorem sizePr2 (k : Dg) (x : Value) : (Tryd.prog.info? 26).map (·.size) = some (k.1.map bv ++ [x]).length := by
  have h := slotPr.info
  rw [len_pr]
  cases hi : Tryd.prog.info? 26 with
  | none => rw [hi] at h; cases h
  | some i =>
    rw [hi] at h
    simp at h
    simp [h.2.1]
theorem rd_key {w : World} {b o : Nat} {k : Dg} (h : w.rangeAt b o (k.1.map bv)) : Rd w (some ⟨b, o, none⟩) k.1 := fun _ => ⟨b, o, rfl, fun j x hx => h j (bv x) (by rw [List.getElem?_map, hx]; rfl)⟩
theorem tag2_le (k : UInt8) {l m : List UInt8} (hl : l.length ≤ 64) (hm : m.length ≤ 64) : (tagB k [l, m]).length ≤ 100000 := by
  have h := tagB_le k [l, m] 64 (by intro x hx; simp at hx; rcases hx with rfl | rfl <;> assumption)
  simp only [List.length_cons, List.length_nil] at h
  omega


theorem zeros_take {d : Nat} {ps : List Pr} {j : Nat} (hj : j < ps.length) : zeros d (ps.take (j + 1)) = zeros d (ps.take j) ++ (if oneP d ps[j] = true then [] else [ps[j]]) := by
  unfold zeros
  rw [List.take_succ_eq_append_getElem hj, List.filter_append]
  congr 1
  by_cases h : oneP d ps[j] = true <;> simp [h]
theorem ones_take {d : Nat} {ps : List Pr} {j : Nat} (hj : j < ps.length) : ones d (ps.take (j + 1)) = ones d (ps.take j) ++ (if oneP d ps[j] = true then [ps[j]] else []) := by
  unfold ones
  rw [List.take_succ_eq_append_getElem hj, List.filter_append]
  congr 1
  by_cases h : oneP d ps[j] = true <;> simp [h]
theorem kb_one {d : Nat} {p : Pr} (b : Bool) (h : oneP d p = b) : kb p.k.1 d = if b = true then 1 else 0 := by
  subst h
  unfold oneP
  have := kb_lt p.k.1 d
  by_cases h : kb p.k.1 d = 1
  · simp [h]
  · simp [h]; omega
theorem rd_block {w : World} {g : Nat} {l : List UInt8} {t : TypeId} (h : w.heap[g]? = some (.cells (l.map bv).toArray t (0, 0))) : Rd w (some ⟨g, 0, none⟩) l := fun _ => ⟨g, 0, rfl, fun j x hx => by
  rw [cell_of_row w g (0 + j) _ t (0, 0) h, Nat.zero_add, List.getElem?_toArray, List.getElem?_map, hx]; rfl⟩


theorem len_zeros (d : Nat) (ps : List Pr) : (zeros d ps).length ≤ ps.length := List.length_filter_le _ _
theorem len_ones (d : Nat) (ps : List Pr) : (ones d ps).length ≤ ps.length := List.length_filter_le _ _

def rootE (ps : List Pr) : Int := if mayP ps = true then 0 else 8
def rootL (ps : List Pr) : List UInt8 := if mayP ps = true then rootP 256 ps 0 else List.replicate 32 0
end Go.Proofs.YtfjkcdccnbggnaaDoor

/- (Ref05r)
  The document's answers of layer 5: Root.
-/
namespace Go.Proofs.YtfjkcdccnbggnaaDoor
open Go.RowKit
set_option linter.unusedVariables false
set_option linter.unusedSimpArgs false
set_option maxRecDepth 100000

theorem may_len {ps : List Pr} (h : mayP ps = true) : ps.length ≤ 512 ∧ Srt ps ∧ ∀ p ∈ ps, p.v.length ≤ 64 := by
  unfold mayP at h
  rw [Bool.and_eq_true, decide_eq_true_eq] at h
  obtain ⟨h1, h2⟩ := chain_srt ps h.2
  exact ⟨h.1, h1, fun p hp => by have := h2 p hp; unfold valB at this; simp at this; omega⟩
theorem rootL_length (ps : List Pr) : (rootL ps).length = 32 := by
  unfold rootL
  split
  · exact rootP_length _ _ _
  · simp

end Go.Proofs.YtfjkcdccnbggnaaDoor
