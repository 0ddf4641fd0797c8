/-
  How long what is found is; the digest of one text.
-/
import Derived.Test.YtapnhdpgogfceaaDoorClQ
import Derived.Test.YtapnhdpgogfceaaDoorVfX
import Derived.Test.YtapnhdpgogfceaaDoorClB
namespace Go.Proofs.YtapnhdpgogfceaaDoor
open Go.RowKit
set_option linter.unusedVariables false
set_option linter.unusedSimpArgs false
set_option maxRecDepth 100000

theorem inL_le9 (x : Pf) (hv : x.v.length ≤ 1000) : ∀ (ss : List Dg) (i : Nat) (l : List UInt8), l ∈ inL x i ss → l.length ≤ 3000
  | [], i, l, h => by
    have : l = endI x := by simpa [inL] using h
    rw [this]
    exact endI_le x hv
  | s :: ss, i, l, h => by
    rcases List.mem_cons.1 (show l ∈ forkI x.k i s (sha256 ((inL x (i + 1) ss).headD [])) :: inL x (i + 1) ss from h) with h | h
    · rw [h]; exact forkI_le _ _ _ _ (shaLen _)
    · exact inL_le9 x hv ss (i + 1) l h
theorem firstI_mem : ∀ (ls ms : List (List UInt8)), ((firstI ls ms).1 ∈ ls ∨ (firstI ls ms).1 = []) ∧ ((firstI ls ms).2 ∈ ms ∨ (firstI ls ms).2 = [])
  | [], ms => ⟨.inr rfl, .inr rfl⟩
  | x :: l, [] => ⟨.inr rfl, .inr rfl⟩
  | x :: l, y :: m => by
    rw [firstI_cons]
    split
    · obtain ⟨h1, h2⟩ := firstI_mem l m
      exact ⟨h1.imp (List.mem_cons_of_mem _) id, h2.imp (List.mem_cons_of_mem _) id⟩
    · exact ⟨.inl (List.mem_cons_self ..), .inl (List.mem_cons_self ..)⟩
theorem firstI_len (x y : Pf) (h1 : mayF x = true) (h2 : mayF y = true) : (firstI (inP x) (inP y)).1.length ≤ 1000000 ∧ (firstI (inP x) (inP y)).2.length ≤ 1000000 := by
  obtain ⟨h3, h4⟩ := firstI_mem (inP x) (inP y)
  have a := fun l h => inL_le9 x (may_small h1).1 x.ss 0 l h
  have b := fun l h => inL_le9 y (may_small h2).1 y.ss 0 l h
  constructor
  · rcases h3 with h | h
    · exact Nat.le_trans (a _ h) (by omega)
    · rw [h]; simp
  · rcases h4 with h | h
    · exact Nat.le_trans (b _ h) (by omega)
    · rw [h]; simp
theorem seekP_len (x y : Pf) : (seekP x y).1.length ≤ 1000000 ∧ (seekP x y).2.length ≤ 1000000 := by
  unfold seekP
  split
  · rename_i h
    simp only [Bool.and_eq_true] at h
    exact firstI_len x y h.1 h.2.1
  · simp
theorem ofP_len (t : Tr) (y : Pf) : (ofP t y).1.length ≤ 1000000 ∧ (ofP t y).2.length ≤ 1000000 := by
  unfold ofP
  split
  · rename_i h
    simp only [Bool.and_eq_true] at h
    exact firstI_len _ y (makeF_may y.k h.1) h.2.1
  · simp
theorem Of9_any (A : Option Addr) (c : Nat) (l : List UInt8) (W : World) (h : Rd W A l) (h1 : l.length ≤ c) (h2 : c ≤ maxLen) (hl : l.length ≤ 1000000) (hT : Tab W) :
    Calls Tryd.prog 15 #[.slice (some ⟨W.heap.size, 0, none⟩) 1 1] (W.alloc (.cells #[.slice A l.length c] 22)) fun e w' => e = .returned (.agg ((sha256 l).map bv).toArray) ∧ Below W.heap.size W w' := by
  have hb := ext_alloc W (.cells #[.slice A l.length c] 22)
  have hR : Rds (W.alloc (.cells #[.slice A l.length c] 22)) (some ⟨W.heap.size, 0, none⟩) [l] := rds_one W A c l 22 h ⟨h1, h2⟩
  refine (Of_any _ 1 1 [l] _ hR rfl (by simp) (by simpa using hl) (hT.bel hb hT.low)).mono ?_
  rintro e w' ⟨rfl, hb2⟩
  refine ⟨by simp, hb.trans (hb2.mono hb.size)⟩
end Go.Proofs.YtapnhdpgogfceaaDoor
