/-
  The law's first examples: the digests of nothing and of 'abc'.
-/
import Derived.Test.YtbindnoncghjjaaDoorShaE
import Derived.Test.YtbindnoncghjjaaDoorShaG
import Derived.Lib.SlBytesConst
namespace Go.Proofs.YtbindnoncghjjaaDoor
open Go.RowKit
set_option linter.unusedVariables false

/-- A literal of slices of bytes, just laid. -/
theorem Rds.lit (w : World) (t : TypeId) (vs : List (Option Addr × Nat × List UInt8)) (cs : Array Value) (g : Nat) (hg : w.heap.size = g) (hcs : cs = (vs.map fun x => Value.slice x.1 x.2.2.length x.2.1).toArray)
    (h : ∀ x ∈ vs, Rd w x.1 x.2.2 ∧ x.2.2.length ≤ x.2.1 ∧ x.2.1 ≤ maxLen) : Rds (w.alloc (.cells cs t)) (some ⟨g, 0, none⟩) (vs.map (·.2.2)) := by
  subst hg hcs
  intro hn
  refine ⟨w.heap.size, 0, rfl, fun j l hl => ?_⟩
  rw [List.getElem?_map] at hl
  obtain ⟨x, hx, rfl⟩ := Option.map_eq_some_iff.1 hl
  obtain ⟨h1, h2, h3⟩ := h x (List.mem_of_getElem? hx)
  refine ⟨x.1, x.2.1, ?_, h1.alloc _, h2, h3⟩
  rw [cell_of_row _ w.heap.size (0 + j) _ t (0, 0) (heap_alloc_new w _), Nat.zero_add, List.getElem?_toArray, List.getElem?_map, hx]
  rfl
theorem Rds.nil (w : World) : Rds w none [] := fun hn => absurd hn (by simp)

theorem hex_nothing : ((bstr (hexL (sha256 []))).toList == [101, 51, 98, 48, 99, 52, 52, 50, 57, 56, 102, 99, 49, 99, 49, 52, 57, 97, 102, 98, 102, 52, 99, 56, 57, 57, 54, 102, 98, 57, 50, 52, 50, 55, 97, 101, 52, 49, 101, 52, 54, 52, 57, 98, 57, 51, 52, 99, 97, 52, 57, 53, 57, 57, 49, 98, 55, 56, 53, 50, 98, 56, 53, 53]) = true := by rw [bstr_toList]; decide +kernel
theorem hex_abc : ((bstr (hexL (sha256 [97, 98, 99]))).toList == [98, 97, 55, 56, 49, 54, 98, 102, 56, 102, 48, 49, 99, 102, 101, 97, 52, 49, 52, 49, 52, 48, 100, 101, 53, 100, 97, 101, 50, 50, 50, 51, 98, 48, 48, 51, 54, 49, 97, 51, 57, 54, 49, 55, 55, 97, 57, 99, 98, 52, 49, 48, 102, 102, 54, 49, 102, 50, 48, 48, 49, 53, 97, 100]) = true := by rw [bstr_toList]; decide +kernel
theorem Rd.litf (w : World) (t : TypeId) (l : List UInt8) (cs : Array Value) (g : Nat) (fr : Nat × Nat) (hg : w.heap.size = g) (h : cs = (l.map bv).toArray) : Rd (w.alloc (.cells cs t fr)) (some ⟨g, 0, none⟩) l := by
  subst h hg
  intro hn
  refine ⟨w.heap.size, 0, rfl, fun j x hx => ?_⟩
  rw [cell_of_row _ w.heap.size (0 + j) (l.map bv).toArray t fr (heap_alloc_new w _)]
  simp [hx]
theorem conv_lit (w : World) (C : Array Value) (n c : Nat) : (convert 25 25 (.slice (some ⟨w.heap.size, 0, none⟩) n c)).run Tryd.prog (w.alloc (.cells C 5)) = .ok (.slice (some ⟨w.heap.size, 0, none⟩) n c) (w.alloc (.cells C 5 (C.size, C.size + 1))) :=
  Lib.run_convert_bytes_const w 25 5 C n c Tryd.underlying25 Tryd.underlying5

set_option maxRecDepth 100000 in
theorem alive2_any (w : World) (hT : Tab w) : Calls Tryd.prog 9 #[] w fun r w' => r = .returned (.bool true) ∧ Below w.heap.size w w' := by
  have hw0 := hT.low
  replace hT := hid hT
  go_enter Tryd.func9, Tryd.ntmps9
  go_wp2_with fail
  refine (Of_any none 0 0 [] _ (Rds.nil _) rfl (by simp) (by simp) hT.out).mono ?_
  rintro e w1 ⟨rfl, B1⟩
  have l1 := hid (S8.bytes_len (stN (padded []) ((padded []).length / 64)))
  go_wp2_with fail
  refine (sHex_any (sha256 [].flatten) _ l1.out).mono ?_
  rintro e w2 ⟨rfl, B2⟩
  have q0 := hex_nothing
  have q1 := hex_abc
  have kc := conv_lit
  go_wp2_with fail
  refine (Of_any _ _ _ [[97, 98, 99]] _ ?_ rfl (by simp) (by simp) ?_).mono ?_
  · exact Rds.lit _ _ [(some ⟨w2.heap.size, 0, none⟩, 3, [97, 98, 99])] _ _ (by simp) rfl (by intro x hx; simp at hx; subst hx; exact ⟨Rd.litf _ _ _ _ _ _ rfl rfl, by simp, (by decide : 3 ≤ maxLen)⟩)
  · exact hT.out.bel (g := w.heap.size) (by (repeat (first | exact Below.refl _ _ | assumption | refine ext_trans ?_ (by assumption) | refine ext_trans ?_ (ext_alloc _ _)))) hw0
  rintro e w3 ⟨rfl, B3⟩
  have l2 := hid (S8.bytes_len (stN (padded [97, 98, 99]) ((padded [97, 98, 99]).length / 64)))
  go_wp2_with fail
  refine (sHex_any (sha256 [97, 98, 99]) _ l2.out).mono ?_
  rintro e w4 ⟨rfl, B4⟩
  go_wp2_with fail
  go_ret
  exact ⟨rfl, by (repeat (first | exact Below.refl _ _ | assumption | refine ext_trans ?_ (by assumption) | refine ext_trans ?_ (ext_alloc _ _)))⟩
end Go.Proofs.YtbindnoncghjjaaDoor
