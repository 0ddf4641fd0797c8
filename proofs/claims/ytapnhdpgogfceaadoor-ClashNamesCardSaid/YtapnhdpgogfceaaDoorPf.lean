/-
  Proofs in memory: a proof's 67 cells; what a proof may end as. No program is named here.
-/
import Derived.Test.YtapnhdpgogfceaaDoorNode
import Derived.Test.YtapnhdpgogfceaaDoorPlain
namespace Go.Proofs.YtapnhdpgogfceaaDoor
open Go.RowKit
set_option linter.unusedVariables false

structure Pf where
  k : Dg
  e : UInt8
  o : Dg
  v : List UInt8
  ss : List Dg
deriving DecidableEq
instance : Enc Pf := Enc.by_ fun x => (x.k, x.e, x.o, x.v, x.ss)
/-- A proof's cells. -/
def pfC (x : Pf) (A : Option Addr) (c : Nat) (D : Option Addr) (d : Nat) : List Value := x.k.1.map bv ++ ([bv x.e] ++ (x.o.1.map bv ++ ([.slice A x.v.length c] ++ [.slice D x.ss.length d])))
def pf0 : Pf := ⟨z0, 0, z0, [], []⟩
/-- It may end as it does. -/
def endP (x : Pf) : Bool := if x.e = 0 then decide (x.o = z0) && decide (x.v = []) else if x.e = 1 then decide (x.o = z0) && valB x.v else if x.e = 2 then (decide (x.o ≠ x.k) && decide (x.ss.length ≤ shared x.o.1 x.k.1)) && valB x.v else false
def mayF (x : Pf) : Bool := decide (x.ss.length ≤ 256) && endP x
/-- What it tells. -/
def toldF (x : Pf) : Bool := mayF x && decide (x.e = 1)
theorem len_pf (x : Pf) (A : Option Addr) (c : Nat) (D : Option Addr) (d : Nat) : (pfC x A c D d).length = 67 := by simp [pfC, x.k.2, x.o.2]
theorem one_pf (x : Pf) (A : Option Addr) (c : Nat) (D : Option Addr) (d : Nat) : (pfC x A c D d).toArray.all (·.oneCell') = true := all_oneCell_toArray fun u hu => by
  simp only [pfC, List.mem_append, List.mem_singleton] at hu
  rcases hu with h | rfl | h | rfl | rfl
  · exact bvs_one _ u h
  · rfl
  · exact bvs_one _ u h
  · rfl
  · rfl
/-- A proof in a box of its own: its parts. -/
structure BoxP (W : World) (g : Nat) (x : Pf) (A : Option Addr) (c : Nat) (D : Option Addr) (d : Nat) : Prop where
  all : W.rangeAt g 0 (pfC x A c D d)
  key : W.rangeAt g 0 (x.k.1.map bv)
  en : W.cell? ⟨g, 32, none⟩ = some (bv x.e)
  oth : W.rangeAt g 33 (x.o.1.map bv)
  val : W.cell? ⟨g, 65, none⟩ = some (.slice A x.v.length c)
  sd : W.cell? ⟨g, 66, none⟩ = some (.slice D x.ss.length d)
theorem BoxP.of {W : World} {g : Nat} {x : Pf} {A D : Option Addr} {c d : Nat} (h : W.rangeAt g 0 (pfC x A c D d)) : BoxP W g x A c D d := by
  have hk : (x.k.1.map bv).length = 32 := by rw [List.length_map, x.k.2]
  have ho : (x.o.1.map bv).length = 32 := by rw [List.length_map, x.o.2]
  have h1 := range_sub (xs := []) h 0 rfl
  have h2 := range_sub (xs := x.k.1.map bv) h 32 hk
  have e : pfC x A c D d = (x.k.1.map bv ++ [bv x.e]) ++ (x.o.1.map bv ++ ([.slice A x.v.length c] ++ [.slice D x.ss.length d])) := by simp [pfC]
  have e2 : pfC x A c D d = (x.k.1.map bv ++ [bv x.e] ++ x.o.1.map bv) ++ ([.slice A x.v.length c] ++ [.slice D x.ss.length d]) := by simp [pfC]
  have e3 : pfC x A c D d = (x.k.1.map bv ++ [bv x.e] ++ x.o.1.map bv ++ [.slice A x.v.length c]) ++ ([.slice D x.ss.length d] ++ []) := by simp [pfC]
  have h3 := h
  rw [e] at h3
  replace h3 := range_sub h3 33 (by simp [hk])
  have h4 := h
  rw [e2] at h4
  replace h4 := range_sub h4 65 (by simp [hk, ho])
  have h5 := h
  rw [e3] at h5
  replace h5 := range_sub h5 66 (by simp [hk, ho])
  have g0 : W.rangeAt g 0 (x.k.1.map bv) := fun j v hv => h j v (by unfold pfC; rw [List.getElem?_append_left (List.getElem?_eq_some_iff.1 hv).1]; exact hv)
  rw [Nat.zero_add] at h2 h3 h4 h5
  exact ⟨h, g0, range_one h2, h3, range_one h4, range_one h5⟩
theorem BoxP.bel {W W' : World} {g : Nat} {x : Pf} {A D : Option Addr} {c d : Nat} (h : BoxP W g x A c D d) (hb : Below W.heap.size W W') : BoxP W' g x A c D d := BoxP.of (rangeBel2 hb h.all)
theorem BoxP.lt {W : World} {g : Nat} {x : Pf} {A D : Option Addr} {c d : Nat} (h : BoxP W g x A c D d) : g < W.heap.size := World.block_lt_of_cell? _ _ h.en
theorem BoxP.new (W : World) (x : Pf) (A : Option Addr) (c : Nat) (D : Option Addr) (d : Nat) (t : TypeId) : BoxP (W.alloc (.cells (pfC x A c D d).toArray t)) W.heap.size x A c D d := BoxP.of (rangeOf (heap_alloc_new W _))
theorem BoxP.heap {W : World} {g : Nat} {x : Pf} {A D : Option Addr} {c d : Nat} {t : TypeId} (h : W.heap[g]? = some (.cells (pfC x A c D d).toArray t (0, 0))) : BoxP W g x A c D d := BoxP.of (rangeOf h)
end Go.Proofs.YtapnhdpgogfceaaDoor
