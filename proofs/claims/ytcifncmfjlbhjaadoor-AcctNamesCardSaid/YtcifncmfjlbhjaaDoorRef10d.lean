/-
  The document's answers of layer 10: With, Set.
-/
import Derived.Test.YtcifncmfjlbhjaaDoorRef10c
import Derived.Test.YtcifncmfjlbhjaaDoorRefF
namespace Go.Proofs.YtcifncmfjlbhjaaDoor
open Go.RowKit
set_option linter.unusedVariables false
set_option linter.unusedSimpArgs false
set_option maxRecDepth 100000

theorem boxesDA (w : World) (k : Dg) (a : Ac) (t u : TypeId) :
    ((w.alloc (.cells (k.1.map bv).toArray t)).alloc (.cells (acC a).toArray u)).rangeAt w.heap.size 0 (k.1.map bv) ∧ ((w.alloc (.cells (k.1.map bv).toArray t)).alloc (.cells (acC a).toArray u)).rangeAt (w.heap.size + 1) 0 (acC a) ∧
    Below w.heap.size w ((w.alloc (.cells (k.1.map bv).toArray t)).alloc (.cells (acC a).toArray u)) := by
  have h1 := rangeOf (heap_alloc_new w (.cells (k.1.map bv).toArray t))
  have h2 := rangeOf (heap_alloc_new (w.alloc (.cells (k.1.map bv).toArray t)) (.cells (acC a).toArray u))
  rw [World.size_alloc] at h2
  exact ⟨rangeBel2 (ext_alloc _ _) h1, h2, ext_trans (ext_alloc _ _) (ext_alloc _ _)⟩
theorem ac_zero (a : Ac) : a = ac0 ↔ (((a.n : Int) == 0) = true ∧ ((a.b : Int) == 0) = true) := by
  constructor
  · rintro rfl; exact ⟨rfl, rfl⟩
  · intro h; simp at h; exact ac_ext h.1 h.2
/-- The pairs of a state with an account for a key. -/
def setL (t : Tr) (k : Dg) (a : Ac) : List Pr := if mayA t = true then setP (allT t) k a else []
theorem val_small {ps : List Pr} (h : ∀ p ∈ ps, valB p.v = true) : ∀ p ∈ ps, p.v.length ≤ 1000000 := fun p hp => by
  have := h p hp
  unfold valB at this
  have := of_decide_eq_true this
  omega
end Go.Proofs.YtcifncmfjlbhjaaDoor
