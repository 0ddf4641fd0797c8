/-
  The document's answers of layer 7: Same.
-/
import Derived.Test.YtapnhdpgogfceaaDoorPfM
import Derived.Test.YtapnhdpgogfceaaDoorTreeB
import Derived.Test.YtapnhdpgogfceaaDoorBits
import Derived.Test.YtapnhdpgogfceaaDoorMem
import Derived.Test.YtapnhdpgogfceaaDoorPlain
import Derived.IntWalk
namespace Go.Proofs.YtapnhdpgogfceaaDoor
open Go.RowKit
set_option linter.unusedVariables false
set_option linter.unusedSimpArgs false
set_option maxRecDepth 100000

theorem RSame01_is (A1 A2 : Option Addr) (c1 c2 : Nat) (l1 l2 : List UInt8) (b : Bool) (w : World) (h1 : Rd w A1 l1) (h2 : Rd w A2 l2) (he : decide (l1 = l2) = b) :
    Calls Tryd.prog 14 #[Value.slice A1 l1.length c1, .slice A2 l2.length c2] w fun e w' => e = .returned (.bool b) ∧ w = w' := by
  subst he
  by_cases h : l1 = l2
  · rw [decide_eq_true h]; exact Same_yes A1 A2 _ _ c1 c2 l1 l2 w h1 h2 rfl rfl h
  · rw [decide_eq_false h]; exact Same_no A1 A2 _ _ c1 c2 l1 l2 w h1 h2 rfl rfl h
theorem boxesPPr (w : World) (x y : Pf) (A A2 : Option Addr) (c c2 : Nat) (D D2 : Option Addr) (d d2 : Nat) (t : TypeId) :
    BoxP ((w.alloc (.cells (pfC x A c D d).toArray t)).alloc (.cells (pfC y A2 c2 D2 d2).toArray t)) w.heap.size x A c D d ∧ BoxP ((w.alloc (.cells (pfC x A c D d).toArray t)).alloc (.cells (pfC y A2 c2 D2 d2).toArray t)) (w.heap.size + 1) y A2 c2 D2 d2 ∧
    Below w.heap.size w ((w.alloc (.cells (pfC x A c D d).toArray t)).alloc (.cells (pfC y A2 c2 D2 d2).toArray t)) := by
  have h1 := BoxP.new w x A c D d t
  have h2 := BoxP.new (w.alloc (.cells (pfC x A c D d).toArray t)) y A2 c2 D2 d2 t
  rw [World.size_alloc] at h2
  exact ⟨h1.bel (ext_alloc _ _), h2, ext_trans (ext_alloc _ _) (ext_alloc _ _)⟩
end Go.Proofs.YtapnhdpgogfceaaDoor
