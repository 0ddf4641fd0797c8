/-
  The document's answers of layer 6: right, May, Check.
-/
import Derived.Test.YtnoglodggchgpabDoorRef06a
import Derived.Test.YtnoglodggchgpabDoorBits
import Derived.Test.YtnoglodggchgpabDoorMem
import Derived.IntWalk
import Derived.Test.YtnoglodggchgpabDoorRef04t
namespace Go.Proofs.YtnoglodggchgpabDoor
open Go.RowKit
set_option linter.unusedVariables false
set_option linter.unusedSimpArgs false
set_option maxRecDepth 100000

theorem boxesTD (w : World) (A : Option Addr) (n c : Nat) (root : Int) (b : Dg) (t u : TypeId) :
    BoxT ((w.alloc (.cells #[.slice A n c, .int .i64 root] t)).alloc (.cells (b.1.map bv).toArray u)) w.heap.size A n c root ∧ ((w.alloc (.cells #[.slice A n c, .int .i64 root] t)).alloc (.cells (b.1.map bv).toArray u)).rangeAt (w.heap.size + 1) 0 (b.1.map bv) ∧
    Below w.heap.size w ((w.alloc (.cells #[.slice A n c, .int .i64 root] t)).alloc (.cells (b.1.map bv).toArray u)) := by
  have h1 := BoxT.new w A n c root t
  have h2 := rangeOf (heap_alloc_new (w.alloc (.cells #[.slice A n c, .int .i64 root] t)) (.cells (b.1.map bv).toArray u))
  rw [World.size_alloc] at h2
  exact ⟨h1.bel (ext_alloc _ _), h2, ext_trans (ext_alloc _ _) (ext_alloc _ _)⟩

theorem xnew_ {w0 w4 : World} {o : Obj} {k : Nat} (hk : k = w0.heap.size) (hb : (w0.alloc o).grownBy w4 (some k)) : Below w0.heap.size w0 w4 :=
  (ext_alloc w0 o).grown hb (ext_alloc w0 o).size (fun g e => by injection e with e; omega)

theorem ones_iff {ns : List Nd} : Ones ns ↔ ∀ i (h : i < ns.length), oneN ns[i] i = true := Iff.rfl
end Go.Proofs.YtnoglodggchgpabDoor
