/-
 Texts laid together: ShaE.
-/
import Derived.Test.YtmjocmogfckmmaaBits
import Derived.Test.YtmjocmogfckmmaaPlain
import Derived.StillTailTactics
import Derived.RegionTactic
import Derived.BigRegion
import Derived.Deep.RegionHeld3
import Derived.Test.YtmjocmogfckmmaaShaR
set_option maxRecDepth 100000
set_option linter.unusedVariables false
set_option linter.unusedSimpArgs false
namespace Go.Proofs.Ytmjocmogfckmmaa
/- (ShaE)
 The landed package sha: the end is padded; the digest is told.
-/
section
open Go.RowKit




/-! ### the digest -/
structure DI (w wr : World) (l : List UInt8) (i : Nat) : Prop where
 below : Below w.heap.size w wr
 res : wr.heap[w.heap.size]? = some (.cells z32 27 (0, 0))
 cur : wr.heap[w.heap.size + 1]? = some (.cells ((upTo l i).map bv).toArray 27 (0, 0))

theorem DI.new (w : World) (l : List UInt8) : DI w ((w.alloc (.cells z32 27)).alloc (.cells z32 27)) l 0 :=
 ⟨(ext_alloc w _).alloc (by simp) _, (Below.heap_alloc _ _ _ (by simp)).trans (heap_alloc_new w _), by
  have e : (w.alloc (.cells z32 27)).heap.size = w.heap.size + 1 := by simp
  rw [← e, upTo_zero]
  exact heap_alloc_new (w.alloc (.cells z32 27)) (.cells z32 27)⟩


/-! ### Of -/
end
end Go.Proofs.Ytmjocmogfckmmaa
