/-
  Layer 8's law: the chapter's first examples.
-/
import Derived.Test.YtapnhdpgogfceaaDoorVfX
import Derived.Test.YtapnhdpgogfceaaDoorRef07b
import Derived.Test.YtapnhdpgogfceaaDoorPfK
namespace Go.Proofs.YtapnhdpgogfceaaDoor
open Go.RowKit
set_option linter.unusedVariables false
set_option linter.unusedSimpArgs false
set_option maxRecDepth 100000

theorem slotU8 : Slot Tryd.prog UInt8 22 5 (.int .u8 0) 1 where
  under := Tryd.underlying22
  info := by kernel_rfl
  zero := rfl
  pos := by decide
theorem step_buildOneG {P : Program} {α : Type} [Enc α] {S E : TypeId} {z : Value} {bytes : Nat} (hS : Slot P α S E z bytes) (hsm : Enc.size α ≤ 16777216) {w : World} {ops : Array Oper} {o : Oper} {a : Act} {K : Act → World → Prop} {Q : Exit → Act → World → Prop} {X : Prop} (hw : Region.wanted o (yielded ops a.tmps) = true)
    (x : Operand) (hop : o.op = .buildSlice S 1 #[(0, x)]) (cs : List Value) (hx : (a.eval x).cells = cs.toArray) (hcs : cs.length = Enc.size α)
    (hK : K (a.put o.dst (.slice (some ⟨w.heap.size, 0, none⟩) 1 1)) (w.alloc (.cells cs.toArray E))) : if Region.wanted o (yielded ops a.tmps) = true then Oper.wp P o a w K Q else X := by
  rw [if_pos hw]
  exact wp_buildOne hS hsm x hop cs hx hcs hK
theorem may0 : mayF pf0 = true := by decide +kernel
theorem in0 : inP pf0 = [[0]] := by decide +kernel
theorem root0 : (rootM pf0).1 = sha256 [0] := by
  have : rootM pf0 = rootV pf0 := by unfold rootM; rw [may0]; rfl
  rw [this]
  show sha256 ((inP pf0).headD []) = _
  rw [in0]
  rfl
end Go.Proofs.YtapnhdpgogfceaaDoor
