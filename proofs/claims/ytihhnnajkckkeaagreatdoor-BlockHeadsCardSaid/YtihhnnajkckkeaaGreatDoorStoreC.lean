import Derived.Test.YtihhnnajkckkeaaGreatDoorStX
import Derived.Test.YtihhnnajkckkeaaGreatDoorTrN
namespace Go.Proofs.YtihhnnajkckkeaaGreatDoor
open Go.RowKit
set_option linter.unusedVariables false
section
variable {P : Program} {ops : Array Oper} {o : Oper} {a : Act} {w : World} {K : Act → World → Prop} {Q : Exit → Act → World → Prop} {X : Prop}
theorem Zez (hgd : o.guard = none) (ty : TypeId) (x y : Operand) (ho : o.op = .store ty x y)
  (g f : Nat) (v : Value) (cur : Array Value) (t : TypeId) (hx : a.eval x = .pointer (some ⟨g, f, none⟩)) (hy : a.eval y = v) (hv : v.cells = #[v]) (h1 : v.oneCell' = true) (hg : w.heap[g]? = some (.cells cur t (0, 0))) (hf : f < cur.size) (hi : (P.info? ty).map (·.size) = some 1)
  (h : ∀ w', w'.heap[g]? = some (.cells (cur.setIfInBounds f v) t (0, 0)) → Chg (fun b => b = g) w w' → K (a.put o.dst undef) w') : if Region.wanted o (yielded ops a.tmps) = true then Oper.wp P o a w K Q else X := by
 rw [if_pos (by simp [Region.wanted, hgd])]
 unfold Oper.wp execOp
 simp only [ho, hx, hy, Instr.storeAt, Instr.sureAddr, Sem.run_bind, Sem.run_pure, Result.andThen_ok, run_storeVar_one w g f ty v hv h1 (ZcB hg f 1 (by omega)) hi]
 exact h _ (Zb8 [v] f w cur hg) (ZdT g f [v] w)
end
end Go.Proofs.YtihhnnajkckkeaaGreatDoor
