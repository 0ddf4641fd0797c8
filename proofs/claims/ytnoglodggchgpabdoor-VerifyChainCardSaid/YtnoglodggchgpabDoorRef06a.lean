/-
  The document's answers of layer 6: Great, one.
-/
import Derived.Test.YtnoglodggchgpabDoorTreeB
import Derived.Test.YtnoglodggchgpabDoorBits
import Derived.Test.YtnoglodggchgpabDoorMem
import Derived.Test.YtnoglodggchgpabDoorRefE
import Derived.Test.YtnoglodggchgpabDoorPlain
import Derived.IntWalk
namespace Go.Proofs.YtnoglodggchgpabDoor
open Go.RowKit
set_option linter.unusedVariables false
set_option linter.unusedSimpArgs false
set_option maxRecDepth 100000

def anyT (ns : List Nd) : Bool := ns.any fun x => decide (100 < x.v.length)
/-- Is a tree more than statements go through? -/
def greatT (ns : List Nd) (m : Nat) : Bool := anyT (ns.take (m + 1)) || decide (m < ns.length)
theorem anyT_take {ns : List Nd} {j : Nat} (hj : j < ns.length) : anyT (ns.take (j + 1)) = (anyT (ns.take j) || decide (100 < ns[j].v.length)) := by
  unfold anyT
  rw [List.take_succ_eq_append_getElem hj, List.any_append]
  simp
theorem anyT_part {ns : List Nd} {j m : Nat} (h : anyT (ns.take j) = true) (hj : j ≤ m) : anyT (ns.take m) = true := by
  unfold anyT at h ⊢
  rw [List.any_eq_true] at h ⊢
  obtain ⟨x, h1, h2⟩ := h
  refine ⟨x, ?_, h2⟩
  rw [show ns.take j = (ns.take m).take j by rw [List.take_take, Nat.min_eq_left hj]] at h1
  exact List.mem_of_mem_take h1
theorem greatT_no {ns : List Nd} {m : Nat} (h : greatT ns m = false) : ns.length ≤ m ∧ ∀ x ∈ ns, x.v.length ≤ 100 := by
  unfold greatT at h
  rw [Bool.or_eq_false_iff, decide_eq_false_iff_not] at h
  have hl : ns.length ≤ m := by omega
  refine ⟨hl, fun x hx => ?_⟩
  have h1 := h.1
  unfold anyT at h1
  rw [List.take_of_length_le (by omega), List.any_eq_false] at h1
  simpa using h1 x hx


end Go.Proofs.YtnoglodggchgpabDoor
