/-
  The chapter's tree of one pair.
-/
import Derived.Test.YtfjkcdccnbggnaaDoorTreeLp
import Derived.Test.YtfjkcdccnbggnaaDoorBits
import Derived.Test.YtfjkcdccnbggnaaDoorTreeLt
import Derived.Test.YtfjkcdccnbggnaaDoorTreeMb
import Derived.Test.YtfjkcdccnbggnaaDoorTrB
namespace Go.Proofs.YtfjkcdccnbggnaaDoor
open Go.RowKit
set_option linter.unusedVariables false
set_option maxRecDepth 100000

def oneT : Tr := tputT ⟨[], 0⟩ (dfst 3) [97]
theorem one_nodes : oneT.ns.length ≤ 1000 := by decide +kernel
theorem one_E : tputE ⟨[], 0⟩ [97] = 0 := by decide +kernel
theorem one_may : mayT oneT = true := by decide +kernel
theorem one_all : allT oneT = [⟨dfst 3, [97]⟩] := by decide +kernel
theorem one_at : atE oneT 0 = 0 := by decide +kernel
theorem one_at0 : atT oneT 0 = ⟨oneT.ns, 0⟩ := by unfold atT; rw [if_pos one_at]
theorem one_may0 : mayT ⟨oneT.ns, 0⟩ = true := by decide +kernel
theorem one_all0 : allT ⟨oneT.ns, 0⟩ = [] := by decide +kernel
theorem one_pairs : pairsM oneT = [⟨dfst 3, [97]⟩] := by unfold pairsM; rw [if_pos one_may, one_all]
theorem one_pairs0 : pairsM ⟨oneT.ns, 0⟩ = [] := by unfold pairsM; rw [if_pos one_may0, one_all0]
theorem nil_may : mayT ⟨[], 0⟩ = true := by decide +kernel
theorem tag0 : tagB 0 [] = [0] := by decide +kernel
theorem nil_sum : (sumM ⟨[], 0⟩).1 = sha256 [0] := by
  unfold sumM
  rw [if_pos nil_may]
  show sumP [] 256 0 = _
  rw [sumP_zero, tag0]
end Go.Proofs.YtfjkcdccnbggnaaDoor
