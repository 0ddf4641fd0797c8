/-
  Layer 10, plain: how a total turns, in two numbers.
-/
import Derived.Test.YtcifncmfjlbhjaaAcS
namespace Go.Proofs.Ytcifncmfjlbhjaa
open Go.RowKit
set_option linter.unusedVariables false

theorem tot_less (P o : Nat) (ho : o < 18446744073709551616) (h : o ≤ P) (hP : P < 340282366920938463463374607431768211456) :
    IntKind.u64.wrap (((P % 18446744073709551616 : Nat) : Int) - (o : Int)) = (((P - o) % 18446744073709551616 : Nat) : Int) ∧
      (P % 18446744073709551616 < o → IntKind.u64.wrap (((P / 18446744073709551616 : Nat) : Int) - 1) = (((P - o) / 18446744073709551616 : Nat) : Int)) ∧ (¬ P % 18446744073709551616 < o → P / 18446744073709551616 = (P - o) / 18446744073709551616) := by
  rw [IntKind.wrap_u64, IntKind.wrap_u64]
  refine ⟨?_, fun q => ?_, fun q => ?_⟩ <;> omega
theorem tot_fits {t : Tr} (hm : mayT t = true) (hc : t.ns.length ≤ 1000000) : totP (allT t) < 340282366920938463463374607431768211456 := by
  have h1 := tot_le (allT t)
  have h2 := all_len hm hc
  omega
theorem tot_has {t : Tr} (k : Dg) (hm : mayA t = true) : (getA t k).b ≤ totP (allT t) := by
  have hs := (all_spec (mayA_T hm).1).1
  have := tot_without hs k
  unfold getA
  rw [if_pos hm]
  omega
end Go.Proofs.Ytcifncmfjlbhjaa
