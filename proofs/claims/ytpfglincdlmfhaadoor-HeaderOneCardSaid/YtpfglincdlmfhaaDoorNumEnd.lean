/-
  Contracts of package num: End.
-/
import Derived.Test.YtpfglincdlmfhaaDoorBits
namespace Go.Proofs.YtpfglincdlmfhaaDoor
open Go.RowKit
set_option linter.unusedVariables false

theorem End_any (A : Option Addr) (m c : Nat) (l : List UInt8) (w : World) (hm : m = l.length) :
    Calls Tryd.prog 20 #[.slice A m c] w fun e w' => e = .returned (.int .i64 (endE l)) ∧ w = w' := by
  subst hm
  by_cases h0 : l.length = 0
  · have e1 : endE l = 0 := by simp only [endE]; rw [if_pos h0]
    have ht : ((l.length : Int) != 0) = false := by rw [bne_eq_false_iff_eq]; omega
    rw [e1]
    clear e1 h0
    go_enter Tryd.func20, Tryd.ntmps20
    go_wp2
    go_ret
    exact ⟨rfl, rfl⟩
  · have e1 : endE l = 11 := by simp only [endE]; rw [if_neg h0]
    have ht : ((l.length : Int) != 0) = true := by rw [bne_iff_ne]; omega
    rw [e1]
    clear e1
    go_enter Tryd.func20, Tryd.ntmps20
    go_wp2
    go_ret
    exact ⟨rfl, rfl⟩

theorem End_is (A : Option Addr) (m c : Nat) (l : List UInt8) (e : Int) (w : World) (hm : m = l.length) (he : endE l = e) :
    Calls Tryd.prog 20 #[.slice A m c] w fun r w' => r = .returned (.int .i64 e) ∧ w = w' := by
  subst he
  exact End_any A m c l w hm
end Go.Proofs.YtpfglincdlmfhaaDoor
