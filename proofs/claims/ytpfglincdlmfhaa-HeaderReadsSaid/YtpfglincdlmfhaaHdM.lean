/-
  Contracts of the landed package header: mayBe, Check.
-/
import Derived.Test.YtpfglincdlmfhaaHd
import Derived.Test.YtpfglincdlmfhaaHdQ
import Derived.Test.YtpfglincdlmfhaaStepT
namespace Go.Proofs.Ytpfglincdlmfhaa
open Go.RowKit
set_option linter.unusedVariables false
set_option linter.unusedSimpArgs false
set_option maxRecDepth 100000

theorem PHdMay_is (a b : Int) (p q : Bool) (hp : decide (a ≤ 1073741824) = p) (hq : decide (b ≤ 256) = q) (w : World) : Calls Try.prog 14 #[.int .u64 a, .int .u64 b] w fun e w' => e = .returned (.bool (p && q)) ∧ w' = w := by
  cases p <;> cases q
  all_goals
    go_enter Try.func14, Try.ntmps14
    go_wp2
    go_ret
    exact ⟨rfl, rfl⟩
/-- As the landed code asks it: what is below 0 is a great number. -/
theorem may_wraps {x : Hd} (hx : x.ok) : mayH x = (decide (IntKind.u64.wrap x.h ≤ 1073741824) && decide (IntKind.u64.wrap x.m ≤ 256)) := by
  unfold Hd.ok at hx
  rw [Bool.eq_iff_iff, mayH_iff, Bool.and_eq_true, decide_eq_true_eq, decide_eq_true_eq, IntKind.wrap_u64, IntKind.wrap_u64]
  omega
theorem PHdCheck_any (x : Hd) (hx : x.ok) (w : World) : Calls Try.prog 11 #[.agg (hdC x).toArray] w fun e w' => e = .returned (.int .i64 (hdE x)) ∧ Below w.heap.size w w' := by
  have hux := Try.underlying27
  have B0 := BoxH.new w x 27
  have W0 := hid (ext_alloc w (.cells (hdC x).toArray 27))
  have c0 := B0.h
  have c1 := B0.m
  have hE : hdE x = if mayH x = true then 0 else 8 := rfl
  rw [hE, may_wraps hx]
  obtain ⟨ah, hah⟩ : ∃ a, IntKind.u64.wrap x.h = a := ⟨_, rfl⟩
  obtain ⟨am, ham⟩ : ∃ a, IntKind.u64.wrap x.m = a := ⟨_, rfl⟩
  rw [hah, ham]
  obtain ⟨p, hp⟩ : ∃ p, decide (ah ≤ 1073741824) = p := ⟨_, rfl⟩
  obtain ⟨q, hq⟩ : ∃ p, decide (am ≤ 256) = p := ⟨_, rfl⟩
  have hM := hid (fun W => PHdMay_is ah am p q hp hq W)
  rw [hp, hq]
  clear B0 hE hp hq hx
  generalize hdC x = cx at *
  generalize x.h = vh at *
  generalize x.m = vm at *
  obtain ⟨m, hm⟩ : ∃ m, (p && q) = m := ⟨_, rfl⟩
  rw [hm] at hM ⊢
  clear hm
  cases m
  all_goals
    go_enter Try.func11, Try.ntmps11
    go_wp2_with fail
    refine (hM.out _).mono ?_
    rintro e w1 ⟨rfl, rfl⟩
    go_wp2
    go_ret
    exact ⟨rfl, W0.out⟩
end Go.Proofs.Ytpfglincdlmfhaa
