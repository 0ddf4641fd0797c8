/-
  Contracts of the landed package header: mayBe, Check.
-/
import Derived.Test.YtpfglincdlmfhaaDoorHd
import Derived.Test.YtpfglincdlmfhaaDoorHdQ
import Derived.Test.YtpfglincdlmfhaaDoorStepT
namespace Go.Proofs.YtpfglincdlmfhaaDoor
open Go.RowKit
set_option linter.unusedVariables false
set_option linter.unusedSimpArgs false
set_option maxRecDepth 100000

theorem PHdMay_is (a b : Int) (p q : Bool) (hp : decide (a ≤ 1073741824) = p) (hq : decide (b ≤ 256) = q) (w : World) : Calls Tryd.prog 22 #[.int .u64 a, .int .u64 b] w fun e w' => e = .returned (.bool (p && q)) ∧ w' = w := by
  cases p <;> cases q
  all_goals
    go_enter Tryd.func22, Tryd.ntmps22
    go_wp2
    go_ret
    exact ⟨rfl, rfl⟩
/-- As the landed code asks it: what is below 0 is a great number. -/
theorem may_wraps {x : Hd} (hx : x.ok) : mayH x = (decide (IntKind.u64.wrap x.h ≤ 1073741824) && decide (IntKind.u64.wrap x.m ≤ 256)) := by
  unfold Hd.ok at hx
  rw [Bool.eq_iff_iff, mayH_iff, Bool.and_eq_true, decide_eq_true_eq, decide_eq_true_eq, IntKind.wrap_u64, IntKind.wrap_u64]
  omega
theorem PHdCheck_any (x : Hd) (hx : x.ok) (w : World) : Calls Tryd.prog 8 #[.agg (hdC x).toArray] w fun e w' => e = .returned (.int .i64 (hdE x)) ∧ Below w.heap.size w w' := by
  have hux := Tryd.underlying25
  have B0 := BoxH.new w x 25
  have W0 := hid (ext_alloc w (.cells (hdC x).toArray 25))
  have c0 := B0.h
  have c1 := B0.m
  have hE : hdE x = if mayH x = true then 0 else 8 := rfl
  rw [hE, may_wraps hx]
  obtain ⟨ah, hah⟩ : ∃ a, IntKind.u64.wrap x.h = a := ⟨_, rfl⟩
  obtain ⟨am, ham⟩ : ∃ a, IntKind.u64.wrap x.m = a := ⟨_, rfl⟩
  rw [hah, ham]
  obtain ⟨p, hp⟩ : ∃ p, decide (ah ≤ 1073741824) = p := ⟨_, rfl⟩
  obtain ⟨q, hq⟩ : ∃ p, decide (am ≤ 256) = p := ⟨_, rfl⟩
  have hM := hid (fun W => PHdMay_is ah am p q hp hq W)
  rw [hp, hq]
  clear B0 hE hp hq hx
  generalize hdC x = cx at *
  generalize x.h = vh at *
  generalize x.m = vm at *
  obtain ⟨m, hm⟩ : ∃ m, (p && q) = m := ⟨_, rfl⟩
  rw [hm] at hM ⊢
  clear hm
  cases m
  all_goals
    go_enter Tryd.func8, Tryd.ntmps8
    go_wp2_with fail
    refine (hM.out _).mono ?_
    rintro e w1 ⟨rfl, rfl⟩
    go_wp2
    go_ret
    exact ⟨rfl, W0.out⟩
end Go.Proofs.YtpfglincdlmfhaaDoor
