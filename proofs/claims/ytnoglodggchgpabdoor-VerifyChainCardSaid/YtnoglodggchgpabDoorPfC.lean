/-
  Contracts of the landed package proof: Check, Told.
-/
import Derived.Test.YtnoglodggchgpabDoorPfA
import Derived.Test.YtnoglodggchgpabDoorBits
namespace Go.Proofs.YtnoglodggchgpabDoor
open Go.RowKit
set_option linter.unusedVariables false
set_option linter.unusedSimpArgs false
set_option maxRecDepth 100000

set_option maxHeartbeats 1000000 in
theorem PfCheck_is (x : Pf) (A : Option Addr) (c : Nat) (D : Option Addr) (d : Nat) (b : Bool) (w : World) (hr : Rd w A x.v) (h1 : x.v.length ≤ c) (h2 : c ≤ maxLen) (hb : mayF x = b) :
    Calls Tryd.prog 8 #[.agg (pfC x A c D d).toArray] w fun e w' => e = .returned (.int .i64 (if b = true then 0 else 8)) ∧ Below w.heap.size w w' := by
  have W0 := ext_alloc w (.cells (pfC x A c D d).toArray 27)
  have B0 := BoxP.new w x A c D d 27
  have hrd := hid (hr.bel W0)
  have ha := hid B0.all
  have hs := B0.sd
  have hu := Tryd.underlying27
  have hi := hid (sizePfC x A c D d)
  obtain ⟨eb, heb⟩ : ∃ eb, endP x = eb := ⟨_, rfl⟩
  have hM := fun W (hW : Rd W A x.v) => PfMayEnd_is x A c D d eb W hW h1 h2 heb
  unfold mayF at hb
  rw [heb] at hb
  clear heb B0 hr
  by_cases hle : x.ss.length ≤ 256
  · have hq : decide ((256 : Int) < (x.ss.length : Int)) = false := decide_eq_false (by omega)
    rw [decide_eq_true hle, Bool.true_and] at hb
    subst hb
    clear hle
    generalize x.ss.length = sl at *
    generalize pfC x A c D d = cs at *
    replace hM := hid hM
    go_enter Tryd.func8, Tryd.ntmps8
    go_wp2_with ((with_reducible refine wpList_load_rng ?_ 27 (.tmp 1) rfl w.heap.size 0 rfl cs _ ?_ hu rfl hi.out ?_); rfl; exact ha.out)
    refine (hM.out _ hrd.out).mono ?_
    rintro e w7 ⟨rfl, hb7⟩
    cases eb
    · go_wp2
      go_ret
      exact ⟨rfl, W0.trans (hb7.mono W0.size)⟩
    · go_wp2
      go_ret
      exact ⟨rfl, W0.trans (hb7.mono W0.size)⟩
  · have hq : decide ((256 : Int) < (x.ss.length : Int)) = true := decide_eq_true (by omega)
    rw [decide_eq_false hle, Bool.false_and] at hb
    subst hb
    clear hle
    generalize x.ss.length = sl at *
    generalize pfC x A c D d = cs at *
    go_enter Tryd.func8, Tryd.ntmps8
    go_wp2
    go_ret
    exact ⟨rfl, W0⟩
end Go.Proofs.YtnoglodggchgpabDoor
