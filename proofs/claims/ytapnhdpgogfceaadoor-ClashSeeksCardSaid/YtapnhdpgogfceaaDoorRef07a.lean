/-
  The document's answers of layer 7: Great, Twin.
-/
import Derived.Test.YtapnhdpgogfceaaDoorPfM
import Derived.Test.YtapnhdpgogfceaaDoorRef06c
import Derived.Test.YtapnhdpgogfceaaDoorBits
namespace Go.Proofs.YtapnhdpgogfceaaDoor
open Go.RowKit
set_option linter.unusedVariables false
set_option linter.unusedSimpArgs false
set_option maxRecDepth 100000

theorem RPfGreat_is (x : Pf) (A : Option Addr) (c : Nat) (D : Option Addr) (d : Nat) (b : Bool) (w : World) (hb : (decide (100 < x.v.length) || decide (300 < x.ss.length)) = b) :
    Calls Tryd.prog 11 #[.agg (pfC x A c D d).toArray] w fun e w' => e = .returned (.bool b) ∧ Below w.heap.size w w' := by
  have W0 := ext_alloc w (.cells (pfC x A c D d).toArray 30)
  have B0 := BoxP.new w x A c D d 30
  have hv := B0.val
  have hs := B0.sd
  generalize x.v.length = n at *
  generalize x.ss.length = m at *
  generalize pfC x A c D d = cs at *
  clear B0
  by_cases h1 : 100 < n
  · rw [decide_eq_true h1, Bool.true_or] at hb
    subst hb
    have q1 : decide ((100 : Int) < (n : Int)) = true := decide_eq_true (by omega)
    clear h1
    go_enter Tryd.func11, Tryd.ntmps11
    go_wp2
    go_ret
    exact ⟨rfl, W0⟩
  · have q1 : decide ((100 : Int) < (n : Int)) = false := decide_eq_false (by omega)
    rw [decide_eq_false h1, Bool.false_or] at hb
    have q2 : decide ((300 : Int) < (m : Int)) = b := by rw [← hb]; by_cases h : 300 < m <;> simp [h] <;> omega
    clear h1 hb
    replace q2 := hid q2
    obtain ⟨b2, hb2⟩ : ∃ b2, decide ((300 : Int) < (m : Int)) = b2 := ⟨_, rfl⟩
    rw [hb2] at q2
    go_enter Tryd.func11, Tryd.ntmps11
    go_wp2
    go_ret
    exact ⟨ret_b (by first | exact q2.out | (rw [← q2.out, ← hb2]; simp)), W0⟩
end Go.Proofs.YtapnhdpgogfceaaDoor
