import Derived.Test.YtihhnnajkckkeaaGreatDoorStX
namespace Go.Proofs.YtihhnnajkckkeaaGreatDoor
open Go.RowKit
set_option linter.unusedVariables false
set_option maxRecDepth 100000
structure Bd where
 ds : List Dp
 xs : List Tx
instance : Enc Bd := Enc.by_ fun x => (x.ds, x.xs)
theorem Zvg {F : Nat → Prop} {w : World} {x : Bd} {vs : List Value} (h : Enc.rep F w x vs) : ∃ D d X e, vs = [.slice D x.ds.length d, .slice X x.xs.length e] ∧ (x.ds.length ≤ d ∧ d ≤ maxLen ∧ Row F w D x.ds) ∧ (x.xs.length ≤ e ∧ e ≤ maxLen ∧ Row F w X x.xs) := by
 obtain ⟨u1, t1, rfl, ⟨D, d, rfl, h4⟩, ⟨X, e, rfl, h5⟩⟩ := h
 exact ⟨D, d, X, e, rfl, h4, h5⟩
theorem YdO : Opens Tryz.prog 33 (List Dp) := Opens.slice Tryz.underlying33 (by kernel_rfl) opensDp
theorem YdR : Opens Tryz.prog 34 (List Tx) := Opens.slice Tryz.underlying34 (by kernel_rfl) opensTx
theorem opensBd : Opens Tryz.prog 36 Bd :=
 Opens.by_ (fun t : Bd => (t.ds, t.xs)) (fun b => ⟨b.1, b.2⟩) (fun b => rfl) (Opens.struct2 Tryz.underlying36 (by kernel_rfl) rfl rfl YdO YdR)
end Go.Proofs.YtihhnnajkckkeaaGreatDoor
