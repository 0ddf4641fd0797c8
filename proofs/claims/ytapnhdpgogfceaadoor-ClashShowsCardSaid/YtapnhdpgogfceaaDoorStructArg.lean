/-
  A struct among a law's arguments. No program is named here.
-/
import Derived.Test.YtapnhdpgogfceaaDoorMem
import Derived.WideShapes
namespace Go.Proofs.YtapnhdpgogfceaaDoor
open Go.RowKit Go.ChangeShapes Go.WideShapes
set_option linter.unusedVariables false

theorem open_struct {α : Type} [Enc α] {H : Type} {enc : TypeId × Value → H} {P : Program} {W : World} {base : Nat} {sp : Nat → Bool} {held : Bool} {r : Reach} {b0 : Nat} {t : TypeId} {v : Value} {d : DataW H} {ps : List MemPlace}
    (ho : Opens P t α) {fs : Array Field} (ht : P.underlying t = some (.struct fs)) (hval : Value.okWide P W r b0 t v) (hd : DataW.Trod enc P W base sp held t v d ps) :
    ∃ (x : α) (vs : List Value), v = .agg vs.toArray ∧ Enc.rep (fun b => b < W.heap.size) W x vs := by
  obtain ⟨cs, rfl, _⟩ := okWide_struct ht hval
  obtain ⟨fuel, hf⟩ := hd
  obtain ⟨a, ha⟩ := ho.opens hf
  exact ⟨a, cs.toList, rfl, ha⟩
end Go.Proofs.YtapnhdpgogfceaaDoor
