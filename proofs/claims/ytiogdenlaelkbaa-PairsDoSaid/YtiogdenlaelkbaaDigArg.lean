/-
  A digest among a law's arguments.
-/
import Derived.Test.YtiogdenlaelkbaaDig
import Derived.WideShapes
import Derived.Lib.LaidTab
import Derived.Carry
import Derived.OpenShut
namespace Go.Proofs.Ytiogdenlaelkbaa
open Go.RowKit Go.ChangeShapes Go.WideShapes
set_option linter.unusedVariables false

theorem okWide_dig {P : Program} {W : World} {r : Reach} {b0 n : Nat} {t e : TypeId} {v : Value} (ht : P.underlying t = some (.array n e)) (h : Value.okWide P W r b0 t v) : ∃ cs, v = .agg cs ∧ cs.size = P.cellsOf t := by
  simp only [Value.okWide, ht] at h
  obtain ⟨cs, h1, h2, _⟩ := h
  exact ⟨cs, h1, h2⟩

def byteOf : Value → UInt8
  | .int _ z => UInt8.ofNat z.toNat
  | _ => 0

theorem open_dig {H : Type} {enc : TypeId × Value → H} {P : Program} {W : World} {base : Nat} {sp : Nat → Bool} {held : Bool} {r : Reach} {b0 n : Nat} {t e : TypeId} {v : Value} {d : DataW H} {ps : List MemPlace}
    (ht : P.underlying t = some (.array n e)) (he : P.underlying e = some (.int .u8)) (hce : P.cellsOf e = 1) (hct : P.cellsOf t = n)
    (hval : Value.okWide P W r b0 t v) (hd : DataW.Trod enc P W base sp held t v d ps) : ∃ l : List UInt8, l.length = n ∧ v = .agg (l.map bv).toArray := by
  obtain ⟨cs, rfl, hs⟩ := okWide_dig ht hval
  obtain ⟨fuel, hf⟩ := hd
  rw [hct] at hs
  have hall : ∀ i, i < n → ∃ z, cs[i]? = some (.int .u8 z) ∧ 0 ≤ z ∧ z < 256 := by
    intro i hi
    cases fuel with
    | zero => simp [DataW.trod] at hf
    | succ fuel =>
      simp only [DataW.trod, ht, hce, hct, Nat.mul_one] at hf
      split at hf
      · obtain ⟨xs, hm, hx⟩ := Option.map_eq_some_iff.1 hf
        obtain ⟨b, hb, hf2⟩ := Lib.mapM_at hm i i (by simp [hi])
        obtain ⟨z, hc, -, hw⟩ := DataW.trod_int he hf2
        refine ⟨z, ?_, ?_⟩
        · have := congrArg (·[0]?) hc
          simpa [Value.cells, List.getElem?_take, List.getElem?_drop] using this
        · simp [Lit.wf, IntKind.min, IntKind.max, IntKind.signed, IntKind.bits] at hw
          omega
      · cases hf
  refine ⟨cs.toList.map byteOf, by simp [hs], ?_⟩
  congr 1
  apply Array.ext
  · simp
  · intro i h1 h2
    obtain ⟨z, hz, hz0, hz1⟩ := hall i (by omega)
    have e1 : cs[i] = .int .u8 z := by
      have := Array.getElem?_eq_getElem h1
      rw [this] at hz
      exact Option.some.inj hz
    simp [e1, byteOf, bv]
    omega
theorem cellsDig : Try.prog.cellsOf 24 = 32 := by kernel_rfl
theorem cellsByte : Try.prog.cellsOf 5 = 1 := by kernel_rfl
end Go.Proofs.Ytiogdenlaelkbaa
