/-
  The program's facts on pairs: their type, a pair built.
-/
import Derived.Test.YtiogdenlaelkbaaRegs
import Derived.Test.YtiogdenlaelkbaaPair
import Derived.Test.YtiogdenlaelkbaaDig
namespace Go.Proofs.Ytiogdenlaelkbaa
open Go.RowKit
set_option linter.unusedVariables false

def zPrC : Array Value := (((List.replicate 32 (0 : UInt8)).map bv) ++ [Value.slice none 0 0]).toArray
def zPr : Value := .agg zPrC
theorem slotPr : Slot Try.prog Pr 22 46 zPr 56 where
  under := Try.underlying22
  info := by kernel_rfl
  zero := by decide +kernel
  pos := by decide
theorem placesPr : (match Try.prog.info? 46, Try.prog.underlying 46 with
    | some it, some (.struct fields) => (fields.toList.mapM (fun f => (Try.prog.info? f.type).map fun i => (f.offset, i.size))).map fun pl => (it.zero, pl)
    | _, _ => none) = some (some zPr, [(0, 32), (32, 1)]) := by kernel_rfl
theorem built_pr (k : Dg) (x : Value) (hx : x.cells = #[x]) : Try.prog.built 46 [(0, .agg (k.1.map bv).toArray), (1, x)] = some (k.1.map bv ++ [x]).toArray := by
  have h := placesPr
  unfold Program.built
  cases hi : Try.prog.info? 46 with
  | none => rw [hi] at h; cases h
  | some it =>
    cases hd : Try.prog.underlying 46 with
    | none => rw [hi, hd] at h; cases h
    | some d =>
      cases d with
      | struct fields =>
        rw [hi, hd] at h
        simp only at h ⊢
        obtain ⟨pl, hpl, h2⟩ := Option.map_eq_some_iff.1 h
        injection h2 with h3 h4
        rw [h3, hpl, h4]
        simp only
        have hk : (k.1.map bv).length = 32 := by rw [List.length_map]; exact k.2
        have c1 : (Value.agg (k.1.map bv).toArray).cells = (k.1.map bv).toArray := rfl
        rw [fill_cons (off := 0) (by rw [c1, List.size_toArray, hk]; rfl) (by rw [c1, List.size_toArray, hk]; decide +kernel)]
        have e1 : lay zPr.cells.toList 0 (Value.agg (k.1.map bv).toArray).cells.toList = k.1.map bv ++ [.slice none 0 0] := by
          rw [c1]
          simp only [lay, List.take_zero, List.nil_append, hk]
          rfl
        rw [e1, fill_cons (off := 32) (by rw [hx]; rfl) (by rw [hx]; simp [hk]), Instr.fill]
        congr 2
        rw [hx]
        simp only [lay]
        rw [List.take_append_of_le_length (by rw [hk]; decide), List.take_of_length_le (by rw [hk]; decide), List.drop_of_length_le (by rw [List.length_append, hk]; exact Nat.le_refl _)]
        simp
      | _ => rw [hi, hd] at h; cases h
end Go.Proofs.Ytiogdenlaelkbaa
