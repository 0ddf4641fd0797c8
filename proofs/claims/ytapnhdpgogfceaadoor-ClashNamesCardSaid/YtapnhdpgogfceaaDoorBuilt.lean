/-
  Structs that are built: by the places of their fields. No program is named here.
-/
import Derived.Test.YtapnhdpgogfceaaDoorMem
namespace Go.Proofs.YtapnhdpgogfceaaDoor
open Go.RowKit
set_option linter.unusedVariables false

def Places (P : Program) (t : TypeId) (z : Value) (pl : List (Nat × Nat)) : Prop := (match P.info? t, P.underlying t with
    | some it, some (.struct fields) => (fields.toList.mapM (fun f => (P.info? f.type).map fun i => (f.offset, i.size))).map fun pl => (it.zero, pl)
    | _, _ => none) = some (some z, pl)
theorem built_places {P : Program} {t : TypeId} {z : Value} {pl : List (Nat × Nat)} (h : Places P t z pl) (parts : List (Nat × Value)) : P.built t parts = Instr.fill (pl.toArray[·]?) z.cells parts := by
  unfold Places at h
  unfold Program.built
  cases hi : P.info? t with
  | none => rw [hi] at h; cases h
  | some it =>
    cases hd : P.underlying t with
    | none => rw [hi, hd] at h; cases h
    | some d =>
      cases d with
      | struct fields =>
        rw [hi, hd] at h
        simp only at h ⊢
        obtain ⟨pl, hpl, h2⟩ := Option.map_eq_some_iff.1 h
        injection h2 with h3 h4
        rw [h3, hpl, h4]
      | _ => rw [hi, hd] at h; cases h
theorem lay_mid (a b c vs : List Value) (h : vs.length = b.length) : lay (a ++ (b ++ c)) a.length vs = a ++ (vs ++ c) := by
  unfold lay
  rw [List.take_left, List.drop_append, List.drop_of_length_le (by omega), List.nil_append, show a.length + vs.length - a.length = b.length by omega, List.drop_left, List.append_assoc]
end Go.Proofs.YtapnhdpgogfceaaDoor
