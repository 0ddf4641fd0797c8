/-
  A digest of which the first byte is told, built.
-/
import Derived.Test.YtiogdenlaelkbaaDig
import Derived.Test.YtiogdenlaelkbaaRegs
namespace Go.Proofs.Ytiogdenlaelkbaa
open Go.RowKit
set_option linter.unusedVariables false

def dfst (c : UInt8) : Dg := ⟨c :: List.replicate 31 0, rfl⟩
theorem built_dg1 (c : UInt8) : Try.prog.built 24 [(0, .int .u8 (c.toNat : Int))] = some ((dfst c).1.map bv).toArray := by
  have h1 := info32
  have h2 := infoU8
  have hu := Try.underlying24
  unfold Program.built
  cases hi : Try.prog.info? 24 with
  | none => rw [hi] at h1; cases h1
  | some it =>
    cases he : Try.prog.info? 5 with
    | none => rw [he] at h2; cases h2
    | some ie =>
      rw [hi] at h1
      rw [he] at h2
      simp at h1 h2
      rw [hu]
      simp only
      rw [he, h1.1]
      simp only
      have h3 := fill_cons (place := fun i => some (i * ie.size, ie.size)) (cells := z32) (i := 0) (off := 0) (v := .int .u8 (c.toNat : Int)) (rest := []) (by rw [h2.2.1]; rfl) (show 0 + 1 ≤ z32.size by rw [z32_size]; decide)
      refine h3.trans ?_
      rw [Instr.fill]
      rfl
end Go.Proofs.Ytiogdenlaelkbaa
