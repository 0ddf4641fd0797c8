/-
  The program's facts on bytes: the type of slices of bytes, zeroed rows, copies.
-/
import Derived.Test.YtiogdenlaelkbaaRows
import Derived.Test.YtiogdenlaelkbaaBy
import Derived.Test.YtiogdenlaelkbaaB8
import Derived.WalkLawsBesides
import Derived.WalkSpells
import Derived.Outline
import Derived.Laws.CopyOwn
import Derived.BigQuiet
import Derived.Deep.QuietTactic
import Derived.Deep.RegionWith
import Derived.IntWalk
namespace Go.Proofs.Ytiogdenlaelkbaa
open Go.RowKit
set_option linter.unusedVariables false

theorem u8s : U8s Try.prog 25 5 := ⟨Try.underlying25, infoU8⟩

theorem made_bv (n : Nat) : madeCells (Value.int .u8 0).cells n = ((List.replicate n (0 : UInt8)).map bv).toArray := by
  apply Array.ext
  · simp [size_madeCells]
  · intro i h1 h2
    simp [madeCells, Value.cells, Nat.mod_one, bv]
theorem made_block {w : World} {B g n : Nat} {E : TypeId} (h : w.ownsRow B E 1 (.slice (some ⟨g, 0, none⟩) n n) n (madeCells (Value.int .u8 0).cells (n * 1)).toList) : w.heap[g]? = some (.cells ((List.replicate n (0 : UInt8)).map bv).toArray E (0, 0)) := by
  rcases h.2 with ⟨hv, _⟩ | ⟨g', cap, cur, hv, hb, hg, hnc, hcm, hsz, ht⟩
  · cases hv
  · injection hv with hA _ hc
    injection hA with hA
    injection hA with hA
    subst hA hc
    rw [hg, ← made_bv]
    congr 2
    apply Array.ext'
    rw [List.take_of_length_le (by simp [hsz])] at ht
    simpa using ht

theorem splice_all {α : Type} (L cs : List α) (h : cs.length = L.length) : splice L 0 cs = cs := by
  simp [splice, h]

theorem rd_cell {w : World} {A : Option Addr} {l : List UInt8} (h : Rd w A l) (hn : 0 < l.length) : ∃ b o, A = some ⟨b, o, none⟩ ∧ ∀ j (hj : j < l.length), w.cell? ⟨b, o + j, none⟩ = some (.int .u8 (l[j].toNat : Int)) := by
  obtain ⟨b, o, rfl, hc⟩ := h hn
  exact ⟨b, o, rfl, fun j hj => hc j _ (List.getElem?_eq_getElem hj)⟩

theorem underStr : Try.prog.underlying 9 = some .string := Try.underlying9

end Go.Proofs.Ytiogdenlaelkbaa
