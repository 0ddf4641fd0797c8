/-
  A literal of bytes made a slice of bytes ('[]byte("a")'): its block is marked, and reads as before. No program is named here.
-/
import Derived.Test.YtapnhdpgogfceaaDoorMem
import Derived.Test.YtapnhdpgogfceaaDoorBits
namespace Go.Proofs.YtapnhdpgogfceaaDoor
open Go.RowKit
set_option linter.unusedVariables false

theorem freeze_block (w : World) (g k n : Nat) (C : Array Value) (e : TypeId) (hg : w.heap[g]? = some (.cells C e (0, 0))) : (∃ fr, (w.freeze ⟨g, k, none⟩ n).heap[g]? = some (.cells C e fr)) ∧ Chg (fun b => b = g) w (w.freeze ⟨g, k, none⟩ n) := by
  unfold World.freeze
  by_cases hn : n = 0
  · rw [if_pos hn]
    exact ⟨⟨_, hg⟩, Chg.refl _ _⟩
  · rw [if_neg hn]
    refine ⟨?_, rfl, rfl, rfl, by simp, fun b hb hne => ?_⟩
    · dsimp only
      rw [Array.getElem?_modify, if_pos rfl, hg]
      exact ⟨_, rfl⟩
    · dsimp only
      rw [Array.getElem?_modify, if_neg (fun h => hne h.symm)]
section
variable {P : Program}
theorem run_mark (w : World) (t e : TypeId) (g n c : Nat) (C : Array Value) (hg : w.heap[g]? = some (.cells C e (0, 0))) (ht : P.underlying t = some (.slice e)) (he : P.underlying e = some (.int .u8)) :
    ∃ W', (convert t t (.slice (some ⟨g, 0, none⟩) n c)).run P w = .ok (.slice (some ⟨g, 0, none⟩) n c) W' ∧ (∃ fr, W'.heap[g]? = some (.cells C e fr)) ∧ Chg (fun b => b = g) w W' := by
  have hsh : w.shape? g = some (e, C.size) := by
    unfold World.shape?
    rw [hg]
  obtain ⟨h1, h2⟩ := freeze_block w g C.size 1 C e hg
  refine ⟨_, ?_, h1, h2⟩
  simp [convert, run_underlying ht, run_underlying he, markStringish, hsh]
theorem step_convC {ops : Array Oper} {o : Oper} {a : Act} {w : World} {K : Act → World → Prop} {Q : Exit → Act → World → Prop} {X : Prop} (hw : Region.wanted o (yielded ops a.tmps) = true) (t : TypeId) (x : Operand) (hop : o.op = .convert t t x)
    (g n c : Nat) (C : Array Value) (e : TypeId) (hx : a.eval x = .slice (some ⟨g, 0, none⟩) n c) (hg : w.heap[g]? = some (.cells C e (0, 0))) (ht : P.underlying t = some (.slice e)) (he : P.underlying e = some (.int .u8))
    (hK : ∀ W' fr, W'.heap[g]? = some (.cells C e fr) → Chg (fun b => b = g) w W' → K (a.put o.dst (.slice (some ⟨g, 0, none⟩) n c)) W') : if Region.wanted o (yielded ops a.tmps) = true then Oper.wp P o a w K Q else X := by
  rw [if_pos hw]
  obtain ⟨W', h1, ⟨fr, h2⟩, h3⟩ := run_mark (P := P) w t e g n c C hg ht he
  unfold Oper.wp execOp
  simp only [hop, Sem.run_bind, hx, h1, Result.andThen_ok]
  exact hK W' fr h2 h3
end
theorem step_build1 {P : Program} {α : Type} [Enc α] {S E : TypeId} {z : Value} {bytes : Nat} (hS : Slot P α S E z bytes) (hsm : Enc.size α ≤ 16777216) {w : World} {ops : Array Oper} {o : Oper} {a : Act} {K : Act → World → Prop} {Q : Exit → Act → World → Prop} {X : Prop} (hw : Region.wanted o (yielded ops a.tmps) = true)
    (x : Operand) (hop : o.op = .buildSlice S 1 #[(0, x)]) (cs : List Value) (hx : (a.eval x).cells = cs.toArray) (hcs : cs.length = Enc.size α)
    (hK : ∀ g w', w.heap.size ≤ g → w'.heap[g]? = some (.cells cs.toArray E (0, 0)) → Below w.heap.size w w' → K (a.put o.dst (.slice (some ⟨g, 0, none⟩) 1 1)) w') : if Region.wanted o (yielded ops a.tmps) = true then Oper.wp P o a w K Q else X := by
  rw [if_pos hw]
  exact wp_buildOne hS hsm x hop cs hx hcs (hK _ _ (Nat.le_refl _) (heap_alloc_new w _) (ext_alloc w _))
theorem rd_frz {w : World} {g : Nat} {l : List UInt8} {t : TypeId} {fr : Nat × Nat} (h : w.heap[g]? = some (.cells (l.map bv).toArray t fr)) : Rd w (some ⟨g, 0, none⟩) l := fun _ => ⟨g, 0, rfl, fun j x hx => by
  rw [cell_of_row w g (0 + j) _ t fr h, Nat.zero_add, List.getElem?_toArray, List.getElem?_map, hx]; rfl⟩
end Go.Proofs.YtapnhdpgogfceaaDoor
