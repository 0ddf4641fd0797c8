/-
  Bytes written over: 'Mut F w w'': in blocks of F some bytes are other bytes; all else is as it was. No program is named here.
-/
import Derived.Test.YtiogdenlaelkbaaPair
import Derived.Test.YtiogdenlaelkbaaRegs
namespace Go.Proofs.Ytiogdenlaelkbaa
open Go.RowKit
set_option linter.unusedVariables false

def isU8 (v : Value) : Prop := ∃ n : Int, v = .int .u8 n
structure Mut (F : Nat → Prop) (w w' : World) : Prop where
  chg : Chg F w w'
  cells : ∀ (b : Nat) (cs : Array Value) (t : TypeId), w.heap[b]? = some (Obj.cells cs t (0, 0)) → ∃ cs', w'.heap[b]? = some (Obj.cells cs' t (0, 0)) ∧ ∀ (i : Nat) (v : Value), cs[i]? = some v → ∃ v', cs'[i]? = some v' ∧ (v' = v ∨ isU8 v ∧ isU8 v')
theorem Mut.refl (F : Nat → Prop) (w : World) : Mut F w w := ⟨Chg.refl F w, fun b cs t h => ⟨cs, h, fun i v hv => ⟨v, hv, .inl rfl⟩⟩⟩
theorem Mut.drew {F : Nat → Prop} {w w' : World} (h : Mut F w w') : Mut F w w'.drew := ⟨h.chg.trans (Chg.of_bel (bel_drew w')), h.cells⟩
theorem Mut.store {F : Nat → Prop} {w W : World} (h : Mut F w W) {b i : Nat} (hF : F b) (hs : Soft w b) {n : Int} (hc : W.cell? ⟨b, i, none⟩ = some (.int .u8 n)) (m : Int) : Mut F w (W.setCell ⟨b, i, none⟩ (.int .u8 m)) := by
  refine ⟨h.chg.trans ⟨rfl, rfl, rfl, by simp [World.setCell], fun k hk hn => Below.heap_setCell _ _ _ k (fun e => hn (by rw [e]; exact hF))⟩, fun k cs t hk => ?_⟩
  obtain ⟨cs1, h1, h2⟩ := h.cells k cs t hk
  by_cases e : k = b
  · subst e
    refine ⟨_, block_set h1 i _, fun j v hv => ?_⟩
    obtain ⟨v1, h3, h4⟩ := h2 j v hv
    rw [Array.getElem?_setIfInBounds]
    by_cases he : i = j
    · subst he
      have hsz : i < cs1.size := (Array.getElem?_eq_some_iff.1 h3).1
      rw [if_pos rfl, if_pos hsz]
      rw [block_cell h1 i, h3] at hc
      injection hc with hc
      refine ⟨_, rfl, .inr ⟨?_, ⟨m, rfl⟩⟩⟩
      rcases h4 with h4 | h4
      · exact ⟨n, by rw [← h4, hc]⟩
      · exact h4.1
    · rw [if_neg he]
      exact ⟨v1, h3, h4⟩
  · exact ⟨cs1, (Below.heap_setCell _ _ _ k e).trans h1, h2⟩
theorem Soft.mut {F : Nat → Prop} {w W : World} {b : Nat} (hs : Soft w b) (h : Mut F w W) : Soft W b := by
  obtain ⟨cs, t, hs⟩ := hs
  obtain ⟨cs', h1, _⟩ := h.cells b cs t hs
  exact ⟨cs', t, h1⟩
theorem Soft.free {W : World} {b : Nat} (hs : Soft W b) (i : Nat) : W.frozen? ⟨b, i, none⟩ = false := by
  obtain ⟨cs, t, hs⟩ := hs
  exact block_frozen hs i
theorem Mut.same {F : Nat → Prop} {w W : World} {b i : Nat} {v : Value} (h : Mut F w W) (hs : Soft w b) (hc : w.cell? ⟨b, i, none⟩ = some v) (hv : ¬ isU8 v) : W.cell? ⟨b, i, none⟩ = some v := by
  obtain ⟨cs, t, hs⟩ := hs
  obtain ⟨cs', h1, h2⟩ := h.cells b cs t hs
  rw [block_cell hs i] at hc
  obtain ⟨v', h3, h4⟩ := h2 i v hc
  rw [block_cell h1 i, h3]
  rcases h4 with h4 | h4
  · rw [h4]
  · exact absurd h4.1 hv
theorem Mut.byte {F : Nat → Prop} {w W : World} {b i : Nat} {x : UInt8} (h : Mut F w W) (hs : Soft w b) (hc : w.cell? ⟨b, i, none⟩ = some (bv x)) : ∃ n : Int, W.cell? ⟨b, i, none⟩ = some (.int .u8 n) := by
  obtain ⟨cs, t, hs⟩ := hs
  obtain ⟨cs', h1, h2⟩ := h.cells b cs t hs
  rw [block_cell hs i] at hc
  obtain ⟨v', h3, h4⟩ := h2 i _ hc
  rw [block_cell h1 i, h3]
  rcases h4 with h4 | ⟨-, n, h4⟩
  · exact ⟨(x.toNat : Int), by rw [h4]; rfl⟩
  · exact ⟨n, by rw [h4]⟩
theorem not_u8_slice (A : Option Addr) (n c : Nat) : ¬ isU8 (.slice A n c) := by rintro ⟨m, h⟩; cases h

/-- An own row, with what may be written. -/
theorem OwnR.softRow {α : Type} [Enc α] {E : TypeId} {w : World} {B : Nat} {A : Option Addr} {c : Nat} {xs : List α} (h : OwnR E w B A c xs) : Row (fun b => B ≤ b ∧ Soft w b) w A xs := by
  obtain ⟨F, h1, h2⟩ := h
  refine h1.row.mono ?_
  rintro b (hb | ⟨a, ha, rfl⟩) _
  · exact h2 b hb
  · refine ⟨(h1.blk a ha).1, ?_⟩
    obtain ⟨css, _, ⟨_, h3⟩, _⟩ := h1
    rcases h3 with ⟨hv, _⟩ | ⟨g, cap, cur, hv, _, hg, _⟩
    · injection hv with hA
      rw [ha] at hA
      cases hA
    · injection hv with hA
      rw [ha] at hA
      injection hA with hA
      subst hA
      exact ⟨cur, _, hg⟩
theorem Chg.soft {F : Nat → Prop} {w w' : World} {b : Nat} (hc : Chg F w w') (hs : Soft w b) (hn : ¬ F b) : Soft w' b := hs.kept (hc.block b hs.lt hn)

/-- A row that lies, with all that it refers to, in blocks from lo on and before hi that may be written. -/
def Held {α : Type} [Enc α] (w : World) (lo hi : Nat) (A : Option Addr) (xs : List α) : Prop := ∃ F, Row F w A xs ∧ ∀ b, F b → lo ≤ b ∧ b < hi ∧ Soft w b
section
variable {α : Type} [Enc α] {w w' : World} {lo hi l2 h2 : Nat} {A : Option Addr} {xs : List α}
theorem OwnR.held {E : TypeId} {B c : Nat} (h : OwnR E w B A c xs) : Held w B w.heap.size A xs := ⟨_, h.softRow, fun b hb => ⟨hb.1, hb.2.lt, hb.2⟩⟩
theorem Own.held {E : TypeId} {B c : Nat} {l : List UInt8} (h : Own E w B A c l) : Held w B w.heap.size A l :=
  ⟨fun b => B ≤ b ∧ Soft w b, h.rd.row fun a ha _ => h.soft a ha, fun b hb => ⟨hb.1, hb.2.lt, hb.2⟩⟩
theorem Held.row (h : Held w lo hi A xs) : Row (fun b => lo ≤ b ∧ b < hi) w A xs := by
  obtain ⟨F, h1, h2⟩ := h
  exact h1.mono fun b hb _ => ⟨(h2 b hb).1, (h2 b hb).2.1⟩
theorem Held.chg (h : Held w lo hi A xs) (hc : Chg (fun b => l2 ≤ b ∧ b < h2) w w') (hd : hi ≤ l2 ∨ h2 ≤ lo) : Held w' lo hi A xs := by
  obtain ⟨F, h1, h3⟩ := h
  have hne : ∀ b, F b → ¬ (l2 ≤ b ∧ b < h2) := fun b hb he => by have := h3 b hb; omega
  exact ⟨F, h1.chg hc fun b hb _ => hne b hb, fun b hb => ⟨(h3 b hb).1, (h3 b hb).2.1, hc.soft (h3 b hb).2.2 (hne b hb)⟩⟩
theorem Held.bel (h : Held w lo hi A xs) (hb : Below w.heap.size w w') : Held w' lo hi A xs := by
  obtain ⟨F, h1, h3⟩ := h
  exact ⟨F, h1.bel hb, fun b hf => ⟨(h3 b hf).1, (h3 b hf).2.1, (h3 b hf).2.2.kept (hb.block b (h3 b hf).2.2.lt)⟩⟩
theorem Row.chgLow {m : Nat} (h : Row (fun b => b < m) w A xs) (hc : Chg (fun b => l2 ≤ b ∧ b < h2) w w') (hm : m ≤ l2) : Row (fun b => b < m) w' A xs := h.chg hc fun b hb _ he => by omega
end
end Go.Proofs.Ytiogdenlaelkbaa
