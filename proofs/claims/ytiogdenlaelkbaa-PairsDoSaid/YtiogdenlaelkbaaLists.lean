/-
  Slices of slices of bytes among a law's arguments.
-/
import Derived.Test.YtiogdenlaelkbaaBy
import Derived.Deep.Matrix
namespace Go.Proofs.Ytiogdenlaelkbaa
open Go.RowKit Go.ChangeShapes Go.WideShapes
set_option linter.unusedVariables false

/-- A list of what stands at each place below n. -/
theorem list_upto {α : Type} (n : Nat) (p : Nat → α → Prop) (h : ∀ r, r < n → ∃ x, p r x) : ∃ l : List α, l.length = n ∧ ∀ r x, l[r]? = some x → p r x := by
  induction n with
  | zero => exact ⟨[], rfl, fun r x hx => by simp at hx⟩
  | succ n ih =>
    obtain ⟨l, hl, hp⟩ := ih fun r hr => h r (by omega)
    obtain ⟨x, hx⟩ := h n (by omega)
    refine ⟨l ++ [x], by simp [hl], fun r y hy => ?_⟩
    rcases Nat.lt_or_ge r n with hr | hr
    · rw [List.getElem?_append_left (by omega)] at hy
      exact hp r y hy
    · rw [List.getElem?_append_right (by omega), hl] at hy
      have h0 : r - n = 0 := by
        rcases Nat.eq_zero_or_pos (r - n) with h0 | h0
        · exact h0
        · rw [List.getElem?_eq_none (by simp; omega)] at hy; cases hy
      rw [h0] at hy
      simp at hy
      have hrn : r = n := by omega
      rw [hrn, ← hy]
      exact hx

theorem open_rows {H : Type} {enc : TypeId × Value → H} {P : Program} {w : World} {base : Nat} {held : Bool} {t e q : TypeId} {fuel : Nat} {a0 : Option Addr} {len0 cap0 : Nat} {x : DataW H × List MemPlace}
    (ht : P.underlying t = some (.slice e)) (he : P.underlying e = some (.slice q)) (hq : P.underlying q = some (.int .u8)) (ce : P.cellsOf e = 1) (cq : P.cellsOf q = 1)
    (hf : DataW.trod enc P w base (fun _ => true) held fuel t [.slice a0 len0 cap0] = some x) :
    ∃ ls : List (List UInt8), len0 = ls.length ∧ Rds w a0 ls ∧ ls.length ≤ cap0 ∧ cap0 ≤ maxLen := by
  rcases Deep.open_int_rows ht he hq ce cq hf with ⟨hcs, _⟩ | ⟨a, len, cap, A, L, C, Z, hcs, _, hl, hm, _, hr⟩
  · simp at hcs
    obtain ⟨rfl, rfl, rfl⟩ := hcs
    exact ⟨[], rfl, fun hn => absurd hn (by simp), Nat.le_refl _, Nat.zero_le _⟩
  · simp at hcs
    obtain ⟨rfl, rfl, rfl⟩ := hcs
    have each : ∀ r, r < len0 → ∃ l : List UInt8, w.cell? (a.add r) = some (.slice (A r) l.length (C r)) ∧ Rd w (A r) l ∧ l.length ≤ C r ∧ C r ≤ maxLen := by
      intro r hr0
      obtain ⟨h1, h2, h3, h4, h5, h6, h7⟩ := hr r (by omega)
      have hrow : (A r = none ∧ L r = 0 ∧ C r = 0 ∧ Z r = []) ∨ ∃ x, A r = some x ∧ L r ≤ C r ∧ C r ≤ maxLen ∧ (Z r).length = C r ∧ (∀ i, i < (Z r).length → w.cell? (x.add i) = some (.int .u8 ((Z r).getD i 0))) ∧ ∀ n ∈ Z r, (Lit.int .u8 n).wf = true := by
        cases hA : A r with
        | none =>
          have hc := h6 hA
          exact .inl ⟨rfl, by omega, hc, List.eq_nil_of_length_eq_zero (by omega)⟩
        | some x => exact .inr ⟨x, rfl, h2, h3, h4, fun i hi => (h7 x hA).2 i (by omega), h5⟩
      obtain ⟨l, hl1, hl2, hl3, hl4⟩ := rd_of_row hrow
      exact ⟨l, by rw [h1, hl1], hl2, hl3, hl4⟩
    obtain ⟨ls, hls, hp⟩ := list_upto len0 (fun r l => w.cell? (a.add r) = some (.slice (A r) l.length (C r)) ∧ Rd w (A r) l ∧ l.length ≤ C r ∧ C r ≤ maxLen) each
    refine ⟨ls, hls.symm, ?_, by omega, hm⟩
    intro hn
    obtain ⟨b, o, spot⟩ := a
    have h0 := (hp 0 _ (List.getElem?_eq_getElem hn)).1
    have hspot : spot = none := by simpa [Addr.add] using World.cell?_spot h0
    subst hspot
    refine ⟨b, o, rfl, fun j l hj => ?_⟩
    obtain ⟨h1, h2, h3, h4⟩ := hp j l hj
    rw [Addr.add_lit] at h1
    exact ⟨A j, C j, h1, h2, h3, h4⟩
end Go.Proofs.Ytiogdenlaelkbaa
