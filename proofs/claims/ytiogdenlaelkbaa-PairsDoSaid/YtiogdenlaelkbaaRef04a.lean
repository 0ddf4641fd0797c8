/-
  The document's answers for layer 4: the bit at a place.
-/
import Derived.Test.YtiogdenlaelkbaaDigCell
import Derived.Test.YtiogdenlaelkbaaHeld
import Derived.IntWalk
namespace Go.Proofs.Ytiogdenlaelkbaa
open Go.RowKit
set_option linter.unusedVariables false
set_option linter.unusedSimpArgs false

set_option maxRecDepth 100000 in
set_option maxHeartbeats 800000 in
theorem At_any (l : List UInt8) (i : Nat) (w : World) (hl : l.length = 32) (hi : i < 256) :
    Calls Try.prog 42 #[.agg (l.map bv).toArray, .int .i64 (i : Int)] w fun r w' => r = .returned (.int .u8 (kb l i : Int)) ∧ Below w.heap.size w w' := by
  obtain ⟨c, hc⟩ : ∃ c, (l.getD (i / 8) 0).toNat = c := ⟨_, rfl⟩
  have hcl : c < 256 := by have := (l.getD (i / 8) 0).toNat_lt; omega
  have hcell := dcell (l.map bv).toArray 24 w (i / 8)
  rw [dget l (i / 8) (by omega), hc] at hcell
  have hk : kb l i = c / 2 ^ (7 - i % 8) % 2 := by unfold kb; rw [hc]
  rw [hk]
  clear hk hc
  obtain ⟨ds, hds⟩ : ∃ ds, ds = (l.map bv).toArray := ⟨_, rfl⟩
  have hsz : ds.size = 32 := by rw [hds]; simp [hl]
  rw [← hds] at hcell ⊢
  replace hds := hid hds
  have q1 := tdiv8 i
  have q2 := tmod8 i
  have q3 : i / 8 < 32 := by omega
  have q4 : i % 8 < 8 := Nat.mod_lt _ (by omega)
  generalize i / 8 = q at *
  generalize i % 8 = p at *
  go_enter Try.func42, Try.ntmps42
  go_wp2
  go_loopw [5, 6] (fun v j wr => ∃ k : Nat, k ≤ 7 - p ∧ v = .int .u8 ((c / 2 ^ k : Nat) : Int) ∧ j = .int .i64 ((7 - k : Nat) : Int) ∧ Below w.heap.size w wr) (fun _ j _ => (intOf j).toNat)
  case atStart => exact ⟨0, Nat.zero_le _, by simp, rfl, ext_alloc _ _⟩
  case round =>
    obtain ⟨k, hk, rfl, rfl, hb⟩ := hrel
    have hx : c / 2 ^ k < 256 := Nat.lt_of_le_of_lt (Nat.div_le_self _ _) hcl
    have hs : c / 2 ^ (k + 1) = c / 2 ^ k / 2 := by rw [Nat.pow_succ, ← Nat.div_div_eq_div_mul]
    have hy : 7 - p = k → c / 2 ^ (7 - p) % 2 = c / 2 ^ k % 2 := fun h => by rw [h]
    by_cases hlt : k < 7 - p
    · have d2 := tdiv2 (c / 2 ^ k)
      replace hs := hid hs
      generalize c / 2 ^ k = x at *
      clear hy
      go_wp2
      go_roundw
      case rel => exact ⟨k + 1, by omega, by rw [hs.out]; simp, by congr 1; omega, hb⟩
      case measure => simp [intOf]; omega
    · have hy2 := hid (hy (by omega))
      have d2 := tmod2 (c / 2 ^ k)
      clear hs hy
      generalize c / 2 ^ k = x at *
      go_wp2
      go_ret
      rw [hy2.out]
      exact ⟨by simp, hb⟩
/-! ### two keys -/
theorem At_is (l : List UInt8) (i : Nat) (v : Value) (w : World) (hv : v = .agg (l.map bv).toArray) (hl : l.length = 32) (hi : i < 256) :
    Calls Try.prog 42 #[v, .int .i64 (i : Int)] w fun r w' => r = .returned (.int .u8 (kb l i : Int)) ∧ Below w.heap.size w w' := by
  subst hv
  exact At_any l i w hl hi
end Go.Proofs.Ytiogdenlaelkbaa
