/-
  Contracts of the landed package path: masks and bits.
-/
import Derived.Test.YtiogdenlaelkbaaDigCell
import Derived.IntWalk
namespace Go.Proofs.Ytiogdenlaelkbaa
open Go.RowKit
set_option linter.unusedVariables false
set_option linter.unusedSimpArgs false

theorem pow_div (p : Nat) (h : p < 8) : (128 : Int) / 2 ^ p = ((2 ^ (7 - p) : Nat) : Int) := by
  have : ∀ p : Fin 8, (128 : Int) / 2 ^ p.val = ((2 ^ (7 - p.val) : Nat) : Int) := by decide +kernel
  exact this ⟨p, h⟩
theorem mask_any (i : Nat) (w : World) : Calls Try.prog 46 #[.int .i64 (i : Int)] w fun r w' => r = .returned (.int .u8 ((2 ^ (7 - i % 8) : Nat) : Int)) ∧ w' = w := by
  have q2 := tmod8 i
  have q4 : i % 8 < 8 := Nat.mod_lt _ (by omega)
  generalize i % 8 = p at *
  go_enter Try.func46, Try.ntmps46
  go_wp2
  go_ret
  refine ⟨?_, rfl⟩
  show Ending.returned (.int .u8 ((128 : Int) / 2 ^ p)) = _
  rw [pow_div p q4]

theorem byte_and (c p : Nat) (hc : c < 256) (hp : p < 8) : bits .and .u8 (c : Int) ((2 ^ (7 - p) : Nat) : Int) = ((c / 2 ^ (7 - p) % 2 * 2 ^ (7 - p) : Nat) : Int) := by
  have : ∀ c : Fin 256, ∀ p : Fin 8, bits .and .u8 (c.val : Int) ((2 ^ (7 - p.val) : Nat) : Int) = ((c.val / 2 ^ (7 - p.val) % 2 * 2 ^ (7 - p.val) : Nat) : Int) := by decide +kernel
  exact this ⟨c, hc⟩ ⟨p, hp⟩
theorem byte_xor (c : UInt8) (p : Nat) (hp : p < 8) : bits .xor .u8 (c.toNat : Int) ((2 ^ (7 - p) : Nat) : Int) = ((tbyte c p).toNat : Int) := by
  have : ∀ c : Fin 256, ∀ p : Fin 8, bits .xor .u8 (c.val : Int) ((2 ^ (7 - p.val) : Nat) : Int) = ((tbyte (UInt8.ofNat c.val) p.val).toNat : Int) := by decide +kernel
  have h := this ⟨c.toNat, c.toNat_lt⟩ ⟨p, hp⟩
  simp only [UInt8.ofNat_toNat] at h
  exact h

theorem mask_is (i : Nat) (m : Int) (w : World) (hm : ((2 ^ (7 - i % 8) : Nat) : Int) = m) : Calls Try.prog 46 #[.int .i64 (i : Int)] w fun r w' => r = .returned (.int .u8 m) ∧ w' = w := by
  subst hm
  exact mask_any i w

set_option maxRecDepth 100000 in
set_option maxHeartbeats 800000 in
theorem bit_any (l : List UInt8) (i : Nat) (w : World) (hl : l.length = 32) (hi : i < 256) :
    Calls Try.prog 45 #[.agg (l.map bv).toArray, .int .i64 (i : Int)] w fun r w' => r = .returned (.int .u8 (kb l i : Int)) ∧ Below w.heap.size w w' := by
  obtain ⟨c, hc⟩ : ∃ c, (l.getD (i / 8) 0).toNat = c := ⟨_, rfl⟩
  have hcl : c < 256 := by have := (l.getD (i / 8) 0).toNat_lt; omega
  have hcell := dcell (l.map bv).toArray 24 w (i / 8)
  rw [dget l (i / 8) (by omega), hc] at hcell
  have hk : kb l i = c / 2 ^ (7 - i % 8) % 2 := by unfold kb; rw [hc]
  rw [hk]
  clear hk hc
  obtain ⟨ds, hds⟩ : ∃ ds, ds = (l.map bv).toArray := ⟨_, rfl⟩
  have hsz : ds.size = 32 := by rw [hds]; simp [hl]
  rw [← hds] at hcell ⊢
  replace hds := hid hds
  have q1 := tdiv8 i
  have q3 : i / 8 < 32 := by omega
  have q4 : i % 8 < 8 := Nat.mod_lt _ (by omega)
  have hB := byte_and c (i % 8) hcl q4
  obtain ⟨m, hm⟩ : ∃ m : Int, ((2 ^ (7 - i % 8) : Nat) : Int) = m := ⟨_, rfl⟩
  have hm0 : (2 ^ (7 - i % 8) : Nat) ≠ 0 := Nat.ne_of_gt (Nat.two_pow_pos _)
  obtain ⟨z, hz⟩ : ∃ z, c / 2 ^ (7 - i % 8) % 2 = z := ⟨_, rfl⟩
  have hzl : z < 2 := by rw [← hz]; exact Nat.mod_lt _ (by omega)
  rw [hz] at hB ⊢
  rw [hm] at hB
  have hM := fun W => mask_is i m W hm
  replace hm0 := hid hm0
  have hE : ((z * 2 ^ (7 - i % 8) : Nat) : Int) = 0 ↔ z = 0 := by
    rw [Int.natCast_eq_zero, Nat.mul_eq_zero]
    exact ⟨fun h => h.resolve_right hm0.out, .inl⟩
  obtain ⟨u, hu⟩ : ∃ u : Int, ((z * 2 ^ (7 - i % 8) : Nat) : Int) = u := ⟨_, rfl⟩
  rw [hu] at hB hE
  clear hm hz hu hm0
  generalize i / 8 = q at *
  replace hM := hid hM
  go_enter Try.func45, Try.ntmps45
  go_wp2
  go_quiet ((go_at_call 46; refine Calls.quiet_of_same (hM.out _)))
  rcases Nat.eq_zero_or_pos z with h0 | h0
  · have hu0 := hE.2 h0
    subst h0
    subst hu0
    go_wp2
    go_ret
    exact ⟨rfl, below_drewN (ext_alloc _ _) _⟩
  · have hu0 : ¬ u = 0 := fun h => by have := hE.1 h; omega
    obtain rfl : z = 1 := by omega
    go_wp2
    go_ret
    exact ⟨rfl, below_drewN (ext_alloc _ _) _⟩
theorem bit_is (l : List UInt8) (i : Nat) (v : Value) (n : Int) (w : World) (hv : v = .agg (l.map bv).toArray) (hl : l.length = 32) (hi : i < 256) (hn : (kb l i : Int) = n) :
    Calls Try.prog 45 #[v, .int .i64 (i : Int)] w fun r w' => r = .returned (.int .u8 n) ∧ Below w.heap.size w w' := by
  subst hv hn
  exact bit_any l i w hl hi
end Go.Proofs.Ytiogdenlaelkbaa
