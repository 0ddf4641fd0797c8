/-
  The document's answers of layer 5: Great, Value.
-/
import Derived.Test.YtiogdenlaelkbaaU8
import Derived.Test.YtiogdenlaelkbaaPair
namespace Go.Proofs.Ytiogdenlaelkbaa
open Go.RowKit
set_option linter.unusedVariables false

theorem ret_b {a b : Bool} (h : a = b) : Ending.returned (.bool a) = .returned (.bool b) := by rw [h]
theorem ret_i {k : IntKind} {a b : Int} (h : a = b) : Ending.returned (.int k a) = .returned (.int k b) := by rw [h]
def anyG (ps : List Pr) : Bool := ps.any fun p => decide (100 < p.v.length)
theorem anyG_take {ps : List Pr} {j : Nat} (hj : j < ps.length) : anyG (ps.take (j + 1)) = (anyG (ps.take j) || decide (100 < ps[j].v.length)) := by
  unfold anyG
  rw [List.take_succ_eq_append_getElem hj, List.any_append]; simp
theorem anyG_part {ps : List Pr} {j : Nat} (h : anyG (ps.take j) = true) : anyG ps = true := by
  unfold anyG at *
  rw [List.any_eq_true] at *
  obtain ⟨x, h1, h2⟩ := h
  exact ⟨x, List.mem_of_mem_take h1, h2⟩
theorem RGreat_any (F : Nat → Prop) (A : Option Addr) (c n m : Nat) (ps : List Pr) (w : World) (hr : Row F w A ps) (hn : n = ps.length) (hc : ps.length ≤ 9223372036854775807) :
    Calls Try.prog 5 #[.slice A n c, .int .i64 (m : Int)] w fun e w' => e = .returned (.bool (greatP ps m)) ∧ w = w' := by
  subst hn
  obtain ⟨ans, ha⟩ : ∃ ans, greatP ps m = ans := ⟨_, rfl⟩
  have hG : greatP ps m = (decide (m < ps.length) || anyG ps) := rfl
  rw [ha] at hG ⊢
  clear ha
  by_cases h0 : m < ps.length
  · rw [decide_eq_true h0, Bool.true_or] at hG
    subst hG
    go_enter Try.func5, Try.ntmps5
    go_wp2
    go_ret
    exact ⟨rfl, rfl⟩
  · rw [decide_eq_false h0, Bool.false_or] at hG
    replace hG := hid hG
    go_enter Try.func5, Try.ntmps5
    go_wp2
    go_loop [5] (fun i => ∃ k : Nat, k ≤ ps.length ∧ i = .int .i64 k ∧ anyG (ps.take k) = false) (fun i => ps.length - (intOf i).toNat)
    case atStart => exact ⟨0, Nat.zero_le _, rfl, rfl⟩
    case round =>
      obtain ⟨k, hk, rfl, hrel⟩ := hrel
      by_cases hlt : k < ps.length
      · have ht := anyG_take hlt
        obtain ⟨b, o, rfl, _, A', c', hcell, _, h1, h2, h3⟩ := row_pr hr hlt
        generalize ps[k].v = v at *
        rw [hrel, Bool.false_or] at ht
        replace hrel := hid hrel
        by_cases hv : 100 < v.length
        · rw [decide_eq_true hv] at ht
          replace ht := hid ht
          go_wp2
          go_ret
          exact ⟨ret_b (by rw [hG.out, anyG_part ht.out]), rfl⟩
        · rw [decide_eq_false hv] at ht
          replace ht := hid ht
          go_wp2
          go_round
          case rel => exact ⟨k + 1, by omega, by go_num, ht.out⟩
          case measure => simp [intOf]; omega
      · obtain rfl : k = ps.length := by omega
        rw [List.take_length] at hrel
        replace hrel := hid hrel
        go_wp2
        go_ret
        exact ⟨ret_b (by rw [hG.out, hrel.out]), rfl⟩

theorem RValue_any (A : Option Addr) (c n : Nat) (w : World) (hc : n ≤ 9223372036854775807) :
    Calls Try.prog 28 #[.slice A n c] w fun e w' => e = .returned (.bool (decide (1 ≤ n ∧ n ≤ 64))) ∧ w = w' := by
  go_enter Try.func28, Try.ntmps28
  by_cases h1 : 1 ≤ n
  · by_cases h2 : n ≤ 64
    · go_wp2
      go_ret
      exact ⟨ret_b (by simp [h1, h2]; omega), rfl⟩
    · go_wp2
      go_ret
      exact ⟨ret_b (by simp [h1, h2]; omega), rfl⟩
  · go_wp2
    go_ret
    exact ⟨ret_b (by simp), rfl⟩
end Go.Proofs.Ytiogdenlaelkbaa
