/-
  The document's 'Joined': texts one behind the other.
-/
import Derived.Test.YtbindnoncghjjaaDoorU8
namespace Go.Proofs.YtbindnoncghjjaaDoor
open Go.RowKit
set_option linter.unusedVariables false

set_option maxHeartbeats 1600000 in
theorem Joined_any (A : Option Addr) (c n : Nat) (ls : List (List UInt8)) (w : World) (hr : Rds w A ls) (hn : n = ls.length) (hn2 : ls.length ≤ 1000000) (hl : ls.flatten.length ≤ 1000000) :
    Calls Tryd.prog 13 #[.slice A n c] w fun r w' => ∃ A' c', r = .returned (.slice A' ls.flatten.length c') ∧ Own 5 w' w.heap.size A' c' ls.flatten ∧ Below w.heap.size w w' := by
  subst hn
  go_enter Tryd.func13, Tryd.ntmps13
  go_wp2
  go_loopw [3, 4] (fun v i wr => ∃ (j : Nat) (A' : Option Addr) (c' : Nat), j ≤ ls.length ∧ i = .int .i64 j ∧ v = .slice A' ((ls.take j).flatten).length c' ∧ Own 5 wr w.heap.size A' c' (ls.take j).flatten ∧ Below w.heap.size w wr) (fun _ i _ => ls.length - (intOf i).toNat)
  case atStart => exact ⟨0, none, 0, Nat.zero_le _, rfl, by simp, by rw [List.take_zero]; exact Own.nil _ _, Below.refl _ _⟩
  case round =>
    obtain ⟨j, A', c', hj, rfl, rfl, ho, hb⟩ := hrel
    have hx := flat_take_le ls j
    have hx2 := flat_take_le ls (j + 1)
    by_cases hlt : j < ls.length
    · obtain ⟨b, o, rfl, hc⟩ := (hr.bel hb) (by omega)
      obtain ⟨A2, c2, hcell, hr2, _⟩ := hc j _ (List.getElem?_eq_getElem hlt)
      have E := hid (flat_take_succ ls j hlt)
      rw [E.out, List.length_append] at hx2
      generalize hy : (ls.take (j + 1)).flatten = y at *
      replace hy := hid hy
      generalize (ls.take j).flatten = x at *
      generalize ls[j] = z at *
      clear hc hr
      go_wp2_with (at_builtin; refine wpList_app u8s rfl (.tmp 11) (.tmp 15) rfl w.heap.size A' A2 x.length z.length c' c2 x z rfl rfl rfl rfl ho hr2 (by omega) hb.size ?_; intro A3 c3 w3 ho3 hb3; rw [← E.out] at ho3 ⊢)
      go_roundw
      case rel => rw [← hy.out] at ho3 ⊢; exact ⟨j + 1, A3, c3, by omega, by go_num, rfl, ho3, hb.trans hb3⟩
      case measure => simp [intOf]; omega
    · obtain rfl : j = ls.length := by omega
      rw [List.take_length] at ho ⊢
      generalize hy : ls.flatten = x at *
      replace hy := hid hy
      go_wp2
      go_ret
      rw [hy.out]
      exact ⟨_, _, rfl, ho, hb⟩
end Go.Proofs.YtbindnoncghjjaaDoor
