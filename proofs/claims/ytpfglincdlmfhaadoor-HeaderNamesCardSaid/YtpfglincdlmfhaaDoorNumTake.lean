/-
  Contracts of package num: Take.
-/
import Derived.Test.YtpfglincdlmfhaaDoorNumCut
import Derived.Test.YtpfglincdlmfhaaDoorNumNumber
import Derived.Test.YtpfglincdlmfhaaDoorTagX
namespace Go.Proofs.YtpfglincdlmfhaaDoor
open Go.RowKit
set_option linter.unusedVariables false

set_option maxHeartbeats 400000 in
theorem Take_any (A : Option Addr) (m c : Nat) (l : List UInt8) (s : Int) (w : World) (hr : Rd w A l) (hm : m = l.length) (hc : l.length ≤ c) (hc2 : c ≤ 9223372036854775807) (hb47 : l.length ≤ 140737488351232) :
    Calls Tryd.prog 21 #[.slice A m c, .int .i64 s] w fun e w' => ∃ A' c', e = .returned (.tuple #[.int .u64 (takeN l s : Int), .slice A' (takeR l s).length c', .int .i64 (takeE l s)]) ∧ Own 5 w' w.heap.size A' c' (takeR l s) ∧ Below w.heap.size w w' := by
  subst hm
  by_cases hs : 1 ≤ s ∧ s ≤ 8
  · obtain ⟨k, rfl⟩ := Int.eq_ofNat_of_zero_le (show 0 ≤ s by omega)
    by_cases hk : l.length < k
    · have e1 : takeE l k = 10 := by simp only [takeE]; rw [if_pos hs, if_pos (by omega)]
      have e2 : takeR l k = [] := by simp [takeR, e1]
      have e3 : takeN l k = 0 := by simp [takeN, e1]
      rw [e1, e2, e3]
      obtain ⟨h1, h8⟩ := hs
      clear e1 e2 e3
      go_enter Tryd.func21, Tryd.ntmps21
      go_wp2_with (first | (go_at_call 35; refine (isSize_yes _ _ (by omega) (by omega)).mono ?_; rintro e w' ⟨rfl, rfl⟩))
      go_ret3
      exact ⟨_, _, rfl, Own.nil _ _, Below.refl _ _⟩
    · have e1 : takeE l k = 0 := by simp only [takeE]; rw [if_pos hs, if_neg (by omega)]
      have e2 : takeR l k = l.drop k := by simp [takeR, e1]
      have e3 : takeN l k = num (l.take k) := by simp [takeN, e1]
      have e4 : (l.drop k).take (l.length - k) = l.drop k := List.take_of_length_le (by simp)
      rw [e1, e3]
      obtain ⟨h1, h8⟩ := hs
      have E4 : Hid (takeR l k = (l.drop k).take (l.length - k)) := by rw [e4]; exact e2
      clear e1 e2 e3 e4
      generalize takeR l k = x at *
      go_enter Tryd.func21, Tryd.ntmps21
      go_wp2_with (first | (go_at_call 35; refine (isSize_yes _ _ (by omega) (by omega)).mono ?_; rintro e w' ⟨rfl, rfl⟩) | (go_at_call 36; refine (number_any A _ c k l _ hr rfl (by omega) (by omega) (by omega)).mono ?_; rintro e w' ⟨rfl, rfl⟩) | (go_at_call 37; refine (cut_is A _ c k l.length _ _ l x _ hr (by omega) (by omega) rfl E4.out (by omega) (by omega) (by omega) (by omega) hb47).mono ?_; rintro e w1 ⟨A1, c1, rfl, ho, hb⟩))
      go_ret3
      exact ⟨_, _, rfl, ho, hb⟩
  · have e1 : takeE l s = 2 := by simp only [takeE]; rw [if_neg hs]
    have e2 : takeR l s = [] := by simp [takeR, e1]
    have e3 : takeN l s = 0 := by simp [takeN, e1]
    rw [e1, e2, e3]
    have hs' : s < 1 ∨ 8 < s := by omega
    clear e1 e2 e3 hs
    go_enter Tryd.func21, Tryd.ntmps21
    go_wp2_with (first | (go_at_call 35; refine (isSize_no _ _ hs').mono ?_; rintro e w' ⟨rfl, rfl⟩))
    go_ret3
    exact ⟨_, _, rfl, Own.nil _ _, Below.refl _ _⟩

theorem Take_is (A : Option Addr) (m c : Nat) (l : List UInt8) (s : Int) (v : Int) (b : List UInt8) (e : Int) (w : World) (hr : Rd w A l) (hm : m = l.length) (hc : l.length ≤ c) (hc2 : c ≤ 9223372036854775807) (hb47 : l.length ≤ 140737488351232)
    (hv : (takeN l s : Int) = v) (hb : takeR l s = b) (he : takeE l s = e) :
    Calls Tryd.prog 21 #[.slice A m c, .int .i64 s] w fun r w' => ∃ A' c', r = .returned (.tuple #[.int .u64 v, .slice A' b.length c', .int .i64 e]) ∧ Own 5 w' w.heap.size A' c' b ∧ Below w.heap.size w w' := by
  subst hv hb he
  exact Take_any A m c l s w hr hm hc hc2 hb47
end Go.Proofs.YtpfglincdlmfhaaDoor
