/-
  Contracts of package num: cut.
-/
import Derived.Test.YtpfglincdlmfhaaDoorBits
namespace Go.Proofs.YtpfglincdlmfhaaDoor
open Go.RowKit
set_option linter.unusedVariables false

set_option maxHeartbeats 400000 in
theorem cut_any (A : Option Addr) (c f t : Nat) (l : List UInt8) (w : World) (hr : Rd w A l) (hft : f ≤ t) (ht : t ≤ l.length) (hc : l.length ≤ c) (hm : c ≤ 9223372036854775807) (hb47 : l.length ≤ 140737488351232) :
    Calls Tryd.prog 37 #[.slice A l.length c, .int .i64 (f : Int), .int .i64 (t : Int)] w fun e w' => ∃ A' c', e = .returned (.slice A' ((l.drop f).take (t - f)).length c') ∧ Own 5 w' w.heap.size A' c' ((l.drop f).take (t - f)) ∧ Below w.heap.size w w' := by
  obtain ⟨i0, hi0, hz0, hz1, hz2⟩ := info_parts infoU8
  have hsz : (Tryd.prog.info? 5).map (·.size) = some 1 := by rw [hi0]; simp [hz1]
  obtain ⟨x, hx⟩ : ∃ x, x = (l.drop f).take (t - f) := ⟨_, rfl⟩
  have hlen : x.length = t - f := by rw [hx]; simp; omega
  have hcut := hr.cut f t t hft ht (Nat.le_refl _)
  rw [← hx] at hcut ⊢
  have Hx := hid hx
  clear hx
  by_cases hne : t = f
  · subst hne
    obtain rfl : x = [] := List.eq_nil_of_length_eq_zero (by omega)
    have hz : (t - t) = 0 := by omega
    go_enter Tryd.func37, Tryd.ntmps37
    go_wp2_with (first
      | (at_make; refine wpList_make_full _ rfl _ _ 29 rfl w.heap.size 5 i0 (.int .u8 0) 1 Tryd.underlying29 hi0 hz0 hz1 _ _ _ _ 0 rfl rfl (by go_num) (by go_num) (by rw [hz2]; omega) (by unfold maxLen; omega) (Nat.le_refl _) ?_; intro w1 hown1 hgrow1; have hg1 := made_block hown1; have hb1 := (Below.refl w.heap.size w).grown hgrow1 (Nat.le_refl _) (by simp))
      | (with_reducible refine wpList_copy_nothing rfl (.tmp 17) (.tmp 18) 29 29 rfl 5 Tryd.underlying29 hsz _ _ _ _ _ _ rfl rfl (by simp) ?_))
    go_ret
    exact ⟨_, _, rfl, Own.of_block (l := []) (by simpa using hg1) (Nat.le_refl _) (by simp), hb1⟩
  · rw [if_neg hne] at hcut
    have hpos : 0 < x.length := by omega
    go_enter Tryd.func37, Tryd.ntmps37
    go_wp2_with (first
      | (at_make; refine wpList_make_full _ rfl _ _ 29 rfl w.heap.size 5 i0 (.int .u8 0) 1 Tryd.underlying29 hi0 hz0 hz1 _ _ _ _ (t - f) rfl rfl (by go_num) (by go_num) (by rw [hz2]; omega) (by unfold maxLen; omega) (Nat.le_refl _) ?_; intro w1 hown1 hgrow1; have hg1 := hid (made_block hown1); have hb1 := (Below.refl w.heap.size w).grown hgrow1 (Nat.le_refl _) (by simp); have hs1 := hid (hcut.bel hb1).src; clear hown1 hgrow1)
      | (with_reducible refine wpList_copy_splice rfl (.tmp 17) (.tmp 18) 29 29 rfl 5 Tryd.underlying29 hsz _ _ _ _ _ _ rfl rfl w.heap.size 0 _ 5 hg1.out (x.map bv) (by simp [hlen]) (fun h => ⟨rfl, hs1.out h⟩) (by simp [hlen]) (bvs_one _) w.heap.size w hb1 (Nat.le_refl _) ?_; intro w2 hg2 hb2))
    go_ret
    have hg3 := hg2.out
    rw [splice_all _ _ (by simp [hlen])] at hg3
    have ho := Own.of_block hg3 (Nat.le_refl _) (by unfold maxLen; omega)
    rw [hlen] at ho ⊢
    exact ⟨_, _, rfl, ho, hb2⟩

theorem cut_is (A : Option Addr) (m c f t : Nat) (fi ti : Int) (l x : List UInt8) (w : World) (hr : Rd w A l) (hf : fi = f) (hti : ti = t) (hm : m = l.length) (hx : x = (l.drop f).take (t - f)) (hft : f ≤ t) (ht : t ≤ l.length) (hc : l.length ≤ c) (hc2 : c ≤ 9223372036854775807) (hb47 : l.length ≤ 140737488351232) :
    Calls Tryd.prog 37 #[.slice A m c, .int .i64 fi, .int .i64 ti] w fun e w' => ∃ A' c', e = .returned (.slice A' x.length c') ∧ Own 5 w' w.heap.size A' c' x ∧ Below w.heap.size w w' := by
  subst hf hti hm hx
  exact cut_any A c f t l w hr hft ht hc hc2 hb47
end Go.Proofs.YtpfglincdlmfhaaDoor
