/-
  Contracts of the landed package header: joined.
-/
import Derived.Test.YtpfglincdlmfhaaDoorBits
import Derived.Test.YtpfglincdlmfhaaDoorTagX
import Derived.OwnWalk
namespace Go.Proofs.YtpfglincdlmfhaaDoor
open Go.RowKit
set_option linter.unusedVariables false
set_option linter.unusedSimpArgs false
set_option maxRecDepth 100000

theorem flatten_succ {ls : List (List UInt8)} {j : Nat} (h : j < ls.length) : (ls.take (j + 1)).flatten = (ls.take j).flatten ++ ls[j] := by
  rw [List.take_succ_eq_append_getElem h, List.flatten_append]
  simp
theorem flatten_le (ls : List (List UInt8)) (j : Nat) : (ls.take j).flatten.length ≤ ls.flatten.length := by
  conv => rhs; rw [← List.take_append_drop j ls, List.flatten_append, List.length_append]
  omega
set_option maxHeartbeats 1000000 in
theorem PHdJoined_any (A : Option Addr) (c n : Nat) (ls : List (List UInt8)) (w : World) (hr : Rds w A ls) (hn : n = ls.length) (hc : ls.length ≤ 1000) (hl : ls.flatten.length ≤ 1000000) :
    Calls Tryd.prog 25 #[.slice A n c] w fun e w' => ∃ A' c', e = .returned (.slice A' ls.flatten.length c') ∧ Own 5 w' w.heap.size A' c' ls.flatten ∧ Below w.heap.size w w' := by
  subst hn
  obtain ⟨i0, hi0, hz0, hz1, hz2⟩ := info_parts infoU8
  go_enter Tryd.func25, Tryd.ntmps25
  go_wp2_with (first
    | (at_make; refine wpList_make_own _ rfl _ _ 29 rfl w.heap.size 5 i0 (.int .u8 0) 1 Tryd.underlying29 hi0 hz0 hz1 _ _ _ 108 rfl rfl rfl (by rw [hz2]; omega) (by unfold maxLen; omega) (Nat.le_refl _) ?_; intro w1 ho1 hg1; have o1 : Hid (Own 5 w1 w.heap.size (some ⟨w.heap.size, 0, none⟩) 108 []) := hid ho1; have W1 : Hid (Below w.heap.size w w1) := hid ((Below.refl _ w).grown hg1 (Nat.le_refl _) (by intro k hk; cases hk)); clear ho1 hg1))
  go_loopw [3, 9] (fun v i wr => ∃ (j : Nat) (A' : Option Addr) (c' : Nat), j ≤ ls.length ∧ i = .int .i64 j ∧ v = .slice A' (ls.take j).flatten.length c' ∧ Own 5 wr w.heap.size A' c' (ls.take j).flatten ∧ Below w.heap.size w wr) (fun _ i _ => ls.length - (intOf i).toNat)
  case atStart => exact ⟨0, _, 108, Nat.zero_le _, rfl, rfl, o1.out, W1.out⟩
  case round =>
    obtain ⟨j, A', c', hj, rfl, rfl, ho, hb⟩ := hrel
    by_cases hlt : j < ls.length
    · obtain ⟨b, o, rfl, hcc⟩ := hr (by omega)
      obtain ⟨A3, c3, hcell0, hr0, hc3, hm3⟩ := hcc j _ (List.getElem?_eq_getElem hlt)
      have r3 := hid (hr0.bel hb)
      have hcell := (hb.cell (p := ⟨b, o + j, none⟩) (World.block_lt_of_cell? _ _ hcell0)).trans hcell0
      have E := hid (flatten_succ hlt)
      have hx := hid (Nat.le_trans (flatten_le ls j) hl)
      have hz := hid (Nat.le_trans (flatten_le ls (j + 1)) hl)
      rw [flatten_succ hlt, List.length_append] at hz
      clear hcell0 hr0 hc3 hm3 hcc hr
      generalize hy : (ls.take (j + 1)).flatten = y at *
      replace hy := hid hy
      generalize (ls.take j).flatten = x at *
      generalize ls[j] = z at *
      have hbs := hb.size
      go_wp2_with (first
        | (at_builtin; refine wpList_app u8s rfl (.tmp 13) (.tmp 14) rfl w.heap.size A' A3 x.length z.length c' c3 x z rfl rfl rfl rfl ho r3.out (by have := hz.out; omega) hbs ?_; intro A5 c5 w5 ho5 hb5; rw [← E.out] at ho5 ⊢; replace ho5 := hid ho5))
      go_roundw
      case rel => rw [← hy.out] at ho5 ⊢; exact ⟨j + 1, A5, c5, by omega, by go_num, rfl, ho5.out, hb.trans hb5⟩
      case measure => simp [intOf]; omega
    · obtain rfl : j = ls.length := by omega
      rw [List.take_length] at ho ⊢
      generalize hy : ls.flatten = x at *
      replace hy := hid hy
      go_wp2
      go_ret
      rw [hy.out]
      exact ⟨_, _, rfl, ho, hb⟩
end Go.Proofs.YtpfglincdlmfhaaDoor
