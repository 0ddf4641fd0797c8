/-
  Contracts of the landed package rows: isRow, isPlace, isList, leftOf.
-/
import Derived.Lib.BitFns
import Derived.Lib.Strings
import Derived.Test.YtgmlmkhiflnhdaaDoorProg
import Derived.Test.YtgmlmkhiflnhdaaDoorRwP
namespace Go.Proofs.YtgmlmkhiflnhdaaDoor
open Go.RowKit
set_option linter.unusedVariables false
set_option linter.unusedSimpArgs false
set_option maxRecDepth 100000

theorem len_logF : ∀ n : Fin 256, 0 < n.val → Lib.bitLen n.val = Nat.log2 n.val + 1 := by decide +kernel
theorem len_log {x : Nat} (h : 0 < x) (h2 : x < 256) : Lib.bitLen x = Nat.log2 x + 1 := len_logF ⟨x, h2⟩ h
theorem tab_len : Lib.len8tab.size = 256 := by decide +kernel
theorem tab_at : ∀ n : Fin 256, (Lib.len8tab[n.val]'(by rw [tab_len]; exact n.2)).toNat = Lib.bitLen n.val := by decide +kernel
theorem pow_at : ∀ k : Fin 8, wrap64 ((2 : Int) ^ k.val) = ((2 ^ k.val : Nat) : Int) := by decide +kernel
set_option maxHeartbeats 4000000 in
theorem bLen64_any (x : Int) (w : World) (h0 : 0 ≤ x) (h1 : x < 256) :
    Calls Tryd.prog 53 #[.int .u64 x] w fun e w' => e = .returned (.int .i64 (Lib.bitLen x.toNat)) ∧ w' = w := by
  have q1 : ¬ (4294967296 : Int) ≤ x := by omega
  have q2 : ¬ (65536 : Int) ≤ x := by omega
  have q3 : ¬ (256 : Int) ≤ x := by omega
  go_enter Tryd.func53, Tryd.ntmps53
  go_wp2
  go_ret
  refine ⟨congrArg Ending.returned (congrArg (Value.int IntKind.i64) ?_), rfl⟩
  have h := tab_at ⟨x.toNat, by omega⟩
  have l := Lib.bitLen_le8 ⟨x.toNat, by omega⟩
  simp only at h l
  rw [h]
  unfold wrap64
  omega
theorem bLen_any (x : Int) (w : World) (h0 : 0 ≤ x) (h1 : x < 256) :
    Calls Tryd.prog 44 #[.int .u64 x] w fun e w' => e = .returned (.int .i64 (Lib.bitLen x.toNat)) ∧ w' = w := by
  have hL := hid (fun W => bLen64_any x W h0 h1)
  go_enter Tryd.func44, Tryd.ntmps44
  go_wp2_with fail
  refine (hL.out _).mono ?_
  rintro e w1 ⟨rfl, rfl⟩
  go_wp2
  go_ret
  exact ⟨rfl, rfl⟩
theorem PRwLeft_any (n : Nat) (w : World) (h2 : 2 ≤ n) (hn : n ≤ 256) :
    Calls Tryd.prog 36 #[.int .i64 (n : Int)] w fun e w' => e = .returned (.int .i64 (firstN n : Int)) ∧ w' = w := by
  have hL := fun W => bLen_any (((n - 1 : Nat) : Int)) W (by omega) (by omega)
  rw [Int.toNat_natCast, len_log (by omega) (by omega)] at hL
  replace hL := hid hL
  have e1 : IntKind.i64.wrap ((n : Int) - 1) = ((n - 1 : Nat) : Int) := by rw [IntWalk.i64_in _ (by omega)]; omega
  have e2 : IntKind.u64.wrap ((n - 1 : Nat) : Int) = ((n - 1 : Nat) : Int) := by rw [IntKind.wrap_u64]; omega
  have hf : ((2 ^ Nat.log2 (n - 1) : Nat) : Int) = (firstN n : Int) := rfl
  have hl : Nat.log2 (n - 1) < 8 := (Nat.log2_lt (by omega)).2 (by omega)
  obtain ⟨k, hk⟩ : ∃ k, Nat.log2 (n - 1) = k := ⟨_, rfl⟩
  rw [hk] at hL hf hl
  replace hf := hid hf
  clear hk
  go_enter Tryd.func36, Tryd.ntmps36
  go_wp2_with fail
  refine (hL.out _).mono ?_
  rintro e w1 ⟨rfl, rfl⟩
  go_wp2
  go_ret
  refine ⟨?_, rfl⟩
  rw [← hf.out]
  exact congrArg (fun z => Ending.returned (.int .i64 z)) (pow_at ⟨k, hl⟩)
theorem PRwRow_any (A : Option Addr) (n c : Nat) (w : World) :
    Calls Tryd.prog 26 #[.slice A n c] w fun e w' => e = .returned (.bool (decide (n ≤ 4096))) ∧ w' = w := by
  have hq : decide ((n : Int) ≤ 4096) = decide (n ≤ 4096) := decide_eq_decide.2 (by omega)
  obtain ⟨b, hb⟩ : ∃ b, decide (n ≤ 4096) = b := ⟨_, rfl⟩
  rw [hb] at hq ⊢
  clear hb
  go_enter Tryd.func26, Tryd.ntmps26
  go_wp2
  go_ret
  exact ⟨rfl, rfl⟩
theorem PRwPlace_any (i n : Int) (w : World) :
    Calls Tryd.prog 23 #[.int .i64 i, .int .i64 n] w fun e w' => e = .returned (.bool (decide (0 ≤ i) && decide (i < n))) ∧ w' = w := by
  by_cases h0 : 0 ≤ i
  · by_cases h1 : i < n
    · rw [decide_eq_true h0, decide_eq_true h1]
      go_enter Tryd.func23, Tryd.ntmps23
      go_wp2
      go_ret
      exact ⟨rfl, rfl⟩
    · rw [decide_eq_true h0, decide_eq_false h1]
      go_enter Tryd.func23, Tryd.ntmps23
      go_wp2
      go_ret
      exact ⟨rfl, rfl⟩
  · rw [decide_eq_false h0]
    go_enter Tryd.func23, Tryd.ntmps23
    go_wp2
    go_ret
    exact ⟨rfl, rfl⟩
theorem listP_take {ls : List (List UInt8)} {j : Nat} (h : j < ls.length) : ((ls.take (j + 1)).all fun x => decide (x.length ≤ 4096)) = (((ls.take j).all fun x => decide (x.length ≤ 4096)) && decide (ls[j].length ≤ 4096)) := by
  rw [List.take_succ_eq_append_getElem h, List.all_append]
  simp
theorem listP_no {ls : List (List UInt8)} {j : Nat} (h : j < ls.length) (hj : ¬ ls[j].length ≤ 4096) : listR ls = false := by
  unfold listR
  rw [Bool.and_eq_false_iff]
  right
  rw [List.all_eq_false]
  exact ⟨ls[j], List.getElem_mem h, by simpa using hj⟩
theorem PRwList_any (A : Option Addr) (c : Nat) (ls : List (List UInt8)) (w : World) (hr : Rds w A ls) (hl : ls.length ≤ 1000000) :
    Calls Tryd.prog 22 #[.slice A ls.length c] w fun e w' => e = .returned (.bool (listR ls)) ∧ w' = w := by
  obtain ⟨ans, hans⟩ : ∃ b, listR ls = b := ⟨_, rfl⟩
  rw [hans]
  by_cases h256 : 256 < ls.length
  · have h0 : ans = false := by rw [← hans]; unfold listR; rw [decide_eq_false (by omega)]; rfl
    have q1 : decide (256 < (ls.length : Int)) = true := decide_eq_true (by omega)
    subst h0
    clear hans
    go_enter Tryd.func22, Tryd.ntmps22
    go_wp2
    go_ret
    exact ⟨rfl, rfl⟩
  have q1 : decide (256 < (ls.length : Int)) = false := decide_eq_false (by omega)
  replace hans := hid hans
  go_enter Tryd.func22, Tryd.ntmps22
  go_wp2
  go_loop [4, 10] (fun _ i => ∃ j : Nat, i = .int .i64 (j : Int) ∧ j ≤ ls.length ∧ ((ls.take j).all fun x => decide (x.length ≤ 4096)) = true) (fun _ i => ls.length - (intOf i).toNat)
  case atStart => exact ⟨0, rfl, Nat.zero_le _, rfl⟩
  case round =>
    obtain ⟨j, rfl, hj, ha⟩ := hrel
    by_cases hlt : j < ls.length
    · have hlt2 : (j : Int) < (ls.length : Int) := by omega
      obtain ⟨b, o, rfl, hc⟩ := hr (by omega)
      obtain ⟨A', c', e, -⟩ := hc j _ (List.getElem?_eq_getElem hlt)
      have hn := listP_take hlt
      have hno := fun q => listP_no hlt q
      rw [ha, Bool.true_and] at hn
      replace hn := hid hn
      replace hno := hid hno
      replace ha := hid ha
      have hR := hid (fun W => PRwRow_any A' ls[j].length c' W)
      clear hc
      generalize ls[j] = x at *
      by_cases h4 : x.length ≤ 4096
      · have q2 : decide (x.length ≤ 4096) = true := decide_eq_true h4
        rw [q2] at hR hn
        go_wp2_with fail
        refine (hR.out _).mono ?_
        rintro e1 w1 ⟨rfl, rfl⟩
        go_wp2
        go_round
        case rel => exact ⟨j + 1, by go_num, by omega, by rw [hn.out]⟩
        case measure => simp [intOf]; omega
      · have q2 : decide (x.length ≤ 4096) = false := decide_eq_false h4
        have h0 : ans = false := by rw [← hans.out]; exact hno.out h4
        rw [q2] at hR
        subst h0
        go_wp2_with fail
        refine (hR.out _).mono ?_
        rintro e1 w1 ⟨rfl, rfl⟩
        go_wp2
        go_ret
        exact ⟨rfl, rfl⟩
    · obtain rfl : j = ls.length := by omega
      rw [List.take_length] at ha
      have h0 : ans = true := by rw [← hans.out]; unfold listR; rw [decide_eq_true (by omega), ha]; rfl
      subst h0
      replace ha := hid ha
      go_wp2
      go_ret
      exact ⟨rfl, rfl⟩
theorem PRwHalves_any (A : Option Addr) (n c : Nat) (w : World) :
    Calls Tryd.prog 37 #[.slice A n c] w fun r w' => r = .returned (.func (.func 45) #[] #[.pointer (some ⟨w.heap.size, 0, none⟩)]) ∧ w' = w.alloc (.cells #[.slice A n c] 26) := by
  go_enter Tryd.func37, Tryd.ntmps37
  go_wp2
  go_ret
  exact ⟨rfl, rfl⟩
end Go.Proofs.YtgmlmkhiflnhdaaDoor
