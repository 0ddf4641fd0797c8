/-
  Contracts of the document's own answers for layer 1, and of the law file's 'spoil'.
-/
import Derived.Test.YtjpneokbcnkpkaaNum
import Derived.Deep.RegionWith
import Derived.IntWalk
namespace Go.Proofs.Ytjpneokbcnkpkaa
open Go.RowKit
set_option linter.unusedVariables false

theorem underU8 : Try.prog.underlying 5 = some (.int .u8) := Try.underlying5
theorem underStr : Try.prog.underlying 9 = some .string := Try.underlying9

theorem Same_yes (A1 A2 : Option Addr) (n1 n2 c1 c2 : Nat) (l1 l2 : List UInt8) (w : World) (h1 : Rd w A1 l1) (h2 : Rd w A2 l2) (hn1 : n1 = l1.length) (hn2 : n2 = l2.length) (he : l1 = l2) :
    Calls Try.prog 12 #[.slice A1 n1 c1, .slice A2 n2 c2] w fun e w' => e = .returned (.bool true) ∧ w = w' := by
  have k1 := run_conv_str u8s underU8 9 underStr h1 n1 c1 hn1
  have k2 := run_conv_str u8s underU8 9 underStr h2 n2 c2 hn2
  have ht := bstr_eql l1 l2 he
  clear hn1 hn2 he h1 h2
  go_enter Try.func12, Try.ntmps12
  go_wp2
  go_ret
  exact ⟨rfl, rfl⟩
theorem Same_no (A1 A2 : Option Addr) (n1 n2 c1 c2 : Nat) (l1 l2 : List UInt8) (w : World) (h1 : Rd w A1 l1) (h2 : Rd w A2 l2) (hn1 : n1 = l1.length) (hn2 : n2 = l2.length) (he : ¬ l1 = l2) :
    Calls Try.prog 12 #[.slice A1 n1 c1, .slice A2 n2 c2] w fun e w' => e = .returned (.bool false) ∧ w = w' := by
  have k1 := run_conv_str u8s underU8 9 underStr h1 n1 c1 hn1
  have k2 := run_conv_str u8s underU8 9 underStr h2 n2 c2 hn2
  have ht := bstr_neql l1 l2 he
  clear hn1 hn2 he h1 h2
  go_enter Try.func12, Try.ntmps12
  go_wp2
  go_ret
  exact ⟨rfl, rfl⟩

theorem Twin_any (A : Option Addr) (n c : Nat) (l : List UInt8) (w : World) (hr : Rd w A l) (hn : n = l.length) (hb47 : l.length ≤ 140737488351232) :
    Calls Try.prog 15 #[.slice A n c] w fun e w' => ∃ A' c', e = .returned (.slice A' l.length c') ∧ Own 5 w' w.heap.size A' c' l ∧ Below w.heap.size w w' := by
  subst hn
  go_enter Try.func15, Try.ntmps15
  go_wp2_with (at_builtin; refine wpList_app u8s rfl (.tmp 4) (.tmp 5) rfl w.heap.size none A 0 l.length 0 c [] l rfl rfl rfl rfl (Own.nil _ _) hr (by simp; omega) (Nat.le_refl _) ?_; intro A2 c2 w2 ho2 hb2)
  go_ret
  exact ⟨_, _, rfl, ho2, hb2⟩

set_option maxHeartbeats 400000 in
theorem Number_any (A : Option Addr) (n c : Nat) (l : List UInt8) (w : World) (hr : Rd w A l) (hn : n = l.length) (h8 : l.length ≤ 8) :
    Calls Try.prog 27 #[.slice A n c] w fun e w' => e = .returned (.int .u64 (num l : Int)) ∧ w = w' := by
  subst hn
  go_enter Try.func27, Try.ntmps27
  go_wp2
  go_loop [3, 4] (fun v i => ∃ j : Nat, j ≤ l.length ∧ i = .int .i64 j ∧ v = .int .u64 (num (l.take j) : Int)) (fun _ i => l.length - (intOf i).toNat)
  case atStart => exact ⟨0, Nat.zero_le _, rfl, rfl⟩
  case round =>
    obtain ⟨j, hj, rfl, rfl⟩ := hrel
    by_cases hlt : j < l.length
    · obtain ⟨b, o, rfl, hc⟩ := rd_cell hr (by omega)
      have hcell := hc j (by omega)
      clear hc hr
      have Hs := hid (num_take_succ l j (by omega))
      have Ho := hid (add_byte _ l[j] (num_take_lt l j l.length hlt h8))
      go_wp2
      go_round
      case rel => exact ⟨j + 1, by omega, by go_num, by rw [Ho.out, Hs.out]⟩
      case measure => simp [intOf]; omega
    · obtain rfl : j = l.length := by omega
      rw [List.take_length]
      go_wp2
      go_ret
      exact ⟨rfl, rfl⟩

set_option maxHeartbeats 400000 in
theorem Digits_any (n : Nat) (size : Nat) (w : World) (h1 : 1 ≤ size) (h8 : size ≤ 8) (hn : n < 18446744073709551616) :
    Calls Try.prog 26 #[.int .u64 (n : Int), .int .i64 (size : Int)] w fun e w' => ∃ A c, e = .returned (.tuple #[.slice A size c, .bool (decide (n < 256 ^ size))]) ∧ Own 5 w' w.heap.size A c (be size n) ∧ Below w.heap.size w w' := by
  obtain ⟨i0, hi0, hz0, hz1, hz2⟩ := info_parts infoU8
  go_enter Try.func26, Try.ntmps26
  go_wp2_with (at_make; refine wpList_make_full _ rfl _ _ 22 rfl w.heap.size 5 i0 (.int .u8 0) 1 Try.underlying22 hi0 hz0 hz1 _ _ _ _ size rfl rfl rfl rfl (by rw [hz2]; omega) (by unfold maxLen; omega) (Nat.le_refl _) ?_; intro w1 hown1 hgrow1)
  go_loopw [0, 7] (fun v i wr => ∃ k : Nat, k ≤ size ∧ i = .int .i64 ((size : Int) - k - 1) ∧ v = .int .u64 ((n / 256 ^ k : Nat) : Int) ∧ Below w.heap.size w wr ∧ wr.heap[w.heap.size]? = some (.cells ((dcells n size k).map bv).toArray 5 (0, 0))) (fun _ i _ => (intOf i + 1).toNat)
  case atStart =>
    refine ⟨0, Nat.zero_le _, by go_num, by simp, (Below.refl _ _).grown hgrow1 (Nat.le_refl _) (by simp), ?_⟩
    rw [dcells_zero]
    exact made_block hown1
  case round =>
    obtain ⟨k, hk, rfl, rfl, hb, hg⟩ := hrel
    by_cases hlt : k < size
    · have hc := block_bcell hg (size - k - 1) (by rw [dcells_len _ _ _ hk]; omega)
      have hf := block_frozen hg (size - k - 1)
      have hqn : n / 256 ^ k < 18446744073709551616 := Nat.lt_of_le_of_lt (Nat.div_le_self _ _) hn
      have e3 := hid (show n / 256 ^ (k + 1) = n / 256 ^ k / 256 by rw [Nat.pow_succ, Nat.div_div_eq_div_mul])
      have e4 := hid (dcells_step n size k hlt)
      have e5 := hid (show size - k - 1 = size - 1 - k by omega)
      generalize n / 256 ^ k = q at *
      go_wp2
      go_roundw
      case rel =>
        refine ⟨k + 1, by omega, by go_num, ?_, hb.setCell (Nat.le_refl _) _, ?_⟩
        · rw [e3.out]
          go_num
        · rw [← e4.out, e5.out, show Value.int .u8 ((q : Int) % 256) = bv (UInt8.ofNat (q % 256)) from by unfold bv; congr 1; simp]
          exact block_bset hg _ _
      case measure => simp [intOf]; omega
    · obtain rfl : k = size := by omega
      rw [dcells_all] at hg
      have ht : (((n / 256 ^ k : Nat) : Int) == 0) = decide (n < 256 ^ k) := by
        rw [Bool.eq_iff_iff, beq_iff_eq, decide_eq_true_iff]
        constructor
        · intro h
          have h2 : n / 256 ^ k = 0 := by omega
          rcases Nat.div_eq_zero_iff.1 h2 with h3 | h3
          · have := Nat.pow_pos (n := k) (show 0 < 256 by omega); omega
          · exact h3
        · intro h
          rw [Nat.div_eq_of_lt h]; rfl
      generalize n / 256 ^ k = q at *
      go_wp2
      go_ret2
      have ho := Own.of_block (B := w.heap.size) hg (Nat.le_refl _) (by rw [be_length]; unfold maxLen; omega)
      rw [be_length] at ho
      exact ⟨_, _, rfl, ho, hb⟩

theorem RPut_any (n : Nat) (s : Int) (w : World) (hn : n < 18446744073709551616) :
    Calls Try.prog 16 #[.int .u64 (n : Int), .int .i64 s] w fun e w' => ∃ A c, e = .returned (.tuple #[.slice A (putB n s).length c, .int .i64 (putE n s)]) ∧ Own 5 w' w.heap.size A c (putB n s) ∧ Below w.heap.size w w' := by
  by_cases hs : 1 ≤ s ∧ s ≤ 8
  · obtain ⟨k, rfl⟩ := Int.eq_ofNat_of_zero_le (show 0 ≤ s by omega)
    by_cases hk : n < 256 ^ k
    · have e1 : putE n k = 0 := by simp only [putE]; rw [if_pos hs, if_pos (by simpa using hk)]
      have e2 : putB n k = be k n := by simp [putB, e1]
      rw [e1, e2, be_length]
      obtain ⟨h1, h8⟩ := hs
      have ht := hid (decide_eq_true hk)
      clear e1 e2 hk
      go_enter Try.func16, Try.ntmps16
      go_wp2_with (first | (go_at_call 26; refine (Digits_any _ _ _ (by omega) (by omega) hn).mono ?_; rintro e w1 ⟨A, c, rfl, ho, hb⟩; rw [ht.out]))
      go_ret2
      exact ⟨_, _, rfl, ho, hb⟩
    · have e1 : putE n k = 4 := by simp only [putE]; rw [if_pos hs, if_neg (by simpa using hk)]
      have e2 : putB n k = [] := by simp [putB, e1]
      rw [e1, e2]
      obtain ⟨h1, h8⟩ := hs
      have ht := hid (decide_eq_false hk)
      clear e1 e2 hk
      go_enter Try.func16, Try.ntmps16
      go_wp2_with (first | (go_at_call 26; refine (Digits_any _ _ _ (by omega) (by omega) hn).mono ?_; rintro e w1 ⟨A, c, rfl, ho, hb⟩; rw [ht.out]))
      go_ret2
      exact ⟨_, _, rfl, Own.nil _ _, hb⟩
  · have e1 : putE n s = 2 := by simp only [putE]; rw [if_neg hs]
    have e2 : putB n s = [] := by simp [putB, e1]
    rw [e1, e2]
    have hs' : s < 1 ∨ 8 < s := by omega
    clear e1 e2 hs
    rcases hs' with hs | hs
    · go_enter Try.func16, Try.ntmps16
      go_wp2_with fail
      go_ret2
      exact ⟨_, _, rfl, Own.nil _ _, Below.refl _ _⟩
    · have h2 : 1 ≤ s := by omega
      go_enter Try.func16, Try.ntmps16
      go_wp2_with fail
      go_ret2
      exact ⟨_, _, rfl, Own.nil _ _, Below.refl _ _⟩

set_option maxHeartbeats 400000 in
theorem RPutPart_any (A : Option Addr) (m c : Nat) (l : List UInt8) (w : World) (hr : Rd w A l) (hm : m = l.length) (hb47 : l.length ≤ 140737488351232) :
    Calls Try.prog 17 #[.slice A m c] w fun e w' => ∃ A' c', e = .returned (.tuple #[.slice A' (ppB l).length c', .int .i64 (ppE l)]) ∧ Own 5 w' w.heap.size A' c' (ppB l) ∧ Below w.heap.size w w' := by
  subst hm
  by_cases h4 : 4096 < l.length
  · have e1 : ppE l = 4 := by simp only [ppE]; rw [if_pos h4]
    have e2 : ppB l = [] := by simp only [ppB]; rw [if_pos h4]
    rw [e1, e2]
    clear e1 e2
    go_enter Try.func17, Try.ntmps17
    go_wp2
    go_ret2
    exact ⟨_, _, rfl, Own.nil _ _, Below.refl _ _⟩
  · have e1 : ppE l = 0 := by simp only [ppE]; rw [if_neg h4]
    have e2 : ppB l = be 2 l.length ++ l := by simp only [ppB]; rw [if_neg h4]
    have e3 := hid (be_length 2 l.length)
    rw [e1, e2]
    clear e1 e2
    have h4' : l.length ≤ 4096 := by omega
    clear h4
    go_enter Try.func17, Try.ntmps17
    go_wp2_with (first
      | (go_at_call 26; refine (Digits_any _ 2 _ (by omega) (by omega) (by omega)).mono ?_; rintro e w1 ⟨A1, c1, rfl, ho, hb⟩)
      | (at_builtin; refine wpList_app u8s rfl (.tmp 16) (.tmp 17) rfl w.heap.size A1 A 2 l.length c1 c (be 2 l.length) l rfl rfl e3.out.symm rfl ho (hr.bel hb) (by rw [e3.out]; omega) hb.size ?_; intro A2 c2 w2 ho2 hb2))
    go_ret2
    exact ⟨_, _, by simp, ho2, hb.trans hb2⟩

theorem REnd_any (A : Option Addr) (m c : Nat) (l : List UInt8) (w : World) (hm : m = l.length) :
    Calls Try.prog 18 #[.slice A m c] w fun e w' => e = .returned (.int .i64 (endE l)) ∧ w = w' := by
  subst hm
  by_cases h0 : l.length = 0
  · have e1 : endE l = 0 := by simp only [endE]; rw [if_pos h0]
    have ht : ((l.length : Int) != 0) = false := by rw [bne_eq_false_iff_eq]; omega
    rw [e1]
    clear e1 h0
    go_enter Try.func18, Try.ntmps18
    go_wp2
    go_ret
    exact ⟨rfl, rfl⟩
  · have e1 : endE l = 11 := by simp only [endE]; rw [if_neg h0]
    have ht : ((l.length : Int) != 0) = true := by rw [bne_iff_ne]; omega
    rw [e1]
    clear e1
    go_enter Try.func18, Try.ntmps18
    go_wp2
    go_ret
    exact ⟨rfl, rfl⟩

/-- 'spoil' writes the call's own bytes over, and nothing else. -/
theorem spoil_any (A : Option Addr) (m c B : Nat) (l : List UInt8) (w : World) (ho : Own 5 w B A c l) (hm : m = l.length) :
    Calls Try.prog 19 #[.slice A m c] w fun e w' => e = .returned (.tuple #[]) ∧ w.grownBy w' (A.map (·.block)) := by
  subst hm
  rcases Nat.eq_zero_or_pos l.length with h0 | h0
  · rw [h0]
    go_enter Try.func19, Try.ntmps19
    go_wp2
    refine wp_loop_rounds 1 ?_
    rw [rounds_succ]
    go_wp2
    go_end0
    exact ⟨rfl, World.grownBy.refl _ _⟩
  · obtain ⟨g, cur, rfl, hB, hg, hcs, ht⟩ := ho.form h0
    have hcap := ho.cap
    unfold maxLen at hcap
    obtain ⟨hcap1, hcap2⟩ := hcap
    go_enter Try.func19, Try.ntmps19
    go_wp2
    go_loopw [2] (fun i wr => ∃ k : Nat, k ≤ l.length ∧ i = .int .i64 k ∧ w.grownBy wr (some g) ∧ ∃ cs : Array Value, wr.heap[g]? = some (.cells cs 5 (0, 0)) ∧ ∀ j, j < l.length → ∃ n : Int, cs[j]? = some (.int .u8 n)) (fun i _ => l.length - (intOf i).toNat)
    case atStart =>
      refine ⟨0, Nat.zero_le _, rfl, World.grownBy.refl _ _, cur, hg, fun j hj => ?_⟩
      have h2 : (l.map bv)[j]? = some (bv l[j]) := by simp [hj]
      rw [← ht, List.getElem?_take, if_pos hj] at h2
      exact ⟨l[j].toNat, by simpa [bv] using h2⟩
    case round =>
      obtain ⟨k, hk, rfl, hb, cs, hg2, hcs2⟩ := hrel
      by_cases hlt : k < l.length
      · obtain ⟨n, hn⟩ := hcs2 k hlt
        have hc := block_cell hg2 k
        rw [hn] at hc
        have hf := block_frozen hg2 k
        have Hg2 := hid hg2
        have Hcs2 := hid hcs2
        clear hn hg2 hcs2
        go_wp2
        go_roundw
        case rel =>
          refine ⟨k + 1, by omega, by go_num, ?_, _, block_set Hg2.out _ _, fun j hj => ?_⟩
          · refine ⟨hb.os, hb.tape, hb.output, by simpa [World.setCell] using hb.size, fun i hi hne => (Below.heap_setCell _ _ _ i (fun e => hne (by rw [e]))).trans (hb.block i hi hne)⟩
          · rw [Array.getElem?_setIfInBounds]
            by_cases he : k = j
            · subst he
              obtain ⟨n2, hn2⟩ := Hcs2.out k hlt
              have hsz : k < cs.size := (Array.getElem?_eq_some_iff.1 hn2).1
              exact ⟨_, by rw [if_pos rfl, if_pos hsz]⟩
            · rw [if_neg he]
              exact Hcs2.out j hj
        case measure => simp [intOf]; omega
      · obtain rfl : k = l.length := by omega
        go_wp2
        go_end0
        exact ⟨rfl, hb⟩

theorem Number_is (A : Option Addr) (n c : Nat) (l : List UInt8) (w : World) (hr : Rd w A l) (hn : n = l.length) (h8 : l.length ≤ 8) (v : Int) (hv : v = (num l : Int)) :
    Calls Try.prog 27 #[.slice A n c] w fun e w' => e = .returned (.int .u64 v) ∧ w = w' := by
  subst hv
  exact Number_any A n c l w hr hn h8

set_option maxHeartbeats 800000 in
theorem RTake_any (A : Option Addr) (m c : Nat) (l : List UInt8) (s : Int) (w : World) (hr : Rd w A l) (hm : m = l.length) (hc : l.length ≤ c) (hc2 : c ≤ 9223372036854775807) (hb47 : l.length ≤ 140737488351232) :
    Calls Try.prog 20 #[.slice A m c, .int .i64 s] w fun e w' => ∃ A' c', e = .returned (.tuple #[.int .u64 (takeN l s : Int), .slice A' (takeR l s).length c', .int .i64 (takeE l s)]) ∧ Own 5 w' w.heap.size A' c' (takeR l s) ∧ Below w.heap.size w w' := by
  subst hm
  by_cases hs : 1 ≤ s ∧ s ≤ 8
  · obtain ⟨k, rfl⟩ := Int.eq_ofNat_of_zero_le (show 0 ≤ s by omega)
    by_cases hk : l.length < k
    · have e1 : takeE l k = 10 := by simp only [takeE]; rw [if_pos hs, if_pos (by omega)]
      have e2 : takeR l k = [] := by simp [takeR, e1]
      have e3 : takeN l k = 0 := by simp [takeN, e1]
      rw [e1, e2, e3]
      obtain ⟨h1, h8⟩ := hs
      clear e1 e2 e3
      go_enter Try.func20, Try.ntmps20
      go_wp2_with fail
      go_ret3
      exact ⟨_, _, rfl, Own.nil _ _, Below.refl _ _⟩
    · have e1 : takeE l k = 0 := by simp only [takeE]; rw [if_pos hs, if_neg (by omega)]
      have e2 : takeR l k = l.drop k := by simp [takeR, e1]
      have e3 : takeN l k = num (l.take k) := by simp [takeN, e1]
      have r1 := hr.take k
      have r2 := hr.cut k l.length c (by omega) (by omega) (by omega)
      rw [List.take_of_length_le (by simp)] at r2
      have L1 : (l.take k).length = k := by simp; omega
      have L2 : (l.drop k).length = l.length - k := by simp
      rw [e1, e2, e3]
      obtain ⟨h1, h8⟩ := hs
      clear e1 e2 e3
      generalize l.take k = x at *
      generalize l.drop k = y at *
      replace L1 := hid L1
      replace L2 := hid L2
      have hk2 : k ≤ l.length := by omega
      have hk3 : k ≤ c := by omega
      clear hk
      by_cases hck : c = k
      · rw [if_pos hck] at r2
        subst hck
        go_enter Try.func20, Try.ntmps20
        go_wp2_with fail
        go_region_with (first
          | (go_at_call 27; refine (Number_any _ _ _ x _ ?_ ?_ ?_).mono ?_; (first | exact r1 | exact r1.bel hb); exact L1.out.symm; (rw [L1.out]; omega); rintro e w' ⟨rfl, rfl⟩)
          | (go_at_call 15; refine (Twin_any _ _ _ y _ ?_ ?_ ?_).mono ?_; exact r2; (rw [L2.out]; try omega); (rw [L2.out]; omega); rintro e w1 ⟨A1, c1, rfl, ho, hb⟩; replace hb := undrew hb))
        all_goals
          go_wp2
          go_ret3
          exact ⟨_, _, rfl, ho, hb⟩
      · rw [if_neg hck] at r2
        go_enter Try.func20, Try.ntmps20
        go_wp2_with fail
        go_region_with (first
          | (go_at_call 27; refine (Number_any _ _ _ x _ ?_ ?_ ?_).mono ?_; (first | exact r1 | exact r1.bel hb); exact L1.out.symm; (rw [L1.out]; omega); rintro e w' ⟨rfl, rfl⟩)
          | (go_at_call 15; refine (Twin_any _ _ _ y _ ?_ ?_ ?_).mono ?_; exact r2; (rw [L2.out]; try omega); (rw [L2.out]; omega); rintro e w1 ⟨A1, c1, rfl, ho, hb⟩; replace hb := undrew hb))
        all_goals
          go_wp2
          go_ret3
          exact ⟨_, _, rfl, ho, hb⟩
  · have e1 : takeE l s = 2 := by simp only [takeE]; rw [if_neg hs]
    have e2 : takeR l s = [] := by simp [takeR, e1]
    have e3 : takeN l s = 0 := by simp [takeN, e1]
    rw [e1, e2, e3]
    have hs' : s < 1 ∨ 8 < s := by omega
    clear e1 e2 e3 hs
    rcases hs' with hs | hs
    · go_enter Try.func20, Try.ntmps20
      go_wp2_with fail
      go_ret3
      exact ⟨_, _, rfl, Own.nil _ _, Below.refl _ _⟩
    · have h2 : 1 ≤ s := by omega
      go_enter Try.func20, Try.ntmps20
      go_wp2_with fail
      go_ret3
      exact ⟨_, _, rfl, Own.nil _ _, Below.refl _ _⟩

set_option maxHeartbeats 1600000 in
theorem RTakePart_any (A : Option Addr) (m c : Nat) (l : List UInt8) (w : World) (hr : Rd w A l) (hm : m = l.length) (hc : l.length ≤ c) (hc2 : c ≤ 9223372036854775807) (hb47 : l.length ≤ 140737488351232) :
    Calls Try.prog 21 #[.slice A m c] w fun e w' => ∃ A1 c1 A2 c2, e = .returned (.tuple #[.slice A1 (tpP l).length c1, .slice A2 (tpR l).length c2, .int .i64 (tpE l)]) ∧ Own 5 w' w.heap.size A1 c1 (tpP l) ∧ Own 5 w' w.heap.size A2 c2 (tpR l) ∧ Below w.heap.size w w' := by
  subst hm
  by_cases h2 : l.length < 2
  · have e1 : tpE l = 10 := by simp only [tpE]; rw [if_pos h2]
    have e2 : tpP l = [] := by simp [tpP, e1]
    have e3 : tpR l = [] := by simp [tpR, e1]
    rw [e1, e2, e3]
    clear e1 e2 e3
    go_enter Try.func21, Try.ntmps21
    go_wp2_with fail
    go_ret3
    exact ⟨_, _, _, _, rfl, Own.nil _ _, Own.nil _ _, Below.refl _ _⟩
  obtain ⟨k, hk⟩ : ∃ k, k = num (l.take 2) := ⟨_, rfl⟩
  have r0 := hr.take 2
  have L0 : (l.take 2).length = 2 := by simp; omega
  have hk2 : k < 65536 := by
    have h := num_lt (l.take 2)
    rw [← hk, L0] at h
    omega
  have N0 : ∀ w, Rd w A (l.take 2) → Calls Try.prog 27 #[.slice A 2 c] w fun e w' => e = .returned (.int .u64 (k : Int)) ∧ w = w' := by
    intro w h
    rw [hk]
    exact Number_any A 2 c (l.take 2) w h L0.symm (by omega)
  replace N0 := hid N0
  clear L0
  by_cases h4 : 4096 < k
  · have e1 : tpE l = 4 := by simp only [tpE]; rw [if_neg h2, ← hk, if_pos h4]
    have e2 : tpP l = [] := by simp [tpP, e1]
    have e3 : tpR l = [] := by simp [tpR, e1]
    rw [e1, e2, e3]
    clear e1 e2 e3 hk
    generalize l.take 2 = x0 at *
    go_enter Try.func21, Try.ntmps21
    go_wp2_with (go_at_call 27; refine (N0.out _ r0).mono ?_; rintro e w' ⟨rfl, rfl⟩)
    go_ret3
    exact ⟨_, _, _, _, rfl, Own.nil _ _, Own.nil _ _, Below.refl _ _⟩
  by_cases h5 : l.length < 2 + k
  · have e1 : tpE l = 10 := by simp only [tpE]; rw [if_neg h2, ← hk, if_neg h4, if_pos h5]
    have e2 : tpP l = [] := by simp [tpP, e1]
    have e3 : tpR l = [] := by simp [tpR, e1]
    rw [e1, e2, e3]
    clear e1 e2 e3 hk
    generalize l.take 2 = x0 at *
    go_enter Try.func21, Try.ntmps21
    go_wp2_with (go_at_call 27; refine (N0.out _ r0).mono ?_; rintro e w' ⟨rfl, rfl⟩)
    go_ret3
    exact ⟨_, _, _, _, rfl, Own.nil _ _, Own.nil _ _, Below.refl _ _⟩
  · have e1 : tpE l = 0 := by simp only [tpE]; rw [if_neg h2, ← hk, if_neg h4, if_neg h5]
    have e2 : tpP l = (l.drop 2).take (2 + k - 2) := by simp [tpP, e1, hk]
    have e3 : tpR l = (l.drop (2 + k)).take (l.length - (2 + k)) := by rw [List.take_of_length_le (by simp)]; simp [tpR, e1, hk]
    have r1 := hr.cut 2 (2 + k) c (by omega) (by omega) (by omega)
    have r2 := hr.cut (2 + k) l.length c (by omega) (by omega) (by omega)
    have L1 : (tpP l).length = k := by rw [e2]; simp; omega
    have L2 : (tpR l).length = l.length - (2 + k) := by rw [e3]; simp; try omega
    rw [← e2] at r1
    rw [← e3] at r2
    rw [e1]
    replace L1 := hid L1
    replace L2 := hid L2
    clear e1 e2 e3 hk
    generalize tpP l = x at *
    generalize tpR l = y at *
    generalize l.take 2 = x0 at *
    have w1 : IntKind.i64.wrap (2 + (k : Int)) = 2 + (k : Int) := IntWalk.i64_in _ (by omega)
    have w2 : (0 : Int) ≤ 2 + (k : Int) := by omega
    have w3 : (2 + (k : Int)).toNat = 2 + k := by omega
    have w4 : 2 + (k : Int) ≤ (c : Int) := by omega
    have w5 : 2 + (k : Int) ≤ (l.length : Int) := by omega
    have w6 : (2 : Int) ≤ 2 + (k : Int) := by omega
    have h2' : (2 : Int) ≤ (l.length : Int) := by omega
    by_cases hc2 : c = 2
    · obtain rfl : k = 0 := by omega
      have hx := List.eq_nil_of_length_eq_zero L1.out
      have hy := List.eq_nil_of_length_eq_zero (show y.length = 0 by rw [L2.out]; omega)
      rw [if_pos hc2] at r1
      rw [if_pos hc2] at r2
      have hl : l.length = 2 := by omega
      rw [hl]
      clear L1 L2 w1 w2 w3 w4 w5 w6 h2' hl h2 h5 hc
      subst hc2 hx hy
      have L1 : Hid (([] : List UInt8).length = 0) := rfl
      have L2 : Hid (([] : List UInt8).length = 0) := rfl
      go_enter Try.func21, Try.ntmps21
      go_wp2_with (go_at_call 27; refine (N0.out _ r0).mono ?_; rintro e w' ⟨rfl, rfl⟩)
      go_region_with (first
        | (go_at_call 15; refine (Twin_any _ _ _ [] _ ?_ ?_ ?_).mono ?_; (first | exact r1 | exact r1.bel hb2); exact L1.out.symm; (rw [L1.out]; omega); rintro e w1 ⟨A1, c1, rfl, ho1, hb1⟩; try replace hb1 := undrew hb1)
        | (go_at_call 15; refine (Twin_any _ _ _ [] _ ?_ ?_ ?_).mono ?_; (first | exact r2 | exact r2.bel hb1); (first | exact L2.out.symm | (rw [L2.out]; omega)); (rw [L2.out]; omega); rintro e w2 ⟨A2, c2, rfl, ho2, hb2⟩; try replace hb2 := undrew hb2))
      all_goals
        go_wp2
        go_ret3
        first
          | exact ⟨_, _, _, _, rfl, ho1.bel hb2, ho2.base hb1.size, hb1.trans (hb2.mono hb1.size)⟩
          | exact ⟨_, _, _, _, rfl, ho1.base hb2.size, ho2.bel hb1, hb2.trans (hb1.mono hb2.size)⟩
    by_cases hck : c = 2 + k
    · rw [if_neg hc2] at r1
      rw [if_pos hck] at r2
      subst hck
      go_enter Try.func21, Try.ntmps21
      go_wp2_with (go_at_call 27; refine (N0.out _ r0).mono ?_; rintro e w' ⟨rfl, rfl⟩)
      go_region_with (first
        | (go_at_call 15; refine (Twin_any _ _ _ x _ ?_ ?_ ?_).mono ?_; (first | exact r1 | exact r1.bel hb2); exact L1.out.symm; (rw [L1.out]; omega); rintro e w1 ⟨A1, c1, rfl, ho1, hb1⟩; try replace hb1 := undrew hb1)
        | (go_at_call 15; refine (Twin_any _ _ _ y _ ?_ ?_ ?_).mono ?_; (first | exact r2 | exact r2.bel hb1); (first | exact L2.out.symm | (rw [L2.out]; omega)); (rw [L2.out]; omega); rintro e w2 ⟨A2, c2, rfl, ho2, hb2⟩; try replace hb2 := undrew hb2))
      all_goals
        go_wp2
        go_ret3
        first
          | exact ⟨_, _, _, _, rfl, ho1.bel hb2, ho2.base hb1.size, hb1.trans (hb2.mono hb1.size)⟩
          | exact ⟨_, _, _, _, rfl, ho1.base hb2.size, ho2.bel hb1, hb2.trans (hb1.mono hb2.size)⟩
    · rw [if_neg hc2] at r1
      rw [if_neg hck] at r2
      go_enter Try.func21, Try.ntmps21
      go_wp2_with (go_at_call 27; refine (N0.out _ r0).mono ?_; rintro e w' ⟨rfl, rfl⟩)
      go_region_with (first
        | (go_at_call 15; refine (Twin_any _ _ _ x _ ?_ ?_ ?_).mono ?_; (first | exact r1 | exact r1.bel hb2); exact L1.out.symm; (rw [L1.out]; omega); rintro e w1 ⟨A1, c1, rfl, ho1, hb1⟩; try replace hb1 := undrew hb1)
        | (go_at_call 15; refine (Twin_any _ _ _ y _ ?_ ?_ ?_).mono ?_; (first | exact r2 | exact r2.bel hb1); (first | exact L2.out.symm | (rw [L2.out]; omega)); (rw [L2.out]; omega); rintro e w2 ⟨A2, c2, rfl, ho2, hb2⟩; try replace hb2 := undrew hb2))
      all_goals
        go_wp2
        go_ret3
        first
          | exact ⟨_, _, _, _, rfl, ho1.bel hb2, ho2.base hb1.size, hb1.trans (hb2.mono hb1.size)⟩
          | exact ⟨_, _, _, _, rfl, ho1.base hb2.size, ho2.bel hb1, hb2.trans (hb1.mono hb2.size)⟩

end Go.Proofs.Ytjpneokbcnkpkaa
