/-
  Contracts of package num: what each function gives for bytes in memory.
-/
import Derived.Test.YtjpneokbcnkpkaaRows
import Derived.Test.YtjpneokbcnkpkaaBy
import Derived.WalkLawsBesides
import Derived.WalkSpells
import Derived.Outline
import Derived.Laws.CopyOwn
import Derived.BigQuiet
import Derived.Deep.QuietTactic
import Derived.Deep.RegionWith
namespace Go.Proofs.Ytjpneokbcnkpkaa
open Go.RowKit
set_option linter.unusedVariables false

theorem infoU8 : (Try.prog.info? 5).map (fun i => (i.zero, i.size, i.bytes)) = some (some (.int .u8 0), 1, 1) := by kernel_rfl

theorem u8s : U8s Try.prog 22 5 := ⟨Try.underlying22, infoU8⟩

def dcells (n size i : Nat) : List UInt8 := List.replicate (size - i) 0 ++ be i n
theorem dcells_len (n size i : Nat) (h : i ≤ size) : (dcells n size i).length = size := by simp [dcells, be_length]; omega
theorem dcells_zero (n size : Nat) : dcells n size 0 = List.replicate size 0 := by simp [dcells, be]
theorem dcells_all (n size : Nat) : dcells n size size = be size n := by simp [dcells]
theorem dcells_step (n size i : Nat) (h : i < size) : (dcells n size i).set (size - 1 - i) (UInt8.ofNat (n / 256 ^ i % 256)) = dcells n size (i + 1) := by
  unfold dcells
  rw [be_cons]
  rw [List.set_append_left _ _ (by simp; omega)]
  obtain ⟨k, rfl⟩ : ∃ k, size = i + 1 + k := ⟨size - (i + 1), by omega⟩
  rw [show i + 1 + k - i = k + 1 by omega, show i + 1 + k - 1 - i = k by omega, show i + 1 + k - (i + 1) = k by omega]
  rw [List.replicate_succ', List.set_append_right _ _ (by simp)]
  simp
theorem made_bv (n : Nat) : madeCells (Value.int .u8 0).cells n = ((List.replicate n (0 : UInt8)).map bv).toArray := by
  apply Array.ext
  · simp [size_madeCells]
  · intro i h1 h2
    simp [madeCells, Value.cells, Nat.mod_one, bv]
theorem shr_byte (n k : Nat) : Value.int .u8 ((n : Int) / 2 ^ (8 * k) % 256) = bv (UInt8.ofNat (n / 256 ^ k % 256)) := by
  have e : (2 : Int) ^ (8 * k) = ((256 ^ k : Nat) : Int) := by
    rw [Int.pow_mul]; simp
  have e2 : ((n : Int) / 2 ^ (8 * k) % 256) = ((n / 256 ^ k % 256 : Nat) : Int) := by rw [e]; simp
  rw [e2]
  unfold bv
  congr 1
  simp

theorem made_block {w : World} {B g n : Nat} {E : TypeId} (h : w.ownsRow B E 1 (.slice (some ⟨g, 0, none⟩) n n) n (madeCells (Value.int .u8 0).cells (n * 1)).toList) : w.heap[g]? = some (.cells ((List.replicate n (0 : UInt8)).map bv).toArray E (0, 0)) := by
  rcases h.2 with ⟨hv, _⟩ | ⟨g', cap, cur, hv, hb, hg, hnc, hcm, hsz, ht⟩
  · cases hv
  · injection hv with hA _ hc
    injection hA with hA
    injection hA with hA
    subst hA hc
    rw [hg, ← made_bv]
    congr 2
    apply Array.ext'
    rw [List.take_of_length_le (by simp [hsz])] at ht
    simpa using ht

set_option maxHeartbeats 400000 in
theorem digits_any (n : Nat) (size : Nat) (w : World) (h1 : 1 ≤ size) (h8 : size ≤ 8) (hn : n < 18446744073709551616) :
    Calls Try.prog 23 #[.int .u64 (n : Int), .int .i64 (size : Int)] w fun e w' => ∃ A c, e = .returned (.slice A size c) ∧ Own 5 w' w.heap.size A c (be size n) ∧ Below w.heap.size w w' := by
  obtain ⟨i0, hi0, hz0, hz1, hz2⟩ := info_parts infoU8
  go_enter Try.func23, Try.ntmps23
  go_wp2_with (at_make; refine wpList_make_full _ rfl _ _ 22 rfl w.heap.size 5 i0 (.int .u8 0) 1 Try.underlying22 hi0 hz0 hz1 _ _ _ _ size rfl rfl rfl rfl (by rw [hz2]; omega) (by unfold maxLen; omega) (Nat.le_refl _) ?_; intro w1 hown1 hgrow1)
  go_loopw [10] (fun i wr => ∃ k : Nat, k ≤ size ∧ i = .int .i64 k ∧ Below w.heap.size w wr ∧ wr.heap[w.heap.size]? = some (.cells ((dcells n size k).map bv).toArray 5 (0, 0))) (fun i _ => size - (intOf i).toNat)
  case atStart =>
    refine ⟨0, Nat.zero_le _, rfl, (Below.refl _ _).grown hgrow1 (Nat.le_refl _) (by simp), ?_⟩
    rw [dcells_zero]
    exact made_block hown1
  case round =>
    obtain ⟨k, hk, rfl, hb, hg⟩ := hrel
    by_cases hlt : k < size
    · have hc := block_bcell hg (size - 1 - k) (by rw [dcells_len _ _ _ hk]; omega)
      have hf := block_frozen hg (size - 1 - k)
      go_wp2
      go_roundw
      case rel =>
        refine ⟨k + 1, by omega, by go_num, hb.setCell (Nat.le_refl _) _, ?_⟩
        rw [shr_byte, ← dcells_step _ _ _ hlt]
        exact block_bset hg _ _
      case measure => simp [intOf]; omega
    · obtain rfl : k = size := by omega
      rw [dcells_all] at hg
      go_wp2
      go_ret
      have ho := Own.of_block (B := w.heap.size) hg (Nat.le_refl _) (by rw [be_length]; unfold maxLen; omega)
      rw [be_length] at ho
      exact ⟨_, _, rfl, ho, hb⟩

theorem splice_all {α : Type} (L cs : List α) (h : cs.length = L.length) : splice L 0 cs = cs := by
  simp [splice, h]

set_option maxHeartbeats 400000 in
theorem cut_any (A : Option Addr) (c f t : Nat) (l : List UInt8) (w : World) (hr : Rd w A l) (hft : f ≤ t) (ht : t ≤ l.length) (hc : l.length ≤ c) (hm : c ≤ 9223372036854775807) (hb47 : l.length ≤ 140737488351232) :
    Calls Try.prog 25 #[.slice A l.length c, .int .i64 (f : Int), .int .i64 (t : Int)] w fun e w' => ∃ A' c', e = .returned (.slice A' ((l.drop f).take (t - f)).length c') ∧ Own 5 w' w.heap.size A' c' ((l.drop f).take (t - f)) ∧ Below w.heap.size w w' := by
  obtain ⟨i0, hi0, hz0, hz1, hz2⟩ := info_parts infoU8
  have hsz : (Try.prog.info? 5).map (·.size) = some 1 := by rw [hi0]; simp [hz1]
  obtain ⟨x, hx⟩ : ∃ x, x = (l.drop f).take (t - f) := ⟨_, rfl⟩
  have hlen : x.length = t - f := by rw [hx]; simp; omega
  have hcut := hr.cut f t t hft ht (Nat.le_refl _)
  rw [← hx] at hcut ⊢
  have Hx := hid hx
  clear hx
  by_cases hne : t = f
  · subst hne
    obtain rfl : x = [] := List.eq_nil_of_length_eq_zero (by omega)
    have hz : (t - t) = 0 := by omega
    go_enter Try.func25, Try.ntmps25
    go_wp2_with (first
      | (at_make; refine wpList_make_full _ rfl _ _ 22 rfl w.heap.size 5 i0 (.int .u8 0) 1 Try.underlying22 hi0 hz0 hz1 _ _ _ _ 0 rfl rfl (by go_num) (by go_num) (by rw [hz2]; omega) (by unfold maxLen; omega) (Nat.le_refl _) ?_; intro w1 hown1 hgrow1; have hg1 := made_block hown1; have hb1 := (Below.refl w.heap.size w).grown hgrow1 (Nat.le_refl _) (by simp))
      | (with_reducible refine wpList_copy_nothing rfl (.tmp 17) (.tmp 18) 22 22 rfl 5 Try.underlying22 hsz _ _ _ _ _ _ rfl rfl (by simp) ?_))
    go_ret
    exact ⟨_, _, rfl, Own.of_block (l := []) (by simpa using hg1) (Nat.le_refl _) (by simp), hb1⟩
  · rw [if_neg hne] at hcut
    have hpos : 0 < x.length := by omega
    go_enter Try.func25, Try.ntmps25
    go_wp2_with (first
      | (at_make; refine wpList_make_full _ rfl _ _ 22 rfl w.heap.size 5 i0 (.int .u8 0) 1 Try.underlying22 hi0 hz0 hz1 _ _ _ _ (t - f) rfl rfl (by go_num) (by go_num) (by rw [hz2]; omega) (by unfold maxLen; omega) (Nat.le_refl _) ?_; intro w1 hown1 hgrow1; have hg1 := hid (made_block hown1); have hb1 := (Below.refl w.heap.size w).grown hgrow1 (Nat.le_refl _) (by simp); have hs1 := hid (hcut.bel hb1).src; clear hown1 hgrow1)
      | (with_reducible refine wpList_copy_splice rfl (.tmp 17) (.tmp 18) 22 22 rfl 5 Try.underlying22 hsz _ _ _ _ _ _ rfl rfl w.heap.size 0 _ 5 hg1.out (x.map bv) (by simp [hlen]) (fun h => ⟨rfl, hs1.out h⟩) (by simp [hlen]) (bvs_one _) w.heap.size w hb1 (Nat.le_refl _) ?_; intro w2 hg2 hb2))
    go_ret
    have hg3 := hg2.out
    rw [splice_all _ _ (by simp [hlen])] at hg3
    have ho := Own.of_block hg3 (Nat.le_refl _) (by unfold maxLen; omega)
    rw [hlen] at ho ⊢
    exact ⟨_, _, rfl, ho, hb2⟩

theorem cut_is (A : Option Addr) (m c f t : Nat) (fi ti : Int) (l x : List UInt8) (w : World) (hr : Rd w A l) (hf : fi = f) (hti : ti = t) (hm : m = l.length) (hx : x = (l.drop f).take (t - f)) (hft : f ≤ t) (ht : t ≤ l.length) (hc : l.length ≤ c) (hc2 : c ≤ 9223372036854775807) (hb47 : l.length ≤ 140737488351232) :
    Calls Try.prog 25 #[.slice A m c, .int .i64 fi, .int .i64 ti] w fun e w' => ∃ A' c', e = .returned (.slice A' x.length c') ∧ Own 5 w' w.heap.size A' c' x ∧ Below w.heap.size w w' := by
  subst hf hti hm hx
  exact cut_any A c f t l w hr hft ht hc hc2 hb47

theorem rd_cell {w : World} {A : Option Addr} {l : List UInt8} (h : Rd w A l) (hn : 0 < l.length) : ∃ b o, A = some ⟨b, o, none⟩ ∧ ∀ j (hj : j < l.length), w.cell? ⟨b, o + j, none⟩ = some (.int .u8 (l[j].toNat : Int)) := by
  obtain ⟨b, o, rfl, hc⟩ := h hn
  exact ⟨b, o, rfl, fun j hj => hc j _ (List.getElem?_eq_getElem hj)⟩

set_option maxHeartbeats 400000 in
theorem number_any (A : Option Addr) (n c k : Nat) (l : List UInt8) (w : World) (hr : Rd w A l) (hn : n = l.length) (h8 : k ≤ 8) (hk : k ≤ l.length) (hb : l.length ≤ 9223372036854775807) :
    Calls Try.prog 24 #[.slice A n c, .int .i64 (k : Int)] w fun e w' => e = .returned (.int .u64 (num (l.take k) : Int)) ∧ w = w' := by
  subst hn
  go_enter Try.func24, Try.ntmps24
  go_wp2
  go_loop [5, 8] (fun v i => ∃ j : Nat, j ≤ k ∧ i = .int .i64 j ∧ v = .int .u64 (num (l.take j) : Int)) (fun _ i => k - (intOf i).toNat)
  case atStart => exact ⟨0, Nat.zero_le _, rfl, rfl⟩
  case round =>
    obtain ⟨j, hj, rfl, rfl⟩ := hrel
    by_cases hlt : j < k
    · obtain ⟨b, o, rfl, hc⟩ := rd_cell hr (by omega)
      have hcell := hc j (by omega)
      clear hc hr
      have Hs := hid (num_take_succ l j (by omega))
      have Ho := hid (or_byte _ l[j] (num_take_lt l j k hlt h8))
      go_wp2
      go_round
      case rel => exact ⟨j + 1, by omega, by go_num, by rw [Ho.out, Hs.out]⟩
      case measure => simp [intOf]; omega
    · obtain rfl : j = k := by omega
      go_wp2
      go_ret
      exact ⟨rfl, rfl⟩

theorem isSize_yes (k : Int) (w : World) (h1 : 1 ≤ k) (h8 : k ≤ 8) :
    Calls Try.prog 22 #[.int .i64 k] w fun e w' => e = .returned (.bool true) ∧ w = w' := by
  go_enter Try.func22, Try.ntmps22
  go_wp2
  go_ret
  exact ⟨rfl, rfl⟩
theorem isSize_no (k : Int) (w : World) (h : k < 1 ∨ 8 < k) :
    Calls Try.prog 22 #[.int .i64 k] w fun e w' => e = .returned (.bool false) ∧ w = w' := by
  rcases h with h | h
  · go_enter Try.func22, Try.ntmps22
    go_wp2
    go_ret
    exact ⟨rfl, rfl⟩
  · have h1 : 1 ≤ k := by omega
    have hd : decide (k ≤ 8) = false := by rw [decide_eq_false_iff_not]; omega
    go_enter Try.func22, Try.ntmps22
    go_wp2
    go_ret
    exact ⟨rfl, rfl⟩

theorem shr_zero (n k : Nat) (h8 : k ≤ 8) (h : n < 256 ^ k) : ((n : Int) / 2 ^ (8 * k) != 0) = false := by
  have e : (2 : Int) ^ (8 * k) = ((256 ^ k : Nat) : Int) := by rw [Int.pow_mul]; simp
  rw [e, bne_eq_false_iff_eq]
  have h2 : n / 256 ^ k = 0 := Nat.div_eq_of_lt h
  rw [← Int.natCast_ediv, h2]
  rfl
theorem shr_pos (n k : Nat) (h : ¬ n < 256 ^ k) : ((n : Int) / 2 ^ (8 * k) != 0) = true := by
  have e : (2 : Int) ^ (8 * k) = ((256 ^ k : Nat) : Int) := by rw [Int.pow_mul]; simp
  rw [e]
  have h2 : 0 < n / 256 ^ k := Nat.div_pos (by omega) (Nat.pow_pos (by omega))
  rw [bne_iff_ne, ← Int.natCast_ediv]
  omega

theorem Put_any (n : Nat) (s : Int) (w : World) (hn : n < 18446744073709551616) :
    Calls Try.prog 8 #[.int .u64 (n : Int), .int .i64 s] w fun e w' => ∃ A c, e = .returned (.tuple #[.slice A (putB n s).length c, .int .i64 (putE n s)]) ∧ Own 5 w' w.heap.size A c (putB n s) ∧ Below w.heap.size w w' := by
  by_cases hs : 1 ≤ s ∧ s ≤ 8
  · obtain ⟨k, rfl⟩ := Int.eq_ofNat_of_zero_le (show 0 ≤ s by omega)
    by_cases hk : n < 256 ^ k
    · have e1 : putE n k = 0 := by simp only [putE]; rw [if_pos hs, if_pos (by simpa using hk)]
      have e2 : putB n k = be k n := by simp [putB, e1]
      rw [e1, e2, be_length]
      obtain ⟨h1, h8⟩ := hs
      have ht := shr_zero n k (by omega) hk
      clear e1 e2 hk
      go_enter Try.func8, Try.ntmps8
      go_wp2_with (first | (go_at_call 22; refine (isSize_yes _ _ (by omega) (by omega)).mono ?_; rintro e w' ⟨rfl, rfl⟩) | (go_at_call 23; refine (digits_any _ _ _ (by omega) (by omega) hn).mono ?_; rintro e w1 ⟨A, c, rfl, ho, hb⟩))
      go_ret2
      exact ⟨_, _, rfl, ho, hb⟩
    · have e1 : putE n k = 4 := by simp only [putE]; rw [if_pos hs, if_neg (by simpa using hk)]
      have e2 : putB n k = [] := by simp [putB, e1]
      rw [e1, e2]
      obtain ⟨h1, h8⟩ := hs
      have ht := shr_pos n k hk
      clear e1 e2 hk
      go_enter Try.func8, Try.ntmps8
      go_wp2_with (first | (go_at_call 22; refine (isSize_yes _ _ (by omega) (by omega)).mono ?_; rintro e w' ⟨rfl, rfl⟩))
      go_ret2
      exact ⟨_, _, rfl, Own.nil _ _, Below.refl _ _⟩
  · have e1 : putE n s = 2 := by simp only [putE]; rw [if_neg hs]
    have e2 : putB n s = [] := by simp [putB, e1]
    rw [e1, e2]
    have hs' : s < 1 ∨ 8 < s := by omega
    clear e1 e2 hs
    go_enter Try.func8, Try.ntmps8
    go_wp2_with (first | (go_at_call 22; refine (isSize_no _ _ hs').mono ?_; rintro e w' ⟨rfl, rfl⟩))
    go_ret2
    exact ⟨_, _, rfl, Own.nil _ _, Below.refl _ _⟩

set_option maxHeartbeats 400000 in
theorem Take_any (A : Option Addr) (m c : Nat) (l : List UInt8) (s : Int) (w : World) (hr : Rd w A l) (hm : m = l.length) (hc : l.length ≤ c) (hc2 : c ≤ 9223372036854775807) (hb47 : l.length ≤ 140737488351232) :
    Calls Try.prog 9 #[.slice A m c, .int .i64 s] w fun e w' => ∃ A' c', e = .returned (.tuple #[.int .u64 (takeN l s : Int), .slice A' (takeR l s).length c', .int .i64 (takeE l s)]) ∧ Own 5 w' w.heap.size A' c' (takeR l s) ∧ Below w.heap.size w w' := by
  subst hm
  by_cases hs : 1 ≤ s ∧ s ≤ 8
  · obtain ⟨k, rfl⟩ := Int.eq_ofNat_of_zero_le (show 0 ≤ s by omega)
    by_cases hk : l.length < k
    · have e1 : takeE l k = 10 := by simp only [takeE]; rw [if_pos hs, if_pos (by omega)]
      have e2 : takeR l k = [] := by simp [takeR, e1]
      have e3 : takeN l k = 0 := by simp [takeN, e1]
      rw [e1, e2, e3]
      obtain ⟨h1, h8⟩ := hs
      clear e1 e2 e3
      go_enter Try.func9, Try.ntmps9
      go_wp2_with (first | (go_at_call 22; refine (isSize_yes _ _ (by omega) (by omega)).mono ?_; rintro e w' ⟨rfl, rfl⟩))
      go_ret3
      exact ⟨_, _, rfl, Own.nil _ _, Below.refl _ _⟩
    · have e1 : takeE l k = 0 := by simp only [takeE]; rw [if_pos hs, if_neg (by omega)]
      have e2 : takeR l k = l.drop k := by simp [takeR, e1]
      have e3 : takeN l k = num (l.take k) := by simp [takeN, e1]
      have e4 : (l.drop k).take (l.length - k) = l.drop k := List.take_of_length_le (by simp)
      rw [e1, e3]
      obtain ⟨h1, h8⟩ := hs
      have E4 : Hid (takeR l k = (l.drop k).take (l.length - k)) := by rw [e4]; exact e2
      clear e1 e2 e3 e4
      generalize takeR l k = x at *
      go_enter Try.func9, Try.ntmps9
      go_wp2_with (first | (go_at_call 22; refine (isSize_yes _ _ (by omega) (by omega)).mono ?_; rintro e w' ⟨rfl, rfl⟩) | (go_at_call 24; refine (number_any A _ c k l _ hr rfl (by omega) (by omega) (by omega)).mono ?_; rintro e w' ⟨rfl, rfl⟩) | (go_at_call 25; refine (cut_is A _ c k l.length _ _ l x _ hr (by omega) (by omega) rfl E4.out (by omega) (by omega) (by omega) (by omega) hb47).mono ?_; rintro e w1 ⟨A1, c1, rfl, ho, hb⟩))
      go_ret3
      exact ⟨_, _, rfl, ho, hb⟩
  · have e1 : takeE l s = 2 := by simp only [takeE]; rw [if_neg hs]
    have e2 : takeR l s = [] := by simp [takeR, e1]
    have e3 : takeN l s = 0 := by simp [takeN, e1]
    rw [e1, e2, e3]
    have hs' : s < 1 ∨ 8 < s := by omega
    clear e1 e2 e3 hs
    go_enter Try.func9, Try.ntmps9
    go_wp2_with (first | (go_at_call 22; refine (isSize_no _ _ hs').mono ?_; rintro e w' ⟨rfl, rfl⟩))
    go_ret3
    exact ⟨_, _, rfl, Own.nil _ _, Below.refl _ _⟩

theorem End_any (A : Option Addr) (m c : Nat) (l : List UInt8) (w : World) (hm : m = l.length) :
    Calls Try.prog 14 #[.slice A m c] w fun e w' => e = .returned (.int .i64 (endE l)) ∧ w = w' := by
  subst hm
  by_cases h0 : l.length = 0
  · have e1 : endE l = 0 := by simp only [endE]; rw [if_pos h0]
    have ht : ((l.length : Int) != 0) = false := by rw [bne_eq_false_iff_eq]; omega
    rw [e1]
    clear e1 h0
    go_enter Try.func14, Try.ntmps14
    go_wp2
    go_ret
    exact ⟨rfl, rfl⟩
  · have e1 : endE l = 11 := by simp only [endE]; rw [if_neg h0]
    have ht : ((l.length : Int) != 0) = true := by rw [bne_iff_ne]; omega
    rw [e1]
    clear e1
    go_enter Try.func14, Try.ntmps14
    go_wp2
    go_ret
    exact ⟨rfl, rfl⟩

set_option maxHeartbeats 400000 in
theorem PutPart_any (A : Option Addr) (m c : Nat) (l : List UInt8) (w : World) (hr : Rd w A l) (hm : m = l.length) (hb47 : l.length ≤ 140737488351232) :
    Calls Try.prog 10 #[.slice A m c] w fun e w' => ∃ A' c', e = .returned (.tuple #[.slice A' (ppB l).length c', .int .i64 (ppE l)]) ∧ Own 5 w' w.heap.size A' c' (ppB l) ∧ Below w.heap.size w w' := by
  subst hm
  by_cases h4 : 4096 < l.length
  · have e1 : ppE l = 4 := by simp only [ppE]; rw [if_pos h4]
    have e2 : ppB l = [] := by simp only [ppB]; rw [if_pos h4]
    rw [e1, e2]
    clear e1 e2
    go_enter Try.func10, Try.ntmps10
    go_wp2
    go_ret2
    exact ⟨_, _, rfl, Own.nil _ _, Below.refl _ _⟩
  · have e1 : ppE l = 0 := by simp only [ppE]; rw [if_neg h4]
    have e2 : ppB l = be 2 l.length ++ l := by simp only [ppB]; rw [if_neg h4]
    have e3 := hid (be_length 2 l.length)
    rw [e1, e2]
    clear e1 e2
    have h4' : l.length ≤ 4096 := by omega
    clear h4
    go_enter Try.func10, Try.ntmps10
    go_wp2_with (first
      | (go_at_call 23; refine (digits_any _ 2 _ (by omega) (by omega) (by omega)).mono ?_; rintro e w1 ⟨A1, c1, rfl, ho, hb⟩)
      | (at_builtin; refine wpList_app u8s rfl (.tmp 10) (.tmp 11) rfl w.heap.size A1 A 2 l.length c1 c (be 2 l.length) l rfl rfl e3.out.symm rfl ho (hr.bel hb) (by rw [e3.out]; omega) hb.size ?_; intro A2 c2 w2 ho2 hb2))
    go_ret2
    exact ⟨_, _, by simp, ho2, hb.trans hb2⟩

set_option maxHeartbeats 800000 in
theorem TakePart_any (A : Option Addr) (m c : Nat) (l : List UInt8) (w : World) (hr : Rd w A l) (hm : m = l.length) (hc : l.length ≤ c) (hc2 : c ≤ 9223372036854775807) (hb47 : l.length ≤ 140737488351232) :
    Calls Try.prog 11 #[.slice A m c] w fun e w' => ∃ A1 c1 A2 c2, e = .returned (.tuple #[.slice A1 (tpP l).length c1, .slice A2 (tpR l).length c2, .int .i64 (tpE l)]) ∧ Own 5 w' w.heap.size A1 c1 (tpP l) ∧ Own 5 w' w.heap.size A2 c2 (tpR l) ∧ (∀ a b, A1 = some a → A2 = some b → a.block ≠ b.block) ∧ Below w.heap.size w w' := by
  subst hm
  by_cases h2 : l.length < 2
  · have e1 : tpE l = 10 := by simp only [tpE]; rw [if_pos h2]
    have e2 : tpP l = [] := by simp [tpP, e1]
    have e3 : tpR l = [] := by simp [tpR, e1]
    rw [e1, e2, e3]
    clear e1 e2 e3
    go_enter Try.func11, Try.ntmps11
    go_wp2_with fail
    go_ret3
    exact ⟨_, _, _, _, rfl, Own.nil _ _, Own.nil _ _, nofun, Below.refl _ _⟩
  obtain ⟨k, hk⟩ : ∃ k, k = num (l.take 2) := ⟨_, rfl⟩
  have hk2 : k < 65536 := by
    have h := num_lt (l.take 2)
    rw [← hk] at h
    have : (l.take 2).length = 2 := by simp; omega
    rw [this] at h
    omega
  by_cases h4 : 4096 < k
  · have e1 : tpE l = 4 := by simp only [tpE]; rw [if_neg h2, ← hk, if_pos h4]
    have e2 : tpP l = [] := by simp [tpP, e1]
    have e3 : tpR l = [] := by simp [tpR, e1]
    rw [e1, e2, e3]
    clear e1 e2 e3
    have Hk := hid hk
    clear hk
    go_enter Try.func11, Try.ntmps11
    go_wp2_with (go_at_call 24; refine (number_any A _ c 2 l _ hr rfl (by omega) (by omega) (by omega)).mono ?_; rintro e w' ⟨rfl, rfl⟩; rw [← Hk.out])
    go_ret3
    exact ⟨_, _, _, _, rfl, Own.nil _ _, Own.nil _ _, nofun, Below.refl _ _⟩
  by_cases h5 : l.length < 2 + k
  · have e1 : tpE l = 10 := by simp only [tpE]; rw [if_neg h2, ← hk, if_neg h4, if_pos h5]
    have e2 : tpP l = [] := by simp [tpP, e1]
    have e3 : tpR l = [] := by simp [tpR, e1]
    rw [e1, e2, e3]
    clear e1 e2 e3
    have Hk := hid hk
    clear hk
    go_enter Try.func11, Try.ntmps11
    go_wp2_with (go_at_call 24; refine (number_any A _ c 2 l _ hr rfl (by omega) (by omega) (by omega)).mono ?_; rintro e w' ⟨rfl, rfl⟩; rw [← Hk.out])
    go_ret3
    exact ⟨_, _, _, _, rfl, Own.nil _ _, Own.nil _ _, nofun, Below.refl _ _⟩
  · have e1 : tpE l = 0 := by simp only [tpE]; rw [if_neg h2, ← hk, if_neg h4, if_neg h5]
    have e2 : tpP l = (l.drop 2).take k := by simp [tpP, e1, hk]
    have e3 : tpR l = l.drop (2 + k) := by simp [tpR, e1, hk]
    rw [e1]
    have Hk := hid hk
    have E2 : Hid (tpP l = (l.drop 2).take (2 + k - 2)) := by rw [show 2 + k - 2 = k by omega]; exact e2
    have E3 : Hid (tpR l = (l.drop (2 + k)).take (l.length - (2 + k))) := by rw [List.take_of_length_le (by simp)]; exact e3
    clear hk e1 e2 e3
    generalize tpP l = x at *
    generalize tpR l = y at *
    go_enter Try.func11, Try.ntmps11
    go_wp2_with (first
      | (go_at_call 24; refine (number_any A _ c 2 l _ hr rfl (by omega) (by omega) (by omega)).mono ?_; rintro e w' ⟨rfl, rfl⟩; rw [← Hk.out])
      | (go_at_call 25; refine (cut_is A _ c 2 (2 + k) _ _ l x _ hr (by omega) (by omega) rfl E2.out (by omega) (by omega) (by omega) (by omega) hb47).mono ?_; rintro e w1 ⟨A1, c1, rfl, ho1, hb1⟩)
      | (go_at_call 25; refine (cut_is A _ c (2 + k) l.length _ _ l y _ (hr.bel hb1) (by omega) (by omega) rfl E3.out (by omega) (by omega) (by omega) (by omega) hb47).mono ?_; rintro e w2 ⟨A2, c2, rfl, ho2, hb2⟩))
    go_ret3
    exact ⟨_, _, _, _, rfl, ho1.bel hb2, ho2.base hb1.size, (fun a b ha hb => by have h1 := ho1.blk a ha; have h2 := ho2.blk b hb; omega), hb1.trans (hb2.mono hb1.size)⟩

/-! ### the same contracts with what they answer given by equations -/
theorem Put_is (n : Nat) (ni s : Int) (b : List UInt8) (e : Int) (w : World) (hni : ni = n) (hn : n < 18446744073709551616) (hb : putB n s = b) (he : putE n s = e) :
    Calls Try.prog 8 #[.int .u64 ni, .int .i64 s] w fun r w' => ∃ A c, r = .returned (.tuple #[.slice A b.length c, .int .i64 e]) ∧ Own 5 w' w.heap.size A c b ∧ Below w.heap.size w w' := by
  subst hni hb he
  exact Put_any n s w hn
theorem Take_is (A : Option Addr) (m c : Nat) (l : List UInt8) (s : Int) (v : Int) (b : List UInt8) (e : Int) (w : World) (hr : Rd w A l) (hm : m = l.length) (hc : l.length ≤ c) (hc2 : c ≤ 9223372036854775807) (hb47 : l.length ≤ 140737488351232)
    (hv : (takeN l s : Int) = v) (hb : takeR l s = b) (he : takeE l s = e) :
    Calls Try.prog 9 #[.slice A m c, .int .i64 s] w fun r w' => ∃ A' c', r = .returned (.tuple #[.int .u64 v, .slice A' b.length c', .int .i64 e]) ∧ Own 5 w' w.heap.size A' c' b ∧ Below w.heap.size w w' := by
  subst hv hb he
  exact Take_any A m c l s w hr hm hc hc2 hb47
theorem PutPart_is (A : Option Addr) (m c : Nat) (l : List UInt8) (b : List UInt8) (e : Int) (w : World) (hr : Rd w A l) (hm : m = l.length) (hb47 : l.length ≤ 140737488351232) (hb : ppB l = b) (he : ppE l = e) :
    Calls Try.prog 10 #[.slice A m c] w fun r w' => ∃ A' c', r = .returned (.tuple #[.slice A' b.length c', .int .i64 e]) ∧ Own 5 w' w.heap.size A' c' b ∧ Below w.heap.size w w' := by
  subst hb he
  exact PutPart_any A m c l w hr hm hb47
theorem TakePart_is (A : Option Addr) (m c : Nat) (l : List UInt8) (p r : List UInt8) (e : Int) (w : World) (hr : Rd w A l) (hm : m = l.length) (hc : l.length ≤ c) (hc2 : c ≤ 9223372036854775807) (hb47 : l.length ≤ 140737488351232)
    (hp : tpP l = p) (hrr : tpR l = r) (he : tpE l = e) :
    Calls Try.prog 11 #[.slice A m c] w fun v w' => ∃ A1 c1 A2 c2, v = .returned (.tuple #[.slice A1 p.length c1, .slice A2 r.length c2, .int .i64 e]) ∧ Own 5 w' w.heap.size A1 c1 p ∧ Own 5 w' w.heap.size A2 c2 r ∧ (∀ a b, A1 = some a → A2 = some b → a.block ≠ b.block) ∧ Below w.heap.size w w' := by
  subst hp hrr he
  exact TakePart_any A m c l w hr hm hc hc2 hb47
theorem End_is (A : Option Addr) (m c : Nat) (l : List UInt8) (e : Int) (w : World) (hm : m = l.length) (he : endE l = e) :
    Calls Try.prog 14 #[.slice A m c] w fun r w' => r = .returned (.int .i64 e) ∧ w = w' := by
  subst he
  exact End_any A m c l w hm

end Go.Proofs.Ytjpneokbcnkpkaa
