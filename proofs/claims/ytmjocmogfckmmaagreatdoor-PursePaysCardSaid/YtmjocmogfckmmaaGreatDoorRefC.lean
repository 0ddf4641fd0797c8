/-
 Texts laid together: RDigits, Ref03b, Ref03c, Ref03x.
-/
import Derived.Test.YtmjocmogfckmmaaGreatDoorBits
import Derived.Deep.RegionWith
import Derived.IntWalk
import Derived.Test.YtmjocmogfckmmaaGreatDoorPlain
import Derived.Test.YtmjocmogfckmmaaGreatDoorShaR
import Derived.Test.YtmjocmogfckmmaaGreatDoorMem
set_option maxRecDepth 100000
set_option linter.unusedVariables false
set_option linter.unusedSimpArgs false
namespace Go.Proofs.YtmjocmogfckmmaaGreatDoor
/- (RDigits)
 Contracts of the document's own answers for layer 1: Digits.
-/
section
open Go.RowKit

set_option maxHeartbeats 400000 in
theorem Digits_any (n : Nat) (size : Nat) (w : World) (h1 : 1 ≤ size) (h8 : size ≤ 8) (hn : n < 18446744073709551616) :
  Calls Tryz.prog 56 #[.int .u64 (n : Int), .int .i64 (size : Int)] w fun e w' => ∃ A c, e = .returned (.tuple #[.slice A size c, .bool (decide (n < 256 ^ size))]) ∧ Own 5 w' w.heap.size A c (be size n) ∧ Below w.heap.size w w' := by
 obtain ⟨i0, hi0, hz0, hz1, hz2⟩ := info_parts infoU8
 go_enter Tryz.func56, Tryz.ntmps56
 go_wp2_with (at_make; refine wpList_make_full _ rfl _ _ 41 rfl w.heap.size 5 i0 (.int .u8 0) 1 Tryz.underlying41 hi0 hz0 hz1 _ _ _ _ size rfl rfl rfl rfl (by rw [hz2]; omega) (by unfold maxLen; omega) (Nat.le_refl _) ?_; intro w1 hown1 hgrow1)
 go_loopw [0, 7] (fun v i wr => ∃ k : Nat, k ≤ size ∧ i = .int .i64 ((size : Int) - k - 1) ∧ v = .int .u64 ((n / 256 ^ k : Nat) : Int) ∧ Below w.heap.size w wr ∧ wr.heap[w.heap.size]? = some (.cells ((dcells n size k).map bv).toArray 5 (0, 0))) (fun _ i _ => (intOf i + 1).toNat)
 case atStart =>
  refine ⟨0, Nat.zero_le _, by go_num, by simp, (Below.refl _ _).grown hgrow1 (Nat.le_refl _) (by simp), ?_⟩
  rw [dcells_zero]
  exact made_block hown1
 case round =>
  obtain ⟨k, hk, rfl, rfl, hb, hg⟩ := hrel
  by_cases hlt : k < size
  ·have hc := block_bcell hg (size - k - 1) (by rw [dcells_len _ _ _ hk]; omega)
   have hf := block_frozen hg (size - k - 1)
   have hqn : n / 256 ^ k < 18446744073709551616 := Nat.lt_of_le_of_lt (Nat.div_le_self _ _) hn
   have e3 := hid (show n / 256 ^ (k + 1) = n / 256 ^ k / 256 by rw [Nat.pow_succ, Nat.div_div_eq_div_mul])
   have e4 := hid (dcells_step n size k hlt)
   have e5 := hid (show size - k - 1 = size - 1 - k by omega)
   generalize n / 256 ^ k = q at *
   go_wp2
   go_roundw
   case rel =>
    refine ⟨k + 1, by omega, by go_num, ?_, hb.setCell (Nat.le_refl _) _, ?_⟩
    ·rw [e3.out]
     go_num
    ·rw [← e4.out, e5.out, show Value.int .u8 ((q : Int) % 256) = bv (UInt8.ofNat (q % 256)) from by unfold bv; congr 1; simp]
     exact block_bset hg _ _
   case measure => simp [intOf]; omega
  ·obtain rfl : k = size := by omega
   rw [dcells_all] at hg
   have ht : (((n / 256 ^ k : Nat) : Int) == 0) = decide (n < 256 ^ k) := by
    rw [Bool.eq_iff_iff, beq_iff_eq, decide_eq_true_iff]
    constructor
    ·intro h
     have h2 : n / 256 ^ k = 0 := by omega
     rcases Nat.div_eq_zero_iff.1 h2 with h3 | h3
     ·have := Nat.pow_pos (n := k) (show 0 < 256 by omega); omega
     ·exact h3
    ·intro h
     rw [Nat.div_eq_of_lt h]; rfl
   generalize n / 256 ^ k = q at *
   go_wp2
   go_ret2
   have ho := Own.of_block (B := w.heap.size) hg (Nat.le_refl _) (by rw [be_length]; unfold maxLen; omega)
   rw [be_length] at ho
   exact ⟨_, _, rfl, ho, hb⟩
end

/- (Ref03b)
 The document's answer for layer 3: what is digested.
-/
section
open Go.RowKit

set_option maxHeartbeats 800000 in
theorem RBytes_any (k : UInt8) (A : Option Addr) (c n : Nat) (ls : List (List UInt8)) (w : World) (hr : Rds w A ls) (hn : n = ls.length) (hc : ls.length ≤ 1000000) (hl : (tagB k ls).length ≤ 1000000) :
  Calls Tryz.prog 82 #[.int .u8 (k.toNat : Int), .slice A n c] w fun r w' => ∃ A' c', r = .returned (.slice A' (tagB k ls).length c') ∧ Own 5 w' w.heap.size A' c' (tagB k ls) ∧ Below w.heap.size w w' := by
 subst hn
 have O0 : Own 5 (w.alloc (.cells #[.int .u8 (k.toNat : Int)] 5)) w.heap.size (some ⟨w.heap.size, 0, none⟩) 1 [k] := Own.of_block (l := [k]) (heap_alloc_new w _) (Nat.le_refl _) (show 1 ≤ maxLen by decide)
 replace O0 := hid O0
 go_enter Tryz.func82, Tryz.ntmps82
 go_wp2
 go_loopw [5, 6] (fun v i wr => ∃ (j : Nat) (A' : Option Addr) (c' : Nat), j ≤ ls.length ∧ i = .int .i64 j ∧ v = .slice A' (tagB k (ls.take j)).length c' ∧ Own 5 wr w.heap.size A' c' (tagB k (ls.take j)) ∧ Below w.heap.size w wr) (fun _ i _ => ls.length - (intOf i).toNat)
 case atStart => exact ⟨0, _, 1, Nat.zero_le _, rfl, rfl, O0.out, ext_alloc _ _⟩
 case round =>
  obtain ⟨j, A', c', hj, rfl, rfl, ho, hb⟩ := hrel
  have hx := tagB_take_le k ls j
  have hx2 := tagB_take_le k ls (j + 1)
  by_cases hlt : j < ls.length
  ·as_aux_lemma =>
   obtain ⟨b, o, rfl, hc2⟩ := hr (by omega)
   obtain ⟨A2, c2, hcw, hr2, hl2, hm2⟩ := hc2 j _ (List.getElem?_eq_getElem hlt)
   have hbl0 := World.block_lt_of_cell? _ _ hcw
   have hcell := (hb.cell (p := ⟨b, o + j, none⟩) hbl0).trans hcw
   have E := hid (tagB_take_succ k ls j hlt)
   rw [E.out, List.length_append, List.length_append] at hx2
   obtain ⟨y, hy⟩ : ∃ y, y = tagB k (ls.take (j + 1)) := ⟨_, rfl⟩
   rw [← hy] at E
   replace hy := hid hy
   generalize tagB k (ls.take j) = x at *
   generalize ls[j] = z at *
   obtain ⟨m, hm⟩ : ∃ m, m = z.length % 4294967296 := ⟨_, rfl⟩
   rw [← hm] at E hx2
   have hmz : (z.length : Int) % 4294967296 = (m : Int) := by omega
   have hml : m < 4294967296 := by omega
   have hbl := be_length 4 m
   rw [hbl] at hx2
   obtain ⟨d, hd⟩ : ∃ d, d = be 4 m := ⟨_, rfl⟩
   rw [← hd] at E hbl
   obtain ⟨xd, hxd⟩ : ∃ xd, xd = x ++ d := ⟨_, rfl⟩
   rw [← hxd] at E
   have lxd : xd.length = x.length + 4 := by rw [hxd, List.length_append, hbl]
   replace lxd := hid lxd
   replace hxd := hid hxd
   replace hd := hid hd
   replace hm := hid hm
   replace hbl := hid hbl
   have j1 : (j : Int) < ls.length := by omega
   replace hc2 := trivial
   have Ho := hid ho
   have Hb := hid hb
   have Hr := hid hr2
   unfold maxLen at hm2
   clear ho hb hr2 hr
   go_wp2_with fail
   refine (Digits_any m 4 wr (by decide) (by decide) (by omega)).mono ?_
   rintro e w3 ⟨A3, c3, rfl, ho3, hb3⟩
   rw [← hd.out] at ho3
   have Ho3 := hid ho3
   have Hx := hid (Ho.out.bel hb3)
   have hc3 := (hb3.cell (p := ⟨b, o + j, none⟩) (World.block_lt_of_cell? _ _ hcell)).trans hcell
   have B3 := hid (Hb.out.trans (hb3.mono Hb.out.size))
   have S3 := hid hb3
   clear ho3 hb3
   replace hcell := trivial
   go_wp2_with (first
    | (at_builtin; refine wpList_app u8s rfl (.tmp 28) (.tmp 29) rfl w.heap.size A' A3 x.length 4 c' c3 x d rfl rfl rfl hbl.out.symm Hx.out Ho3.out.rd (by rw [hbl.out]; omega) B3.out.size ?_; intro A4 c4 w4 ho4 hb4; rw [← hxd.out] at ho4 ⊢; have Ho4 := hid ho4; have B4 := hid (B3.out.trans hb4); have hc4 := (B4.out.cell (p := ⟨b, o + j, none⟩) hbl0).trans hcw; clear ho4 hb4)
    | (at_builtin; refine wpList_app u8s rfl (.tmp 31) (.tmp 35) rfl w.heap.size A4 A2 xd.length z.length c4 c2 xd z rfl rfl rfl rfl Ho4.out (Hr.out.bel B4.out) (by have := lxd.out; omega) B4.out.size ?_; intro A5 c5 w5 ho5 hb5; rw [← E.out] at ho5 ⊢; have Ho5 := hid ho5; have B5 := hid (B4.out.trans hb5); clear ho5 hb5))
   go_roundw
   case rel => exact ⟨j + 1, A5, c5, by omega, by go_num, by rw [← hy.out], by rw [← hy.out]; exact Ho5.out, B5.out⟩
   case measure => simp [intOf]; omega
  ·as_aux_lemma =>
   obtain rfl : j = ls.length := by omega
   rw [List.take_length] at ho ⊢
   have Ho := hid ho
   clear ho
   go_wp2_with fail
   go_ret
   exact ⟨_, _, rfl, Ho.out, hb⟩
end

/- (Ref03c)
 The document's answers for layer 3: the digest of a kind and parts; that of nothing.
-/
section
open Go.RowKit

theorem ROf_any (k : UInt8) (A : Option Addr) (c n : Nat) (ls : List (List UInt8)) (w : World) (hr : Rds w A ls) (hn : n = ls.length) (hc : ls.length ≤ 1000000) (hl : (tagB k ls).length ≤ 100000) :
  Calls Tryz.prog 55 #[.int .u8 (k.toNat : Int), .slice A n c] w fun r w' => r = .returned (.agg ((sha256 (tagB k ls)).map bv).toArray) ∧ Below w.heap.size w w' := by
 subst hn
 obtain ⟨dg, hdg⟩ : ∃ dg, dg = sha256 (tagB k ls) := ⟨_, rfl⟩
 rw [← hdg]
 have ld : dg.length = 32 := by rw [hdg]; exact S8.bytes_len _
 have z1 : ((dg.map bv).toArray).size = 32 := by simp [ld]
 have o1 := bvs_all dg
 replace hdg := hid hdg
 have hr1 := hr.alloc (.cells z32 26)
 go_enter Tryz.func55, Tryz.ntmps55
 go_wp2_with (first
  | (with_reducible refine wpList_alloc_row rfl 26 rfl z32 info32 ?_))
 refine (RBytes_any k A c _ ls _ hr1 rfl hc (by omega)).mono ?_
 rintro e w2 ⟨A2, c2, rfl, ho2, hb2⟩
 have R2 := hid ((hb2.block w.heap.size (by simp)).trans (heap_alloc_new w (.cells z32 26)))
 have W2 := hid (ext_trans (ext_alloc w _) hb2)
 have r2 := hid ho2.rd
 clear ho2 hb2
 go_wp2_with fail
 refine (Sum_any A2 c2 _ (tagB k ls) _ r2.out rfl (by omega)).mono ?_
 rintro e w3 ⟨rfl, hb3⟩
 rw [← hdg.out]
 have R3 := hid ((hb3.block _ (block_lt R2.out)).trans R2.out)
 have W3 := hid (ext_trans W2.out hb3)
 clear hb3
 go_wp2_with (first
  | ((with_reducible refine wpList_store_row rfl 26 (.tmp 4) (.tmp 8) rfl w.heap.size _ rfl rfl 26 z32 ?_ ?_ ?_ ?_ ?_); exact R3.out; (rw [z1]; exact size32); (rw [z1]; exact z32_size); exact o1; intro w4 hg4 hb4 hs4))
 refine bodyPost_ret (v := .agg ((dg.map bv).toArray)) ?_ rfl ⟨rfl, ?_⟩
 ·exact results_cell_row Tryz.results55 _ _ w.heap.size 26 _ (0, 0) _ rfl hg4 Tryz.underlying26 rfl (by rw [z1]; exact size32)
 ·exact W3.out.grown hb4 W3.out.size (by simp)

end

/- (Ref03x)
 The document's digest of one part (ref03.One).
-/
section
open Go.RowKit

theorem ROneD_any (k : UInt8) (A : Option Addr) (c : Nat) (l : List UInt8) (w : World) (h1 : Rd w A l) (d1 : l.length ≤ c ∧ c ≤ maxLen) (hl : l.length ≤ 5000) :
  Calls Tryz.prog 35 #[.int .u8 (k.toNat : Int), .slice A l.length c] w fun r w' => r = .returned (.agg ((sha256 (tagB k [l])).map bv).toArray) ∧ Below w.heap.size w w' := by
 have ht : (tagB k [l]).length ≤ 100000 := by simp [tagB, partB, be_length]; omega
 have ho := fun W hW => ROf_any k (some ⟨w.heap.size + 1, 0, none⟩) 1 1 [l] W hW rfl (by simp) ht
 obtain ⟨dg, hdg⟩ : ∃ dg, dg = sha256 (tagB k [l]) := ⟨_, rfl⟩
 rw [← hdg] at ho ⊢
 have ld : dg.length = 32 := by rw [hdg]; exact S8.bytes_len _
 have z1 : ((dg.map bv).toArray).size = 32 := by simp [ld]
 have o1 := bvs_all dg
 have hR := rds_one (w.alloc (.cells z32 26)) A c l 41 (h1.bel (ext_alloc _ _)) d1
 rw [World.size_alloc] at hR
 have R1 := (ext_alloc (w.alloc (.cells z32 26)) (.cells [Value.slice A l.length c].toArray 41)).block w.heap.size (by simp)
 replace R1 := hid (R1.trans (heap_alloc_new w (.cells z32 26)))
 have W1 := hid (ext_trans (ext_alloc w (.cells z32 26)) (ext_alloc (w.alloc (.cells z32 26)) (.cells [Value.slice A l.length c].toArray 41)))
 replace hdg := trivial
 replace ho := hid ho
 replace hR := hid hR
 clear h1 d1 hl ht
 go_enter Tryz.func35, Tryz.ntmps35
 go_wp2_with (first
  | (with_reducible refine wpList_alloc_row rfl 26 rfl z32 info32 ?_))
 refine (ho.out _ hR.out).mono ?_
 rintro e w3 ⟨rfl, hb3⟩
 have R3 := hid ((hb3.block _ (block_lt R1.out)).trans R1.out)
 have W3 := hid (ext_trans W1.out hb3)
 clear hb3
 go_wp2_with (first
  | ((with_reducible refine wpList_store_row rfl 26 (.tmp 4) (.tmp 8) rfl w.heap.size _ rfl rfl 26 z32 ?_ ?_ ?_ ?_ ?_); exact R3.out; (rw [z1]; exact size32); (rw [z1]; exact z32_size); exact o1; intro w4 hg4 hb4 hs4))
 refine bodyPost_ret (v := .agg ((dg.map bv).toArray)) ?_ rfl ⟨rfl, ?_⟩
 ·exact results_cell_row Tryz.results35 _ _ w.heap.size 26 _ (0, 0) _ rfl hg4 Tryz.underlying26 rfl (by rw [z1]; exact size32)
 ·exact W3.out.grown hb4 W3.out.size (by simp)
end
end Go.Proofs.YtmjocmogfckmmaaGreatDoor
