/-
  The document's answer for layer 3: what is digested.
-/
import Derived.Test.YtliahdlllmnkkaaDoorRDigits
import Derived.Test.YtliahdlllmnkkaaDoorTagP
namespace Go.Proofs.YtliahdlllmnkkaaDoor
open Go.RowKit
set_option linter.unusedVariables false

set_option maxHeartbeats 800000 in
theorem RBytes_any (k : UInt8) (A : Option Addr) (c n : Nat) (ls : List (List UInt8)) (w : World) (hr : Rds w A ls) (hn : n = ls.length) (hc : ls.length ≤ 1000000) (hl : (tagB k ls).length ≤ 1000000) :
    Calls Tryd.prog 14 #[.int .u8 (k.toNat : Int), .slice A n c] w fun r w' => ∃ A' c', r = .returned (.slice A' (tagB k ls).length c') ∧ Own 5 w' w.heap.size A' c' (tagB k ls) ∧ Below w.heap.size w w' := by
  subst hn
  have O0 : Own 5 (w.alloc (.cells #[.int .u8 (k.toNat : Int)] 5)) w.heap.size (some ⟨w.heap.size, 0, none⟩) 1 [k] := Own.of_block (l := [k]) (heap_alloc_new w _) (Nat.le_refl _) (show 1 ≤ maxLen by decide)
  replace O0 := hid O0
  go_enter Tryd.func14, Tryd.ntmps14
  go_wp2
  go_loopw [5, 6] (fun v i wr => ∃ (j : Nat) (A' : Option Addr) (c' : Nat), j ≤ ls.length ∧ i = .int .i64 j ∧ v = .slice A' (tagB k (ls.take j)).length c' ∧ Own 5 wr w.heap.size A' c' (tagB k (ls.take j)) ∧ Below w.heap.size w wr) (fun _ i _ => ls.length - (intOf i).toNat)
  case atStart => exact ⟨0, _, 1, Nat.zero_le _, rfl, rfl, O0.out, ext_alloc _ _⟩
  case round =>
    obtain ⟨j, A', c', hj, rfl, rfl, ho, hb⟩ := hrel
    have hx := tagB_take_le k ls j
    have hx2 := tagB_take_le k ls (j + 1)
    by_cases hlt : j < ls.length
    · as_aux_lemma =>
      obtain ⟨b, o, rfl, hc2⟩ := hr (by omega)
      obtain ⟨A2, c2, hcw, hr2, hl2, hm2⟩ := hc2 j _ (List.getElem?_eq_getElem hlt)
      have hbl0 := World.block_lt_of_cell? _ _ hcw
      have hcell := (hb.cell (p := ⟨b, o + j, none⟩) hbl0).trans hcw
      have E := hid (tagB_take_succ k ls j hlt)
      rw [E.out, List.length_append, List.length_append] at hx2
      obtain ⟨y, hy⟩ : ∃ y, y = tagB k (ls.take (j + 1)) := ⟨_, rfl⟩
      rw [← hy] at E
      replace hy := hid hy
      generalize tagB k (ls.take j) = x at *
      generalize ls[j] = z at *
      obtain ⟨m, hm⟩ : ∃ m, m = z.length % 4294967296 := ⟨_, rfl⟩
      rw [← hm] at E hx2
      have hmz : (z.length : Int) % 4294967296 = (m : Int) := by omega
      have hml : m < 4294967296 := by omega
      have hbl := be_length 4 m
      rw [hbl] at hx2
      obtain ⟨d, hd⟩ : ∃ d, d = be 4 m := ⟨_, rfl⟩
      rw [← hd] at E hbl
      obtain ⟨xd, hxd⟩ : ∃ xd, xd = x ++ d := ⟨_, rfl⟩
      rw [← hxd] at E
      have lxd : xd.length = x.length + 4 := by rw [hxd, List.length_append, hbl]
      replace lxd := hid lxd
      replace hxd := hid hxd
      replace hd := hid hd
      replace hm := hid hm
      replace hbl := hid hbl
      have j1 : (j : Int) < ls.length := by omega
      replace hc2 := trivial
      have Ho := hid ho
      have Hb := hid hb
      have Hr := hid hr2
      unfold maxLen at hm2
      clear ho hb hr2 hr
      go_wp2_with fail
      refine (Digits_any m 4 wr (by decide) (by decide) (by omega)).mono ?_
      rintro e w3 ⟨A3, c3, rfl, ho3, hb3⟩
      rw [← hd.out] at ho3
      have Ho3 := hid ho3
      have Hx := hid (Ho.out.bel hb3)
      have hc3 := (hb3.cell (p := ⟨b, o + j, none⟩) (World.block_lt_of_cell? _ _ hcell)).trans hcell
      have B3 := hid (Hb.out.trans (hb3.mono Hb.out.size))
      have S3 := hid hb3
      clear ho3 hb3
      replace hcell := trivial
      go_wp2_with (first
        | (at_builtin; refine wpList_app u8s rfl (.tmp 28) (.tmp 29) rfl w.heap.size A' A3 x.length 4 c' c3 x d rfl rfl rfl hbl.out.symm Hx.out Ho3.out.rd (by rw [hbl.out]; omega) B3.out.size ?_; intro A4 c4 w4 ho4 hb4; rw [← hxd.out] at ho4 ⊢; have Ho4 := hid ho4; have B4 := hid (B3.out.trans hb4); have hc4 := (B4.out.cell (p := ⟨b, o + j, none⟩) hbl0).trans hcw; clear ho4 hb4)
        | (at_builtin; refine wpList_app u8s rfl (.tmp 31) (.tmp 35) rfl w.heap.size A4 A2 xd.length z.length c4 c2 xd z rfl rfl rfl rfl Ho4.out (Hr.out.bel B4.out) (by have := lxd.out; omega) B4.out.size ?_; intro A5 c5 w5 ho5 hb5; rw [← E.out] at ho5 ⊢; have Ho5 := hid ho5; have B5 := hid (B4.out.trans hb5); clear ho5 hb5))
      go_roundw
      case rel => exact ⟨j + 1, A5, c5, by omega, by go_num, by rw [← hy.out], by rw [← hy.out]; exact Ho5.out, B5.out⟩
      case measure => simp [intOf]; omega
    · as_aux_lemma =>
      obtain rfl : j = ls.length := by omega
      rw [List.take_length] at ho ⊢
      have Ho := hid ho
      clear ho
      go_wp2_with fail
      go_ret
      exact ⟨_, _, rfl, Ho.out, hb⟩
end Go.Proofs.YtliahdlllmnkkaaDoor
