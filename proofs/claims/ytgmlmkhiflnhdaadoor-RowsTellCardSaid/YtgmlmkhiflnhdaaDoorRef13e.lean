/-
  The document's answer of layer 13: a list in new memory.
-/
import Derived.Test.YtgmlmkhiflnhdaaDoorRef13d
namespace Go.Proofs.YtgmlmkhiflnhdaaDoor
open Go.RowKit
set_option linter.unusedVariables false
set_option linter.unusedSimpArgs false
set_option maxRecDepth 100000

theorem infoSlR : (Tryd.prog.info? 33).map (fun i => (i.zero, i.size, i.bytes)) = some (some (.slice none 0 0), 1, 24) := by kernel_rfl
theorem underSlsR : Tryd.prog.underlying 26 = some (.slice 33) := Tryd.underlying26
set_option maxHeartbeats 2000000 in
theorem RRwTwin_any (A : Option Addr) (c : Nat) (ls : List (List UInt8)) (w : World) (hr : Rds w A ls) (hl : ls.length ≤ 1000000) (hx : ∀ x ∈ ls, x.length ≤ 1000000) :
    Calls Tryd.prog 17 #[.slice A ls.length c] w fun e w' => ∃ A' c', e = .returned (.slice A' ls.length c') ∧ OwnL 33 5 w' w.heap.size A' c' ls ∧ Below w.heap.size w w' := by
  go_enter Tryd.func17, Tryd.ntmps17
  go_wp2
  go_loopw [3, 4] (fun v q wr => ∃ (j : Nat) (ps : List (List UInt8)) (A' : Option Addr) (c' : Nat), j ≤ ls.length ∧ q = .int .i64 (j : Int) ∧ Hid (ls.take j = ps) ∧ Hid (ps.length = j) ∧ v = .slice A' ps.length c' ∧ OwnL 33 5 wr w.heap.size A' c' ps ∧ Below w.heap.size w wr) (fun _ q _ => ls.length - (intOf q).toNat)
  case atStart => exact ⟨0, [], none, 0, Nat.zero_le _, rfl, rfl, rfl, rfl, OwnL.nil _ _, Below.refl _ _⟩
  case round =>
    obtain ⟨j, ps, A', c', hj, rfl, hps, hpl, rfl, ho, hb⟩ := hrel
    have Ho := hid ho
    have Hb := hid hb
    by_cases hlt : j < ls.length
    · obtain ⟨b, o, rfl, hc2⟩ := (hr.bel hb) (by omega)
      obtain ⟨A2, c2, hcell, hz, hl2, hm2⟩ := hc2 j _ (List.getElem?_eq_getElem hlt)
      have hxl := hx _ (List.getElem_mem hlt)
      have hnx : Hid (ls.take (j + 1) = ps ++ [ls[j]]) := by
        rw [List.take_succ_eq_append_getElem hlt, hps.out]
        exact rfl
      generalize ls[j] = z at *
      have j1 : (j : Int) < ls.length := by omega
      replace hc2 := trivial
      replace hr := trivial
      replace hx := trivial
      replace hz := hid hz
      clear ho hb
      go_wp2_with (first
        | (at_builtin; refine wpList_app u8s rfl (.tmp 13) (.tmp 17) rfl wr.heap.size none A2 0 z.length 0 c2 [] z rfl rfl rfl rfl (Own.nil _ _) hz.out (by simp; omega) (Nat.le_refl _) ?_; intro A3 c3 w3 ho3 hb3; have Ho3 := hid (ho3.base Hb.out.size); have Hx := hid (Ho.out.bel hb3); have B3 := hid (Hb.out.trans (hb3.mono Hb.out.size)); clear ho3 hb3)
        | (at_builtin; refine wpList_appL underSlsR infoSlR (by decide) rfl (.tmp 12) (.tmp 19) rfl w.heap.size A' A3 _ c' c3 1 w3.heap.size ps z rfl rfl rfl (Hx.out.alloc _) (Ho3.out.alloc _) (by rw [cell_of_row _ w3.heap.size 0 _ _ (0, 0) (heap_alloc_new w3 _)]; rfl) (by have := hpl.out; omega) (by have := B3.out.size; simp; omega) ?_; intro A4 c4 w4 ho4 hb4; have Ho4 := hid ho4; have B4 := hid (((B3.out.alloc B3.out.size _)).trans hb4); clear ho4 hb4))
      go_roundw
      case rel => exact ⟨j + 1, ps ++ [z], A4, c4, by omega, by go_num, hnx, by have := hpl.out; exact hid (by simp; exact this), by simp, Ho4.out, B4.out⟩
      case measure => simp [intOf]; omega
    · obtain rfl : j = ls.length := by omega
      have he : ls = ps := by rw [← hps.out, List.take_length]
      have j2 : (ls.length : Int) ≤ ls.length := Int.le_refl _
      subst he
      clear ho hb hr hx
      go_wp2
      go_ret
      exact ⟨A', c', rfl, Ho.out, Hb.out⟩
end Go.Proofs.YtgmlmkhiflnhdaaDoor
