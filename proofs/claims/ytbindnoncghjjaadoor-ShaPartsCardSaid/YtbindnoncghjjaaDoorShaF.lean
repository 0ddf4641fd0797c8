/-
  The landed package sha: texts of digests: digit, Hex, Read.
-/
import Derived.Test.YtbindnoncghjjaaDoorTxt
import Derived.Test.YtbindnoncghjjaaDoorDig
import Derived.StillTailTactics
import Derived.Deep.RegionLaw
namespace Go.Proofs.YtbindnoncghjjaaDoor
open Go.RowKit
set_option linter.unusedVariables false

set_option maxHeartbeats 800000 in
theorem sdigit_any (c : UInt8) (w : World) :
    Calls Tryd.prog 19 #[.int .u8 (c.toNat : Int)] w fun r w' => r = .returned (.tuple #[.int .u8 ((digitV c).toNat : Int), .bool (decide (0 ≤ digitI c))]) ∧ w = w' := by
  have h0 := c.toNat_lt
  by_cases h1 : 48 ≤ c.toNat ∧ c.toNat ≤ 57
  · have h2 := digit_dec c h1.1 h1.2
    have h3 : decide (0 ≤ digitI c) = true := by rw [h2, decide_eq_true_iff]; omega
    have h4 : ((digitV c).toNat : Int) = (c.toNat : Int) - 48 := by
      unfold digitV
      rw [if_pos (by omega), h2]
      simp
      omega
    rw [h3, h4]
    obtain ⟨a, b⟩ := h1
    have t1 : (48 : Int) ≤ c.toNat := by omega
    have t2 : (c.toNat : Int) ≤ 57 := by omega
    clear h2 h3 h4
    go_enter Tryd.func19, Tryd.ntmps19
    go_wp2
    go_ret2
    exact ⟨rfl, rfl⟩
  · by_cases h5 : 97 ≤ c.toNat ∧ c.toNat ≤ 102
    · have h2 := digit_hex c h5.1 h5.2
      have h3 : decide (0 ≤ digitI c) = true := by rw [h2, decide_eq_true_iff]; omega
      have h4 : ((digitV c).toNat : Int) = (c.toNat : Int) - 97 + 10 := by
        unfold digitV
        rw [if_pos (by omega), h2]
        simp
        omega
      rw [h3, h4]
      obtain ⟨a, b⟩ := h5
      have t1 : (97 : Int) ≤ c.toNat := by omega
      have t2 : (c.toNat : Int) ≤ 102 := by omega
      have t3 : ¬ ((c.toNat : Int) ≤ 57) := by omega
      clear h2 h3 h4 h1
      go_enter Tryd.func19, Tryd.ntmps19
      go_wp2
      go_ret2
      exact ⟨rfl, rfl⟩
    · have h2 := digit_not c (by omega) (by omega)
      have h3 : decide (0 ≤ digitI c) = false := by rw [h2]; rfl
      have h4 : ((digitV c).toNat : Int) = 0 := by
        unfold digitV
        rw [if_neg (by omega)]
        rfl
      rw [h3, h4]
      have n1 : c.toNat < 48 ∨ 57 < c.toNat := by omega
      have n2 : c.toNat < 97 ∨ 102 < c.toNat := by omega
      clear h2 h3 h4 h1 h5
      go_enter Tryd.func19, Tryd.ntmps19
      go_wp2
      all_goals first | (go_ret2; exact ⟨rfl, rfl⟩) | (exfalso; omega)

theorem and15 (y : UInt8) : bits .and .u8 (y.toNat : Int) 15 = ((y.toNat % 16 : Nat) : Int) := by
  exact all256 (p := fun y => bits .and .u8 (y.toNat : Int) 15 = ((y.toNat % 16 : Nat) : Int)) (by decide +kernel) y

set_option maxRecDepth 100000 in
set_option maxHeartbeats 1600000 in
theorem sHex_any (d : List UInt8) (w : World) (hd : d.length = 32) :
    Calls Tryd.prog 10 #[.agg (d.map bv).toArray] w fun r w' => r = .returned (.string (bstr (hexL d))) ∧ Below w.heap.size w w' := by
  obtain ⟨i0, hi0, hz0, hz1, hz2⟩ := info_parts infoU8
  obtain ⟨ds, hds⟩ : ∃ ds, ds = (d.map bv).toArray := ⟨_, rfl⟩
  have hsz : ds.size = 32 := by rw [hds]; simp [hd]
  rw [← hds]
  replace hds := hid hds
  replace hd := hid hd
  replace hsz := hid hsz
  go_enter Tryd.func10, Tryd.ntmps10
  go_wp2_with (first
    | (at_make; refine wpList_make_own _ rfl _ _ 25 rfl w.heap.size 5 i0 (.int .u8 0) 1 Tryd.underlying25 hi0 hz0 hz1 _ _ _ 64 rfl rfl rfl (by rw [hz2]; omega) (by unfold maxLen; omega) (by simp) ?_; intro w1 hown1 hgrow1; have hb1 := (ext_alloc w (.cells ds 23)).grown hgrow1 (by simp) (by simp); have hd1 := (hgrow1.block w.heap.size (by simp) (by simp)).trans (heap_alloc_new w (.cells ds 23)); clear hgrow1)
    | ((with_reducible refine wpList_load_row rfl 23 (.tmp 1) rfl w.heap.size rfl 23 ds (0, 0) _ ?_ Tryd.underlying23 rfl ?_ ?_); exact hd1; (rw [hsz.out]; exact size32)))
  have eg : (w.alloc (.cells ds 23)).heap.size = w.heap.size + 1 := by simp
  rw [eg] at hown1
  have hown : Own 5 w1 w.heap.size (some ⟨w.heap.size + 1, 0, none⟩) 64 [] := hown1
  clear hown1 hd1
  replace hown := hid hown
  replace hb1 := hid hb1
  go_loopw [3, 8] (fun v q wr => ∃ (i : Nat) (A' : Option Addr) (c' : Nat), i ≤ 32 ∧ q = .int .i64 i ∧ v = .slice A' (hexL (d.take i)).length c' ∧ Own 5 wr w.heap.size A' c' (hexL (d.take i)) ∧ Below w.heap.size w wr) (fun _ q _ => 32 - (intOf q).toNat)
  case atStart => exact ⟨0, _, 64, Nat.zero_le _, rfl, rfl, hown.out, hb1.out⟩
  case round =>
    clear hown hb1
    obtain ⟨i, A', c', hi, rfl, rfl, ho, hb⟩ := hrel
    by_cases hlt : i < 32
    · as_aux_lemma =>
      have hil : i < d.length := by rw [hd.out]; exact hlt
      have hix : (Instr.index 23 (.agg ds) (.int .i64 (i : Int))).run Tryd.prog wr = .ok (.int .u8 (d[i].toNat : Int)) wr := run_index_arr _ _ _ _ _ _ _ _ Tryd.underlying23 Tryd.underlying5 (by rw [hi0]; simp [hz1]) hlt (by rw [hds.out, List.getElem?_toArray, List.getElem?_map, List.getElem?_eq_getElem hil]; rfl)
      have E := hid (hexL_take_succ d i hil)
      have hL := hexL_len (d.take i)
      rw [List.length_take] at hL
      have hL2 : (hexL (d.take i)).length ≤ 64 := by omega
      clear hL
      generalize d[i] = y at *
      generalize hexL (d.take i) = x at *
      have hy := y.toNat_lt
      have y0 : (0 : Int) ≤ (y.toNat : Int) / 16 := by omega
      have y6 : (0 : Int) ≤ (y.toNat : Int) % 16 := by omega
      have y7 : (y.toNat : Int) % 16 < 16 := by omega
      have y8 : ((y.toNat : Int) % 16).toNat = y.toNat % 16 := by omega
      have y1 : (y.toNat : Int) / 16 < 16 := by omega
      have y2 : ((y.toNat : Int) / 16).toNat = y.toNat / 16 := by omega
      have y3 : y.toNat / 16 < 16 := by omega
      have y4 := and15 y
      have y5 : y.toNat % 16 < 16 := by omega
      have hlit := hid (show #[Value.int .u8 (((ByteArray.mk hexd.toArray)[y.toNat / 16]'(by show _ < 16; omega)).toNat : Int), Value.int .u8 (((ByteArray.mk hexd.toArray)[y.toNat % 16]'(by show _ < 16; omega)).toNat : Int)] = ((hexOf y).map bv).toArray by rw [hexd_at _ (by show _ < 16; omega), hexd_at _ (by show _ < 16; omega)]; rfl)
      have i1 : (i : Int) < 32 := by omega
      replace ho := hid ho
      replace hb := hid hb
      go_wp2_with fail
      go_region_law (refine step_app u8s rfl (.tmp 11) (.tmp 18) rfl w.heap.size A' _ x.length 2 c' 2 x (hexOf y) rfl rfl rfl rfl (by exact Own.bel ho.out (by exact ⟨rfl, rfl, rfl, by simp, fun k hk => Below.heap_alloc _ _ _ hk⟩)) (by first | exact Rd.lit_ _ _ _ _ _ rfl hlit.out | exact Rd.drew (Rd.lit_ _ _ _ _ _ rfl hlit.out)) (by show _ + 2 ≤ _; omega) (by have := ho.out; have hq := hb.out.size; simp; omega) ?_; intro A2 c2 w2 ho2 hb2)
      all_goals
        go_wp2_with fail
        go_roundw
        case rel =>
          refine ⟨i + 1, A2, c2, by omega, by go_num, by rw [E.out, List.length_append], by rw [E.out]; exact ho2, Below.trans ?_ hb2⟩
          first | exact (hb.out.alloc hb.out.size _).drew | exact (hb.out.drew).alloc hb.out.size _
        case measure => simp [intOf]; omega
    · as_aux_lemma =>
      obtain rfl : i = 32 := by omega
      have hx : d.take 32 = d := List.take_of_length_le (by rw [hd.out]; omega)
      rw [hx] at ho ⊢
      have k1 := run_conv_str u8s underU8 9 underStr ho.rd (hexL d).length c' rfl
      replace ho := hid ho
      go_wp2_with fail
      go_ret
      exact ⟨rfl, hb⟩
end Go.Proofs.YtbindnoncghjjaaDoor
