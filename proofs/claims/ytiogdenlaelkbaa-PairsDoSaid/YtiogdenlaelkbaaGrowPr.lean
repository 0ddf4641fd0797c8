/-
  The library's slices.Grow at rows of pairs: the kit's contract over its closure; slices.Concat of such rows.
-/
import Derived.Shelf.Spec.SlicesGrow
import Derived.Test.YtiogdenlaelkbaaPairB
import Derived.Test.YtiogdenlaelkbaaPairsA
namespace Go.Proofs.Ytiogdenlaelkbaa
open Go.RowKit Go.Shelf
set_option linter.unusedVariables false
set_option linter.unusedSimpArgs false

def renG : Ren where
  f := fun x => match x with
    | 4 => 38
    | y => y
  t := fun x => match x with
    | 0 => 0
    | 3 => 3
    | 4 => 4
    | 9 => 9
    | 20 => 20
    | 22 => 22
    | 25 => 46
    | y => y
  g := fun x => x
theorem laysG : Lays8.n4 Try.prog renG where
  mixed := by kernel_rfl
  f4 := ⟨Try.f38.name, by kernel_rfl, by kernel_rfl⟩
  t0 := Try.underlying0
  a0 := Try.isAgg0
  z0 := Try.sizeOf0
  v0 := Try.zeroValue0
  t3 := Try.underlying3
  a3 := Try.isAgg3
  z3 := Try.sizeOf3
  v3 := Try.zeroValue3
  t4 := Try.underlying4
  a4 := Try.isAgg4
  z4 := Try.sizeOf4
  v4 := Try.zeroValue4
  t9 := Try.underlying9
  a9 := Try.isAgg9
  z9 := Try.sizeOf9
  v9 := Try.zeroValue9
  t20 := Try.underlying20
  a20 := Try.isAgg20
  z20 := Try.sizeOf20
  v20 := Try.zeroValue20
  t22 := Try.underlying22
  a22 := Try.isAgg22
  z22 := Try.sizeOf22
  v22 := Try.zeroValue22

/-- The nil slice grown: nil again, or an empty row of the call's own. -/
theorem grow_nil (n : Nat) (w : World) (hn : n ≤ 1000000000) :
    Calls Try.prog 38 #[.slice none 0 0, .int .i64 (n : Int)] w fun e w' => ∃ A' c', e = .returned (.slice A' 0 c') ∧ w'.ownsRow w.heap.size 46 33 (.slice A' 0 c') 0 [] ∧ Below w.heap.size w w' := by
  rcases Nat.eq_zero_or_pos n with h0 | h0
  · subst h0
    refine (Any8.slices_Grow_room laysG none 0 0 0 w (by omega) (by omega) (by omega) (by omega)).mono ?_
    rintro e w' ⟨rfl, rfl⟩
    exact ⟨none, 0, rfl, World.ownsRow_nil _ _ _ _, Below.refl _ _⟩
  · obtain ⟨i, hi, hz, hsz, hby⟩ := info_parts slotPr.info
    have hzs := slotPr.zero
    refine (Any8.slices_Grow_grow laysG i zPr hi hz (by rw [hsz]; decide) none 0 0 n [] w (by omega) (by omega) (by rw [hby]; omega) (by omega) (by simp) (fun _ => rfl) (fun a h => by cases h)).mono ?_
    rintro e w' ⟨rfl, rfl⟩
    refine ⟨_, _, rfl, ⟨rfl, .inr ⟨w.heap.size, _, _, rfl, Nat.le_refl _, heap_alloc_new w.drew _, Nat.zero_le _, grownCap_le_maxLen _ _ _ _ (by unfold maxLen; omega), ?_, by simp⟩⟩, (bel_drew w).trans (ext_alloc w.drew _)⟩
    have hge := grownCap_ge w (0 + n) 0 46
    have hz33 : zPr.cells.size = 33 := hzs
    simp only [Array.size_append, List.size_toArray, size_zeroCells, List.length_nil, hz33]
    rw [Nat.zero_add, Nat.sub_zero, ← Nat.add_mul]
    congr 1
    have : renG.t 25 = 46 := rfl
    rw [this]
    simp only [Nat.zero_add] at hge ⊢
    omega

/-- Slices of pairs, each with its address and capacity. -/
abbrev Pcs : Type := List ((Option Addr × Nat) × List Pr)
def allP (l : Pcs) : List Pr := (l.map (·.2)).flatten
theorem allP_take {l : Pcs} {j : Nat} (h : j < l.length) : allP (l.take (j + 1)) = allP (l.take j) ++ l[j].2 := by
  unfold allP
  rw [List.take_succ_eq_append_getElem h, List.map_append, List.flatten_append]
  simp
theorem allP_take_le (l : Pcs) (j : Nat) : (allP (l.take j)).length ≤ (allP l).length := by
  have h : allP l = allP (l.take j) ++ allP (l.drop j) := by
    unfold allP
    rw [← List.flatten_append, ← List.map_append, List.take_append_drop]
  rw [h, List.length_append]; omega

set_option maxRecDepth 100000 in
set_option maxHeartbeats 1600000 in
theorem concat_any (F : Nat → Prop) (g : Nat) (l : Pcs) (w : World) (hcells : ∀ j x, l[j]? = some x → w.cell? ⟨g, j, none⟩ = some (.slice x.1.1 x.2.length x.1.2)) (hsrc : ∀ x ∈ l, Src F w x.1.1 x.2)
    (hF : ∀ b, F b → b < w.heap.size) (hl : l.length ≤ 1000) (hn : (allP l).length ≤ 1000000) :
    Calls Try.prog 27 #[.slice (some ⟨g, 0, none⟩) l.length l.length] w fun e w' => ∃ A' c', e = .returned (.slice A' (allP l).length c') ∧ RowO 46 F w' w.heap.size A' c' (allP l) ∧ Below w.heap.size w w' := by
  obtain ⟨res, hres⟩ : ∃ r, allP l = r := ⟨_, rfl⟩
  have hle := fun j => allP_take_le l j
  rw [hres] at hn hle ⊢
  replace hres := hid hres
  replace hle := hid hle
  replace hcells := hid hcells
  replace hsrc := hid hsrc
  go_enter Try.func27, Try.ntmps27
  go_wp2
  go_loop [3, 11] (fun s i => ∃ j : Nat, j ≤ l.length ∧ i = .int .i64 j ∧ s = .int .i64 ((allP (l.take j)).length : Int)) (fun _ i => l.length - (intOf i).toNat)
  case atStart => exact ⟨0, Nat.zero_le _, rfl, rfl⟩
  case round =>
    obtain ⟨j, hj, rfl, rfl⟩ := hrel
    by_cases hlt : j < l.length
    · have hc := hcells.out j _ (List.getElem?_eq_getElem hlt)
      have hb1 := hle.out (j + 1)
      obtain ⟨x, hx⟩ : ∃ x, (allP (l.take j)).length = x := ⟨_, rfl⟩
      have E : Hid (((allP (l.take (j + 1))).length) = x + l[j].2.length) := by
        show _ = _
        rw [allP_take hlt, List.length_append, hx]
      rw [E.out] at hb1
      rw [hx]
      clear hx
      generalize l[j].2 = q at *
      generalize l[j].1.1 = A at *
      generalize l[j].1.2 = cc at *
      go_wp2
      go_round
      case rel => exact ⟨j + 1, by omega, by go_num, by rw [E.out]; go_num⟩
      case measure => simp [intOf]; omega
    · obtain rfl : j = l.length := by omega
      rw [List.take_length, hres.out]
      go_wp2_with fail
      refine (grow_nil res.length w (by omega)).mono ?_
      rintro e w1 ⟨A1, c1, rfl, ho1, hb1⟩
      have hR : RowO 46 F w1 w.heap.size A1 c1 ([] : List Pr) := ⟨[], rfl, ho1, fun j x vs h => by simp at h, fun a ha hf => by
        have h1 := (World.ownsRow.lt ho1 a.block (by rw [ha]; rfl)).1
        have h2 := hF _ hf
        omega⟩
      clear ho1
      go_wp2
      go_loopw [6, 27] (fun v i wr => ∃ (j : Nat) (A' : Option Addr) (c' : Nat), j ≤ l.length ∧ i = .int .i64 j ∧ v = .slice A' (allP (l.take j)).length c' ∧ RowO 46 F wr w.heap.size A' c' (allP (l.take j)) ∧ Below w.heap.size w wr) (fun _ i _ => l.length - (intOf i).toNat)
      case atStart => exact ⟨0, A1, c1, Nat.zero_le _, rfl, rfl, hR, hb1⟩
      case round =>
        obtain ⟨j, A2, c2, hj2, rfl, rfl, ho, hb⟩ := hrel
        by_cases hlt2 : j < l.length
        · have hc := hcells.out j _ (List.getElem?_eq_getElem hlt2)
          have hc2 := (hb.cell (p := ⟨g, j, none⟩) (World.block_lt_of_cell? _ _ hc)).trans hc
          have hs := (hsrc.out _ (List.getElem_mem hlt2)).bel hb
          have hb2 := hle.out (j + 1)
          have E := hid (allP_take hlt2)
          have hbs := hb.size
          rw [E.out, List.length_append] at hb2
          clear hc hR
          generalize hy : allP (l.take (j + 1)) = y at *
          replace hy := hid hy
          generalize allP (l.take j) = x at *
          generalize l[j].2 = q at *
          generalize l[j].1.1 = A at *
          generalize l[j].1.2 = cc at *
          replace hb2 := hid hb2
          go_wp2_with (first
            | (at_builtin; refine wpList_appR slotPr rfl (.tmp 31) (.tmp 32) rfl F w.heap.size A2 A x.length q.length c2 cc x q rfl rfl rfl rfl ho hs (fun b hf => Nat.lt_of_lt_of_le (hF b hf) hbs) (by have := hb2.out; omega) hbs ?_; intro A3 c3 w3 ho3 hb3))
          rw [← E.out] at ho3
          go_roundw
          case rel =>
            have hl2 : x.length + q.length = y.length := by rw [E.out, List.length_append]
            rw [hl2]
            rw [← hy.out] at ho3 ⊢
            exact ⟨j + 1, A3, c3, by omega, by go_num, rfl, ho3, hb.trans hb3⟩
          case measure => simp [intOf]; omega
        · obtain rfl : j = l.length := by omega
          rw [List.take_length, hres.out] at ho ⊢
          go_wp2
          go_ret
          exact ⟨A2, c2, rfl, ho, hb⟩
end Go.Proofs.Ytiogdenlaelkbaa
