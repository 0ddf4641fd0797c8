/-
  The document's answers for layer 4: Turn.
-/
import Derived.Test.YtnoglodggchgpaaDoorBits
import Derived.Test.YtnoglodggchgpaaDoorMem
import Derived.IntWalk
import Derived.Test.YtnoglodggchgpaaDoorRefD
namespace Go.Proofs.YtnoglodggchgpaaDoor
open Go.RowKit
set_option linter.unusedVariables false
set_option linter.unusedSimpArgs false

theorem tbyte_nat : ∀ c : Fin 256, ∀ p : Fin 8, (tbyte (UInt8.ofNat c.val) p.val).toNat = (if c.val / 2 ^ (7 - p.val) % 2 = 1 then c.val - 2 ^ (7 - p.val) else c.val + 2 ^ (7 - p.val)) ∧ (c.val / 2 ^ (7 - p.val) % 2 = 1 → 2 ^ (7 - p.val) ≤ c.val) ∧ (c.val / 2 ^ (7 - p.val) % 2 ≠ 1 → c.val + 2 ^ (7 - p.val) < 256) := by decide +kernel

set_option maxRecDepth 100000 in
set_option maxHeartbeats 1600000 in
theorem RTurn_any (l : List UInt8) (i : Int) (w : World) (hl : l.length = 32) :
    Calls Tryd.prog 150 #[.agg (l.map bv).toArray, .int .i64 i] w fun r w' => r = .returned (.tuple #[.agg ((turnV l i).map bv).toArray, .int .i64 (bitE i)]) ∧ Below w.heap.size w w' := by
  obtain ⟨ds, hds⟩ : ∃ ds, ds = (l.map bv).toArray := ⟨_, rfl⟩
  have hsz : ds.size = 32 := by rw [hds]; simp [hl]
  have hd1 := heap_alloc_new w (.cells ds 23)
  have hz1 := heap_alloc_new (w.alloc (.cells ds 23)) (.cells z32 23)
  rw [World.size_alloc] at hz1
  have W2 := ext_trans (ext_alloc w (.cells ds 23)) (ext_alloc _ (.cells z32 23))
  unfold turnV bitE
  rw [← hds]
  replace hds := hid hds
  by_cases h : 0 ≤ i ∧ i < 256
  · rw [if_pos h, if_pos h]
    obtain ⟨h1, h2⟩ := h
    obtain ⟨n, rfl⟩ := Int.eq_ofNat_of_zero_le h1
    have hn : n < 256 := by omega
    have hat := fun w => At_any l n w hl hn
    rw [← hds.out] at hat
    have hd2 := (Below.heap_alloc (w.alloc (.cells ds 23)) (.cells z32 23) w.heap.size (by simp)).trans hd1
    obtain ⟨c0, hc0⟩ : ∃ c0, l.getD (n / 8) 0 = c0 := ⟨_, rfl⟩
    have hcl := c0.toNat_lt
    have hdq := dget l (n / 8) (by omega)
    rw [hc0, ← hds.out] at hdq
    have hk : kb l n = c0.toNat / 2 ^ (7 - n % 8) % 2 := by unfold kb; rw [hc0]
    have htn : turn l n = l.set (n / 8) (tbyte c0 (n % 8)) := by unfold turn; rw [hc0]
    have q1 := tdiv8 n
    have q2 := tmod8 n
    have q3 : n / 8 < 32 := by omega
    have q4 : n % 8 < 8 := Nat.mod_lt _ (by omega)
    obtain ⟨t1, t2, t3⟩ := tbyte_nat ⟨c0.toNat, hcl⟩ ⟨n % 8, q4⟩
    simp only [UInt8.ofNat_toNat] at t1 t2 t3
    rw [← hk] at t1 t2 t3
    have hkl := kb_lt l n
    rw [show ((n : Int).toNat) = n by omega, htn]
    clear htn hk hc0 hd1
    generalize n / 8 = q at *
    generalize n % 8 = p at *
    generalize kb l n = k at *
    generalize hx : tbyte c0 p = x at *
    go_enter Tryd.func150, Tryd.ntmps150
    go_wp2_with (first
      | (with_reducible refine wpList_alloc_row rfl 23 rfl z32 info32 ?_))
    generalize ((w.alloc (.cells ds 23)).alloc (.cells z32 23)) = W0 at *
    go_loopw [6, 7] (fun v j wr => ∃ m : Nat, m ≤ 7 - p ∧ v = .int .u8 ((2 ^ m : Nat) : Int) ∧ j = .int .i64 ((7 - m : Nat) : Int) ∧ Below w.heap.size w wr ∧ wr.heap[w.heap.size]? = some (.cells ds 23 (0, 0)) ∧ wr.heap[w.heap.size + 1]? = some (.cells z32 23 (0, 0))) (fun _ j _ => (intOf j).toNat)
    case atStart => exact ⟨0, Nat.zero_le _, by simp, rfl, W2, hd2, hz1⟩
    case round =>
      obtain ⟨m, hm, rfl, rfl, hb, g1, g2⟩ := hrel
      have hm2 : 2 ^ m ≤ 2 ^ 7 := Nat.pow_le_pow_right (by omega) (by omega)
      have hm3 : 2 ^ (m + 1) = 2 * 2 ^ m := by rw [Nat.pow_succ, Nat.mul_comm]
      by_cases hlt : m < 7 - p
      · have hm4 : 2 ^ (m + 1) ≤ 2 ^ 7 := Nat.pow_le_pow_right (by omega) (by omega)
        replace hm3 := hid hm3
        have hm5 : 2 * 2 ^ m ≤ 2 ^ 7 := by rw [← hm3.out]; exact hm4
        simp only [Nat.reducePow] at hm2 hm5
        generalize 2 ^ m = y at *
        clear hm4
        replace g1 := hid g1
        replace g2 := hid g2
        go_wp2
        go_roundw
        case rel => exact ⟨m + 1, by omega, by rw [hm3.out]; simp, by congr 1; omega, hb, g1.out, g2.out⟩
        case measure => simp [intOf]; omega
      · have hmp : 7 - p = m := by omega
        rw [hmp] at t1 t2 t3
        simp only [Nat.reducePow] at hm2
        generalize 2 ^ m = y at *
        go_wp2_with (first
          | ((with_reducible refine wpList_load_row rfl 23 (.tmp 2) rfl w.heap.size rfl 23 ds (0, 0) _ ?_ Tryd.underlying23 rfl ?_ ?_); exact g1; (rw [hsz]; exact size32)))
        refine (hat wr).mono ?_
        rintro e w5 ⟨rfl, hb5⟩
        replace g1 := (hb5.block _ (block_lt g1)).trans g1
        replace g2 := (hb5.block _ (block_lt g2)).trans g2
        have hb5' := hb.trans (hb5.mono hb.size)
        have hcell := block_cell g1 q
        rw [hdq] at hcell
        have hfz := block_frozen g1 q
        have g3 := block_set g1 q (.int .u8 (x.toNat : Int))
        have g4 := (Below.heap_setCell w5 ⟨w.heap.size, q, none⟩ (.int .u8 (x.toNat : Int)) (w.heap.size + 1) (by simp)).trans g2
        have hds2 : ds.setIfInBounds q (.int .u8 (x.toNat : Int)) = ((l.set q x).map bv).toArray := by rw [hds.out]; simp [bv]
        rw [hds2] at g3
        have hsz2 : ((l.set q x).map bv).toArray.size = 32 := by simp [hl]
        have hall := bvs_all (l.set q x)
        clear hds2 g1 g2 hb5 hb hdq hm3 hmp hx
        replace hds := trivial
        by_cases hk1 : k = 1
        · subst hk1
          have t4 := t2 rfl
          rw [if_pos rfl] at t1
          have t5 : ((c0.toNat : Int) - (y : Int)) = (x.toNat : Int) := by omega
          have hxl := x.toNat_lt
          clear t1 t2 t3
          go_wp2_with (first
            | ((with_reducible refine wpList_load_row rfl 23 (.tmp 2) rfl w.heap.size rfl 23 ((l.set q x).map bv).toArray (0, 0) _ ?_ Tryd.underlying23 rfl ?_ ?_); exact g3; (rw [hsz2]; exact size32))
            | ((with_reducible refine wpList_store_row rfl 23 (.tmp 4) (.tmp 41) rfl _ _ rfl rfl 23 z32 ?_ ?_ ?_ ?_ ?_); exact g4; (rw [hsz2]; exact size32); (rw [hsz2]; exact z32_size); exact hall; intro w6 hg6 hb6 hs6))
          refine bodyPost_ret (res_dig rfl _ _ (w.heap.size + 1) _ rfl hg6 hsz2) rfl ⟨rfl, (hb5'.setCell (p := ⟨w.heap.size, q, none⟩) (Nat.le_refl _) _).grown hb6 (Nat.le_trans hb5'.size (by simp [World.setCell])) (by intro k hk; injection hk with hk; omega)⟩
        · have hk0 : k = 0 := by omega
          subst hk0
          have t4 := t3 (by omega)
          rw [if_neg (by omega)] at t1
          have t5 : ((c0.toNat : Int) + (y : Int)) = (x.toNat : Int) := by omega
          have hxl := x.toNat_lt
          clear t1 t2 t3
          go_wp2_with (first
            | ((with_reducible refine wpList_load_row rfl 23 (.tmp 2) rfl w.heap.size rfl 23 ((l.set q x).map bv).toArray (0, 0) _ ?_ Tryd.underlying23 rfl ?_ ?_); exact g3; (rw [hsz2]; exact size32))
            | ((with_reducible refine wpList_store_row rfl 23 (.tmp 4) (.tmp 41) rfl _ _ rfl rfl 23 z32 ?_ ?_ ?_ ?_ ?_); exact g4; (rw [hsz2]; exact size32); (rw [hsz2]; exact z32_size); exact hall; intro w6 hg6 hb6 hs6))
          refine bodyPost_ret (res_dig rfl _ _ (w.heap.size + 1) _ rfl hg6 hsz2) rfl ⟨rfl, (hb5'.setCell (p := ⟨w.heap.size, q, none⟩) (Nat.le_refl _) _).grown hb6 (Nat.le_trans hb5'.size (by simp [World.setCell])) (by intro k hk; injection hk with hk; omega)⟩
  · rw [if_neg h, if_neg h]
    have h3 : i < 0 ∨ 256 ≤ i := by omega
    go_enter Tryd.func150, Tryd.ntmps150
    rcases h3 with h3 | h3
    · go_wp2_with (first
        | (with_reducible refine wpList_alloc_row rfl 23 rfl z32 info32 ?_)
        | ((with_reducible refine wpList_store_row rfl 23 (.tmp 4) (.tmp 14) rfl _ _ rfl rfl 23 z32 ?_ ?_ ?_ ?_ ?_); exact hz1; exact size32; rfl; decide +kernel; intro w4 hg4 hb4 hs4))
      refine bodyPost_ret (res_dig rfl _ _ (w.heap.size + 1) _ rfl hg4 rfl) rfl ⟨rfl, W2.grown hb4 W2.size (by intro k hk; injection hk with hk; omega)⟩
    · go_wp2_with (first
        | (with_reducible refine wpList_alloc_row rfl 23 rfl z32 info32 ?_)
        | ((with_reducible refine wpList_store_row rfl 23 (.tmp 4) (.tmp 14) rfl _ _ rfl rfl 23 z32 ?_ ?_ ?_ ?_ ?_); exact hz1; exact size32; rfl; decide +kernel; intro w4 hg4 hb4 hs4))
      refine bodyPost_ret (res_dig rfl _ _ (w.heap.size + 1) _ rfl hg4 rfl) rfl ⟨rfl, W2.grown hb4 W2.size (by intro k hk; injection hk with hk; omega)⟩
end Go.Proofs.YtnoglodggchgpaaDoor
