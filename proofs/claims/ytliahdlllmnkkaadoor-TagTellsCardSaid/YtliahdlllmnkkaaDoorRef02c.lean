/-
  The document's padding.
-/
import Derived.Test.YtliahdlllmnkkaaDoorRef02
namespace Go.Proofs.YtliahdlllmnkkaaDoor
open Go.RowKit
set_option linter.unusedVariables false

def z8 : Array Value := ((List.replicate 8 (0 : UInt8)).map bv).toArray
theorem info8 : (Tryd.prog.info? 77).map (fun i => (i.zero, i.size)) = some (some (.agg z8), z8.size) := by kernel_rfl

set_option maxHeartbeats 1600000 in
theorem padded_any (A : Option Addr) (c n : Nat) (l : List UInt8) (w : World) (hr : Rd w A l) (hn : n = l.length) (hl : l.length ≤ 1000000) :
    Calls Tryd.prog 37 #[.slice A n c] w fun r w' => ∃ A' c', r = .returned (.slice A' (padded l).length c') ∧ Own 5 w' w.heap.size A' c' (padded l) ∧ Below w.heap.size w w' := by
  subst hn
  have P0 := hid (padP_zero l)
  go_enter Tryd.func37, Tryd.ntmps37
  go_wp2_with (first
    | (at_builtin; refine wpList_app u8s rfl (.tmp 7) (.tmp 8) rfl w.heap.size none A 0 l.length 0 c [] l rfl rfl rfl rfl (Own.nil _ _) hr (by simp; omega) (Nat.le_refl _) ?_; intro A1 c1 w1 ho1 hb1; rw [List.nil_append] at ho1 ⊢)
    | (at_builtin; refine wpList_app u8s rfl (.tmp 10) (.tmp 11) rfl w.heap.size A1 _ l.length 1 c1 1 l [128] rfl rfl rfl rfl (ho1.alloc _) (Rd.lit_ _ _ _ _ _ rfl rfl) (by simp; omega) (by have := hb1.size; simp; omega) ?_; intro A2 c2 w2 ho2 hb2; rw [P0.out] at ho2 ⊢))
  have B2 : Below w.heap.size w w2 := (hb1.alloc hb1.size _).trans hb2
  clear hb1 hb2 ho1
  go_loopw [3] (fun v wr => ∃ (j : Nat) (A' : Option Addr) (c' : Nat), j ≤ padZ l.length ∧ v = .slice A' (padP l j).length c' ∧ Own 5 wr w.heap.size A' c' (padP l j) ∧ Below w.heap.size w wr) (fun v _ => l.length + 65 - (match v with | .slice _ n _ => n | _ => 0))
  case atStart => exact ⟨0, A2, c2, Nat.zero_le _, rfl, ho2, B2⟩
  case round =>
    obtain ⟨j, A', c', hj, rfl, ho, hb⟩ := hrel
    have hz := padZ_lt l.length
    by_cases hlt : j < padZ l.length
    · have ht := padP_test l j hlt
      have P1 := hid (padP_succ l j)
      have L0 := hid (padP_len l j)
      have L1 := hid (padP_len l (j + 1))
      have hlen : (padP l j).length ≤ 2000000 := by rw [padP_len]; omega
      go_wp2_with (at_builtin; refine wpList_app u8s rfl (.tmp 17) (.tmp 18) rfl w.heap.size A' _ _ 1 c' 1 (padP l j) [0] rfl rfl rfl rfl (ho.alloc _) (Rd.lit_ _ _ _ _ _ rfl rfl) (by simp; omega) (by have := hb.size; simp; omega) ?_; intro A3 c3 w3 ho3 hb3; rw [P1.out] at ho3 ⊢)
      go_roundw
      case rel => exact ⟨j + 1, A3, c3, by omega, rfl, ho3, (hb.alloc hb.size _).trans hb3⟩
      case measure => show l.length + 65 - (padP l (j + 1)).length < l.length + 65 - (padP l j).length; rw [L1.out, L0.out]; omega
    · obtain rfl : j = padZ l.length := by omega
      have ht := padP_done l
      have L0 := padP_len l (padZ l.length)
      have hlen : (padP l (padZ l.length)).length ≤ 2000000 := by rw [padP_len]; omega
      have hpad := hid (show padded l = padP l (padZ l.length) ++ be 8 (8 * l.length) from rfl)
      generalize padP l (padZ l.length) = x at *
      clear L0 hlt hj
      go_wp2_with (first
        | (with_reducible refine wpList_alloc_row rfl 77 rfl z8 info8 ?_))
      obtain ⟨N, hN⟩ : ∃ N : Nat, N = 8 * l.length := ⟨_, rfl⟩
      have hN2 : N ≤ 8000000 := by omega
      have hN3 : (8 : Int) * (l.length : Int) = (N : Int) := by omega
      rw [hN3]
      rw [← hN] at hpad
      replace hN := hid hN
      clear hN3
      obtain ⟨wo, rfl⟩ : ∃ wo : World, wo = wr := ⟨_, rfl⟩
      go_loopw [4, 6] (fun v i wr => ∃ k : Nat, k ≤ 8 ∧ i = .int .i64 ((8 : Int) - k - 1) ∧ v = .int .u64 ((N / 256 ^ k : Nat) : Int) ∧ Below wo.heap.size wo wr ∧ wr.heap[wo.heap.size]? = some (.cells ((dcells N 8 k).map bv).toArray 77 (0, 0))) (fun _ i _ => (intOf i + 1).toNat)
      case atStart => exact ⟨0, by omega, rfl, by simp, ext_alloc _ _, by rw [dcells_zero]; exact heap_alloc_new _ _⟩
      case round =>
        obtain ⟨k, hk, rfl, rfl, hbk, hg⟩ := hrel
        by_cases hlt : k < 8
        · have hc := block_bcell hg (8 - k - 1) (by rw [dcells_len _ _ _ hk]; omega)
          have hf := block_frozen hg (8 - k - 1)
          have hqn : N / 256 ^ k < 18446744073709551616 := Nat.lt_of_le_of_lt (Nat.div_le_self _ _) (by omega)
          have e3 := hid (show N / 256 ^ (k + 1) = N / 256 ^ k / 256 by rw [Nat.pow_succ, Nat.div_div_eq_div_mul])
          have e4 := hid (dcells_step N 8 k hlt)
          have e5 := hid (show 8 - k - 1 = 8 - 1 - k by omega)
          generalize N / 256 ^ k = q at *
          go_wp2
          go_roundw
          case rel =>
            refine ⟨k + 1, by omega, by go_num, ?_, hbk.setCell (Nat.le_refl _) _, ?_⟩
            · rw [e3.out]
              go_num
            · rw [← e4.out, e5.out, show Value.int .u8 ((q : Int) % 256) = bv (UInt8.ofNat (q % 256)) from by unfold bv; congr 1; simp]
              exact block_bset hg _ _
          case measure => simp [intOf]; omega
        · obtain rfl : k = 8 := by omega
          rw [dcells_all] at hg
          have ho4 := ho.bel hbk
          have hr4 : Rd wr (some ⟨wo.heap.size, 0, none⟩) (be 8 N) := by
            intro _
            refine ⟨_, 0, rfl, fun j x hx => ?_⟩
            rw [block_cell hg, Nat.zero_add]
            simp [hx]
          have hl8 := be_length 8 N
          have hb4 : Below w.heap.size w wr := hb.trans (hbk.mono hb.size)
          replace hl8 := hid hl8
          clear hg ho hb hbk
          go_wp2_with (at_builtin; refine wpList_app u8s rfl (.tmp 35) (.tmp 36) rfl w.heap.size A' _ x.length 8 c' _ x (be 8 N) rfl rfl rfl hl8.out.symm ho4 hr4 (by rw [hl8.out]; omega) hb4.size ?_; intro A5 c5 w5 ho5 hb5; rw [← hpad.out] at ho5 ⊢)
          go_ret
          exact ⟨_, _, rfl, ho5, hb4.trans hb5⟩
end Go.Proofs.YtliahdlllmnkkaaDoor
