/-
  Whatever the key and the number, the Go function PathTurns returns true and its arguments read as before: a bit turned twice is as it was; turned once, the two share just the bits ahead of it, and the one with 0 there is ahead; all bits together are the key.
  Conditions: none. The frame around the walk was written by program (proof-skeleton.mjs).
-/
import Derived.Test.YtcnehjnphfmhjaaRows
import Derived.WalkKit
import Derived.ProofKit
import Derived.OpenShut
import Derived.ShutString
import Derived.ChangeOld
import Derived.Below
import Derived.Test.YtcnehjnphfmhjaaAlive04
import Derived.Test.YtcnehjnphfmhjaaRef04
import Derived.Test.YtcnehjnphfmhjaaEqG
import Derived.Test.YtcnehjnphfmhjaaDigArg
namespace Go.Proofs.Ytcnehjnphfmhjaa.pathTurns
open Go.ChangeShapes Go.WideShapes Go.ChangeAt Go.RowKit
open Go.ChangeMaps (open_string shut_string)
set_option linter.unusedVariables false

theorem own : ownKnob Try.prog.godebug = none := by kernel_rfl
theorem laidOut : laidOutB Try.prog = true := by kernel_rfl

/-- WHAT THE WALK IS TOLD OF A SLICE OF INTEGERS THAT CAME IN: it is nil; or it leads to a row of 'cap' cells, the numbers 'zs' (the first 'len' are its elements, the rest its spare room), each fitting its kind. -/
def IsRow (k : IntKind) (w : World) (a : Option Addr) (len cap : Nat) (zs : List Int) : Prop :=
  (a = none ∧ len = 0 ∧ cap = 0 ∧ zs = []) ∨
  ∃ x, a = some x ∧ len ≤ cap ∧ cap ≤ maxLen ∧ zs.length = cap ∧ (∀ i, i < zs.length → w.cell? (x.add i) = some (.int k (zs.getD i 0))) ∧ ∀ n ∈ zs, (Lit.int k n).wf = true

/-! ### the walk -/
open Go.Proofs.Ytcnehjnphfmhjaa
set_option linter.unusedSimpArgs false
theorem asm_lt (l : List UInt8) (j : Nat) (hj : j < 256) : ((asm l j).getD (j / 8) 0).toNat < 128 := by
  rw [asm_get l j (j / 8) (by omega), UInt8.toNat_ofNat']
  have hx := (l.getD (j / 8) 0).toNat_lt
  generalize (l.getD (j / 8) 0).toNat = x at *
  rw [show 8 - min 8 (j - 8 * (j / 8)) = (7 - j % 8) + 1 by omega, Nat.pow_succ, Nat.mul_comm, ← Nat.div_div_eq_div_mul]
  have h1 : x / 2 / 2 ^ (7 - j % 8) ≤ x / 2 := Nat.div_le_self _ _
  have h2 : x / 2 / 2 ^ (7 - j % 8) % 2 ^ 8 ≤ x / 2 / 2 ^ (7 - j % 8) := Nat.mod_le _ _
  omega
theorem bitV_in (l : List UInt8) (j : Nat) (h : j < 256) : (bitV l (j : Int) : Int) = (kb l j : Int) := by unfold bitV; rw [if_pos ⟨by omega, by omega⟩]; rfl
theorem bitE_in (j : Nat) (h : j < 256) : bitE (j : Int) = 0 := by unfold bitE; rw [if_pos ⟨by omega, by omega⟩]
set_option maxRecDepth 100000 in
set_option maxHeartbeats 20000000 in
theorem walk (l0 : List UInt8) (a1 : Int) (w : World) (w0 : l0.length = 32) (w1 : (Lit.int .i64 a1).wf = true) :
    Calls Try.prog 6 #[.agg (l0.map bv).toArray, .int .i64 a1] w fun e w' => e = .returned (.bool true) ∧ Below w.heap.size w w' := by
  have hu := Try.underlying26
  have z0 : ((l0.map bv).toArray).size = 32 := by simp [w0]
  have hd0 := heap_alloc_new w (.cells (l0.map bv).toArray 26)
  have W0 := ext_alloc w (.cells (l0.map bv).toArray 26)
  go_enter Try.func6, Try.ntmps6
  go_wp2_with fail
  refine (alive4_any _).mono ?_
  rintro e W1 ⟨rfl, hb⟩
  replace hd0 := (hb.block _ (block_lt hd0)).trans hd0
  have WW := ext_trans W0 hb
  clear W0 hb
  by_cases hi : 0 ≤ a1 ∧ a1 < 256
  · obtain ⟨hi1, hi2⟩ := hi
    obtain ⟨n, rfl⟩ := Int.eq_ofNat_of_zero_le hi1
    have hn : n < 256 := by omega
    have eE : bitE (n : Int) = 0 := by unfold bitE; rw [if_pos ⟨hi1, hi2⟩]
    have eT : turnV l0 (n : Int) = turn l0 n := by unfold turnV; rw [if_pos ⟨hi1, hi2⟩]; rfl
    have eV : (bitV l0 (n : Int) : Int) = (kb l0 n : Int) := by unfold bitV; rw [if_pos ⟨hi1, hi2⟩]; rfl
    have lx : (turn l0 n).length = 32 := by rw [turn_length, w0]
    have eT2 : turnV (turn l0 n) (n : Int) = l0 := by unfold turnV; rw [if_pos ⟨hi1, hi2⟩]; exact turn_turn l0 n w0 hn
    have hsh := turn_shared l0 n w0 hn
    have hah := turn_ahead l0 n w0 hn
    have hkl := kb_lt l0 n
    have hb0 := fun j => asm_lt l0 j
    have hst := fun j => asm_step l0 j
    have hal := asm_all l0 w0
    have p1 := fun w => PTurn_is l0 (n : Int) _ _ _ w rfl w0 eT eE
    have p2 := fun w => PTurn_is (turn l0 n) (n : Int) _ _ _ w rfl lx eT2 eE
    have p3 := fun w => PBit_is l0 (n : Int) _ _ _ w rfl w0 eV eE
    have hah2 : ahead l0 (turn l0 n) = ((kb l0 n : Int) == 0) := by
      rw [hah, Bool.eq_iff_iff, decide_eq_true_eq, beq_iff_eq]; omega
    have p4 := fun w => PShared_is l0 (turn l0 n) _ _ (n : Int) w rfl rfl w0 lx (by rw [hsh])
    have p5 := fun w => PAhead_is l0 (turn l0 n) _ _ _ w rfl rfl w0 lx hah2
    clear eE eT eV eT2 hsh hah hah2
    generalize turn l0 n = xs at *
    generalize kb l0 n = kk at *
    have zx : ((xs.map bv).toArray).size = 32 := by simp [lx]
    have ax := bvs_all xs
    have a0 := bvs_all l0
    have q := fun w => eq_dig l0 w0 w
    replace p1 := hid p1
    replace p2 := hid p2
    replace p3 := hid p3
    replace p4 := hid p4
    replace p5 := hid p5
    replace hst := hid hst
    replace hal := hid hal
    replace hb0 := hid hb0
    go_wp2_with ((with_reducible refine wpList_load_rowg rfl 26 (.tmp 2) rfl w.heap.size rfl 26 ((l0.map bv).toArray) (0, 0) _ ?_ hu rfl ?_ ?_); exact hd0; (rw [z0]; exact size32))
    refine (p1.out _).mono ?_
    rintro e W2 ⟨rfl, hb⟩
    replace hd0 := (hb.block _ (block_lt hd0)).trans hd0
    replace WW := ext_trans WW hb
    clear hb p1
    have hz2 := heap_alloc_new W2 (.cells z32 26)
    go_wp2_with (first
      | (with_reducible refine wpList_alloc_row rfl 26 rfl z32 info32 ?_)
      | ((with_reducible refine wpList_store_row rfl 26 (.tmp 6) (.tmp 21) rfl _ ((xs.map bv).toArray) rfl rfl 26 z32 ?_ ?_ ?_ ?_ ?_); exact hz2; (rw [zx]; exact size32); (rw [zx]; exact z32_size); exact ax; intro w6 hg6 hb6 hs6)
      | ((with_reducible refine wpList_load_rowg rfl 26 (.tmp 6) rfl W2.heap.size rfl 26 ((xs.map bv).toArray) (0, 0) _ ?_ hu rfl ?_ ?_); exact hg6; (rw [zx]; exact size32)))
    have hn0 := block_lt hd0
    replace hd0 := ((hb6.block _ (by simp; omega) (by intro e; injection e with e; omega)).trans ((Below.heap_alloc _ _ _ (block_lt hd0)).trans hd0))
    replace WW := ext_trans WW ((ext_alloc W2 (.cells z32 26)).grown hb6 (by simp) (by intro k hk; injection hk with hk; omega))
    clear hb6 hs6 hz2 hn0
    refine (p2.out _).mono ?_
    rintro e W3 ⟨rfl, hb⟩
    replace hd0 := (hb.block _ (block_lt hd0)).trans hd0
    replace hg6 := (hb.block _ (block_lt hg6)).trans hg6
    replace WW := ext_trans WW hb
    clear hb p2
    generalize W2.heap.size = b6 at *
    have hz3 := heap_alloc_new W3 (.cells z32 26)
    go_wp2_with (first
      | (with_reducible refine wpList_alloc_row rfl 26 rfl z32 info32 ?_)
      | ((with_reducible refine wpList_store_row rfl 26 (.tmp 8) (.tmp 35) rfl _ ((l0.map bv).toArray) rfl rfl 26 z32 ?_ ?_ ?_ ?_ ?_); exact hz3; (rw [z0]; exact size32); (rw [z0]; exact z32_size); exact a0; intro w8 hg8 hb8 hs8)
      | ((with_reducible refine wpList_load_rowg rfl 26 (.tmp 2) rfl w.heap.size rfl 26 ((l0.map bv).toArray) (0, 0) _ ?_ hu rfl ?_ ?_); exact ((hb8.block _ (by have := block_lt hd0; simp; omega) (by intro e; injection e with e; have := block_lt hd0; omega)).trans ((Below.heap_alloc _ _ _ (block_lt hd0)).trans hd0)); (rw [z0]; exact size32)))
    have hn0 := block_lt hd0
    have hn6 := block_lt hg6
    replace hd0 := ((hb8.block _ (by simp; omega) (by intro e; injection e with e; omega)).trans ((Below.heap_alloc _ _ _ (block_lt hd0)).trans hd0))
    replace hg6 := ((hb8.block _ (by simp; omega) (by intro e; injection e with e; omega)).trans ((Below.heap_alloc _ _ _ (block_lt hg6)).trans hg6))
    replace WW := ext_trans WW ((ext_alloc W3 (.cells z32 26)).grown hb8 (by simp) (by intro k hk; injection hk with hk; omega))
    clear hb8 hs8 hz3 hn0 hn6
    refine (p3.out _).mono ?_
    rintro e W4 ⟨rfl, hb⟩
    replace hd0 := (hb.block _ (block_lt hd0)).trans hd0
    replace hg6 := (hb.block _ (block_lt hg6)).trans hg6
    replace hg8 := (hb.block _ (block_lt hg8)).trans hg8
    replace WW := ext_trans WW hb
    clear hb p3
    generalize W3.heap.size = b8 at *
    have hz4 := heap_alloc_new W4 (.cells z32 26)
    have hn0 := block_lt hd0
    have hn6 := block_lt hg6
    have hn8 := block_lt hg8
    replace hd0 := (Below.heap_alloc _ (.cells z32 26) _ (block_lt hd0)).trans hd0
    replace hg6 := (Below.heap_alloc _ (.cells z32 26) _ (block_lt hg6)).trans hg6
    replace hg8 := (Below.heap_alloc _ (.cells z32 26) _ (block_lt hg8)).trans hg8
    have hle := WW.size
    replace WW := ext_trans WW (ext_alloc W4 (.cells z32 26))
    go_wp2_with (with_reducible refine wpList_alloc_row rfl 26 rfl z32 info32 ?_)
    generalize (W4.alloc (.cells z32 26)) = W5 at *
    generalize W4.heap.size = b12 at *
    have hz5 : W5.heap[b12]? = some (.cells (((asm l0 0).map bv).toArray) 26 (0, 0)) := by rw [asm_zero]; exact hz4
    clear hz4
    go_loopw [13] (fun i wr => ∃ j : Nat, j ≤ 256 ∧ i = .int .i64 (j : Int) ∧ Below w.heap.size w wr ∧ wr.heap[w.heap.size]? = some (.cells (l0.map bv).toArray 26 (0, 0)) ∧ wr.heap[b6]? = some (.cells (xs.map bv).toArray 26 (0, 0)) ∧ wr.heap[b8]? = some (.cells (l0.map bv).toArray 26 (0, 0)) ∧ wr.heap[b12]? = some (.cells (((asm l0 j).map bv).toArray) 26 (0, 0))) (fun i _ => 256 - (intOf i).toNat)
    case atStart => exact ⟨0, Nat.zero_le _, rfl, WW, hd0, hg6, hg8, hz5⟩
    case round =>
      clear hd0 hg6 hg8 hz5 WW
      obtain ⟨j, hj, rfl, WW, hd0, hg6, hg8, hg12⟩ := hrel
      by_cases hlt : j < 256
      · as_aux_lemma =>
        have hj1 : (j : Int) < 256 := by omega
        have hq8 := tdiv8 j
        have hs1 := hst.out j hlt
        have hs2 := hb0.out j hlt
        have hla := asm_length l0 j
        have pb := PBit_is l0 (j : Int) _ _ _ wr rfl w0 (bitV_in l0 j hlt) (bitE_in j hlt)
        have hkj := kb_lt l0 j
        have hdg := dget (asm l0 j) (j / 8) (by omega)
        have hqb : j / 8 < 32 := by omega
        generalize kb l0 j = b at *
        generalize (asm l0 j).getD (j / 8) 0 = c at *
        generalize asm l0 j = am at *
        generalize j / 8 = qq at *
        have hvb : (UInt8.ofNat (2 * c.toNat + b)).toNat = 2 * c.toNat + b := by rw [UInt8.toNat_ofNat', Nat.mod_eq_of_lt (by simp; omega)]
        replace hs1 := hid hs1
        replace pb := hid pb
        have hgt : ¬ (1 < (b : Int)) := by omega
        go_wp2_with ((with_reducible refine wpList_load_rowg rfl 26 (.tmp 2) rfl w.heap.size rfl 26 ((l0.map bv).toArray) (0, 0) _ ?_ hu rfl ?_ ?_); exact hd0; (rw [z0]; exact size32))
        refine pb.out.mono ?_
        rintro e W7 ⟨rfl, hb⟩
        replace hd0 := (hb.block _ (block_lt hd0)).trans hd0
        replace hg6 := (hb.block _ (block_lt hg6)).trans hg6
        replace hg8 := (hb.block _ (block_lt hg8)).trans hg8
        replace hg12 := (hb.block _ (block_lt hg12)).trans hg12
        replace WW := ext_trans WW hb
        have hcl := block_cell hg12 qq
        rw [hdg] at hcl
        have hfz := block_frozen hg12 qq
        have hst2 := block_bset (l := am) hg12 qq (UInt8.ofNat (2 * c.toNat + b))
        rw [hs1.out] at hst2
        have hbv : bv (UInt8.ofNat (2 * c.toNat + b)) = .int .u8 (2 * (c.toNat : Int) + (b : Int)) := by unfold bv; rw [hvb]; congr 1
        rw [hbv] at hst2
        have hst2 := hid hst2
        clear hb pb hdg hg12 hbv hvb
        go_wp2
        go_roundw
        case rel =>
          refine ⟨j + 1, by omega, by go_num, WW.setCell (p := ⟨b12, qq, none⟩) hle _, ?_, ?_, ?_, hst2.out⟩
          · exact (Below.heap_setCell _ _ _ _ (by show _ ≠ b12; omega)).trans hd0
          · exact (Below.heap_setCell _ _ _ _ (by show _ ≠ b12; omega)).trans hg6
          · exact (Below.heap_setCell _ _ _ _ (by show _ ≠ b12; omega)).trans hg8
        case measure => simp [intOf]; omega
      · as_aux_lemma =>
        obtain rfl : j = 256 := by omega
        rw [hal.out] at hg12
        go_wp2_with (first
          | ((with_reducible refine wpList_load_rowg rfl 26 (.tmp 8) rfl b8 rfl 26 ((l0.map bv).toArray) (0, 0) _ ?_ hu rfl ?_ ?_); exact hg8; (rw [z0]; exact size32))
          | ((with_reducible refine wpList_load_rowg rfl 26 (.tmp 2) rfl w.heap.size rfl 26 ((l0.map bv).toArray) (0, 0) _ ?_ hu rfl ?_ ?_); exact hd0; (rw [z0]; exact size32))
          | ((with_reducible refine wpList_load_rowg rfl 26 (.tmp 6) rfl b6 rfl 26 ((xs.map bv).toArray) (0, 0) _ ?_ hu rfl ?_ ?_); exact hg6; (rw [zx]; exact size32)))
        refine (p4.out _).mono ?_
        rintro e W8 ⟨rfl, hb⟩
        replace hd0 := (hb.block _ (block_lt hd0)).trans hd0
        replace hg6 := (hb.block _ (block_lt hg6)).trans hg6
        replace hg12 := (hb.block _ (block_lt hg12)).trans hg12
        replace WW := ext_trans WW hb
        clear hb
        go_wp2_with (first
          | ((with_reducible refine wpList_load_rowg rfl 26 (.tmp 2) rfl w.heap.size rfl 26 ((l0.map bv).toArray) (0, 0) _ ?_ hu rfl ?_ ?_); exact hd0; (rw [z0]; exact size32))
          | ((with_reducible refine wpList_load_rowg rfl 26 (.tmp 6) rfl b6 rfl 26 ((xs.map bv).toArray) (0, 0) _ ?_ hu rfl ?_ ?_); exact hg6; (rw [zx]; exact size32))
          | ((with_reducible refine wpList_load_rowg rfl 26 (.tmp 12) rfl b12 rfl 26 ((l0.map bv).toArray) (0, 0) _ ?_ hu rfl ?_ ?_); exact hg12; (rw [z0]; exact size32)))
        refine (p5.out _).mono ?_
        rintro e W9 ⟨rfl, hb⟩
        replace hd0 := (hb.block _ (block_lt hd0)).trans hd0
        replace hg6 := (hb.block _ (block_lt hg6)).trans hg6
        replace hg12 := (hb.block _ (block_lt hg12)).trans hg12
        replace WW := ext_trans WW hb
        clear hb
        go_wp2_with (first
          | ((with_reducible refine wpList_load_rowg rfl 26 (.tmp 2) rfl w.heap.size rfl 26 ((l0.map bv).toArray) (0, 0) _ ?_ hu rfl ?_ ?_); exact hd0; (rw [z0]; exact size32))
          | ((with_reducible refine wpList_load_rowg rfl 26 (.tmp 6) rfl b6 rfl 26 ((xs.map bv).toArray) (0, 0) _ ?_ hu rfl ?_ ?_); exact hg6; (rw [zx]; exact size32))
          | ((with_reducible refine wpList_load_rowg rfl 26 (.tmp 12) rfl b12 rfl 26 ((l0.map bv).toArray) (0, 0) _ ?_ hu rfl ?_ ?_); exact hg12; (rw [z0]; exact size32)))
        go_ret
        exact ⟨rfl, WW⟩
  · have eE : bitE a1 = 2 := by unfold bitE; rw [if_neg hi]
    have eT : turnV l0 a1 = List.replicate 32 0 := by unfold turnV; rw [if_neg hi]
    obtain ⟨zs, hzs⟩ : ∃ zs, zs = ((List.replicate 32 (0 : UInt8)).map bv).toArray := ⟨_, rfl⟩
    have zz : zs.size = 32 := by rw [hzs]; rfl
    have az : zs.all (·.oneCell') = true := by rw [hzs]; decide +kernel
    have q0 : ∀ w, (Op.equalIn 10000 26 (.agg zs) (.agg #[.int .u8 0, .int .u8 0, .int .u8 0, .int .u8 0, .int .u8 0, .int .u8 0, .int .u8 0, .int .u8 0, .int .u8 0, .int .u8 0, .int .u8 0, .int .u8 0, .int .u8 0, .int .u8 0, .int .u8 0, .int .u8 0, .int .u8 0, .int .u8 0, .int .u8 0, .int .u8 0, .int .u8 0, .int .u8 0, .int .u8 0, .int .u8 0, .int .u8 0, .int .u8 0, .int .u8 0, .int .u8 0, .int .u8 0, .int .u8 0, .int .u8 0, .int .u8 0])).run Try.prog w = .ok true w := fun w => by rw [hzs]; exact eq_dig (List.replicate 32 0) rfl w
    have p1 := fun w => PTurn_is l0 a1 _ _ _ w rfl w0 eT eE
    replace p1 := hid p1
    clear eE eT hi
    go_wp2_with ((with_reducible refine wpList_load_rowg rfl 26 (.tmp 2) rfl w.heap.size rfl 26 ((l0.map bv).toArray) (0, 0) _ ?_ hu rfl ?_ ?_); exact hd0; (rw [z0]; exact size32))
    refine (p1.out _).mono ?_
    rintro e W2 ⟨rfl, hb⟩
    rw [← hzs]
    replace hzs := trivial
    replace WW := ext_trans WW hb
    clear hb p1 hd0
    have hz2 := heap_alloc_new W2 (.cells z32 26)
    go_wp2_with (first
      | (with_reducible refine wpList_alloc_row rfl 26 rfl z32 info32 ?_)
      | ((with_reducible refine wpList_store_row rfl 26 (.tmp 6) (.tmp 21) rfl _ zs rfl rfl 26 z32 ?_ ?_ ?_ ?_ ?_); exact hz2; (rw [zz]; exact size32); (rw [zz]; exact z32_size); exact az; intro w6 hg6 hb6 hs6)
      | ((with_reducible refine wpList_load_rowg rfl 26 (.tmp 6) rfl W2.heap.size rfl 26 zs (0, 0) _ ?_ hu rfl ?_ ?_); exact hg6; (rw [zz]; exact size32)))
    go_ret
    exact ⟨rfl, ext_trans WW ((ext_alloc W2 (.cells z32 26)).grown hb6 (by simp) (by intro k hk; injection hk with hk; omega))⟩

/-! ### THE ROW's STEP: WRITTEN OUT: LEAVE IT -/
set_option maxRecDepth 100000 in
theorem lifted (os : Os) (started : os.Started) (H : Type) (enc : TypeId × Value → H) :
    ReturnsInHanded {} Try.checked os 6 .any (Rows.pathTurnsSpec.pre6 enc Try.prog Try.f6 Rows.pathTurnsRow.domain false) (Rows.pathTurnsSpec.post enc Try.prog Try.f6 false true false false) := by
  refine returnsInHanded_of_change (C := Try.checked) own started (by kernel_rfl) Try.func6
    (ChangeSpec.witness6 (enc := enc) (C := Try.checked) false ⟨#[], #[.agg z32, .int .i64 0], []⟩ 8 (by kernel_rfl) (by kernel_rfl) (by kernel_rfl) (by kernel_rfl)) ?_
  intro W base args ds gs before hval0 hW hcnd _
  have hval : ∀ (j : Nat) t v, Try.f6.params[j]? = some t → args[j]? = some v → Value.okWide Try.prog W .any base t v := hval0
  have hW' := hW
  obtain ⟨p, q, hA0, hV, rfl, hfz, hnd⟩ := hW
  have hA : DataW.TrodAll enc Try.prog W 0 (fun _ => true) true Try.f6.params.toList args.toList ds p := hA0
  rw [Try.params6] at hA hval
  obtain ⟨v0, vs0, d0, ds0, p0, q0, hargs, rfl, rfl, h0, r0⟩ := trodAll_cons hA
  obtain ⟨v1, vs1, d1, ds1, p1, q1, rfl, rfl, rfl, h1, r1⟩ := trodAll_cons r0
  obtain ⟨rfl, rfl, rfl⟩ := trodAll_nil r1
  obtain rfl : args = #[v0, v1] := by cases args; simp_all
  obtain ⟨rfl, rfl⟩ := trodVars_none hV
  have k0 := h0
  have lt0 : ∀ x ∈ p0, x.block < W.heap.size := by obtain ⟨m, hm⟩ := k0; exact DataW.trod_lt m _ _ _ hm
  obtain ⟨l0, w0, rfl⟩ := open_dig Try.underlying26 Try.underlying5 cellsByte cellsDig (hval 0 26 v0 rfl rfl) h0
  obtain ⟨a1, rfl, rfl, rfl, w1⟩ := open_int Try.underlying3 (hval 1 3 v1 rfl rfl) h1
  clear hA0 hval0
  refine (walk l0 a1 W w0 w1).mono fun e W' ⟨he, bel⟩ => ?_
  subst he
  exact ⟨_, rfl, _, _, _, [], _, [], hW', trodAll_mk1 (shut_bool Try.underlying4 _), (trodAll_cons_mk (Below.trod laidOut (by kernel_rfl) (of_decide_eq_true (by kernel_rfl)) k0 bel lt0) (trodAll_cons_mk (shut_int Try.underlying3 w1) trodAll_mk0)), rfl, bel.frame _, fun h => by cases h⟩

theorem over : Rows.pathTurnsRow.holds Try.pinned (OpenSpec.ofChange Rows.pathTurnsSpec) :=
  OpenClaim.holds_of_wide 6 Try.f6 rfl rfl rfl rfl rfl rfl rfl ⟨rfl, rfl, rfl, rfl, rfl⟩ rfl rfl rfl rfl rfl (by kernel_rfl) Try.func6 (by kernel_rfl)
    (of_decide_eq_true (by kernel_rfl)) (by unfold Func.isWrapper; first | (rw [if_pos (by decide +kernel)]; kernel_rfl) | (rw [if_neg (by decide +kernel)]; exact ⟨rfl, rfl⟩))
    (fun os started H enc _ => lifted os started H enc)

/-- ████ THE STATEMENT ████ -/
theorem proved : Rows.PathTurnsSaid := over
#print axioms proved
end Go.Proofs.Ytcnehjnphfmhjaa.pathTurns
