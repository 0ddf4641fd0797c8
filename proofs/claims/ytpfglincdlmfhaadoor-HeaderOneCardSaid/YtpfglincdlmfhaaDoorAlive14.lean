/-
  Layer 14's law: the chapter's first example.
-/
import Derived.Test.YtpfglincdlmfhaaDoorHdA
import Derived.Test.YtpfglincdlmfhaaDoorHdQ
import Derived.Test.YtpfglincdlmfhaaDoorBits
import Derived.Test.YtpfglincdlmfhaaDoorStoreB
namespace Go.Proofs.YtpfglincdlmfhaaDoor
open Go.RowKit
set_option linter.unusedVariables false
set_option linter.unusedSimpArgs false
set_option maxRecDepth 100000

def zeD : Dg := ⟨List.replicate 32 0, rfl⟩
def hA : Hd := ⟨258, zeD, zeD, zeD, 3⟩
theorem hA_may : mayH hA = true := rfl
theorem hA_built : Tryd.prog.built 25 [(0, .int .i64 258), (4, .int .i64 3)] = some (hdC hA).toArray := by kernel_rfl
theorem hA_bytes : hdB hA = (((List.replicate 108 (0 : UInt8)).set 6 1).set 7 2).set 107 3 := by decide +kernel
set_option maxHeartbeats 4000000 in
theorem alive14_any (w : World) : Calls Tryd.prog 9 #[] w fun e w' => e = .returned (.bool true) ∧ Below w.heap.size w w' := by
  obtain ⟨i0, hi0, hz0, hz1, hz2⟩ := info_parts infoU8
  have hB := PHdBytes_any hA (mayH_ok hA_may)
  have e1 : hdO hA = hdB hA := by unfold hdO; rw [if_pos hA_may]
  have e2 : hdE hA = 0 := by unfold hdE; rw [if_pos hA_may]
  rw [e1, e2, hdB_len] at hB
  replace hB := hid hB
  have hbl := hid hA_built
  have hsz := hid (show (Tryd.prog.info? 5).map (·.size) = some 1 by kernel_rfl)
  have ly := hdB_len hA
  have hS := hid (fun A D c W (g1 : Rd W A (hdB hA)) (g2 : Rd W D (hdB hA)) => Same_yes A D 108 108 c 108 (hdB hA) (hdB hA) W g1 g2 ly.symm ly.symm rfl)
  have hy := hid hA_bytes
  generalize hdB hA = y at *
  generalize hdC hA = cr at *
  go_enter Tryd.func9, Tryd.ntmps9
  go_wp2_with (first
    | ((with_reducible refine wpList_built rfl 25 _ rfl cr.toArray [(0, .int .i64 258), (4, .int .i64 3)] ?_ ?_ ?_); exact hbl.out; rfl))
  refine (hB.out _).mono ?_
  rintro e w1 ⟨A1, c1, rfl, o1, hb⟩
  have W1 := hid hb
  have R1 := hid o1.rd
  clear hb o1
  go_wp2_with (first
    | (at_make; refine wpList_make_full _ rfl _ _ 29 rfl w1.heap.size 5 i0 (.int .u8 0) 1 Tryd.underlying29 hi0 hz0 hz1 _ _ _ _ 108 rfl rfl rfl rfl (by rw [hz2]; omega) (by unfold maxLen; omega) (Nat.le_refl _) ?_; intro w2 hown hgrow; have X2 := hid ((Below.refl _ w1).grown hgrow (Nat.le_refl _) (by simp)); have Q2 := hid (made_block hown); clear hown hgrow)
    | ((with_reducible refine wpList_store_oneB rfl 5 (.tmp 13) _ rfl w1.heap.size 6 (bv 1) _ 5 rfl rfl rfl rfl Q2.out ?_ ?_ ?_); exact (by simp); exact hsz.out; intro w3 hg3 hc3; have Q3 := hid hg3; have C3 := hid hc3; clear hg3 hc3)
    | ((with_reducible refine wpList_store_oneB rfl 5 (.tmp 14) _ rfl w1.heap.size 7 (bv 2) _ 5 rfl rfl rfl rfl Q3.out ?_ ?_ ?_); exact (by simp); exact hsz.out; intro w4 hg4 hc4; have Q4 := hid hg4; have C4 := hid hc4; clear hg4 hc4)
    | ((with_reducible refine wpList_store_oneB rfl 5 (.tmp 15) _ rfl w1.heap.size 107 (bv 3) _ 5 rfl rfl rfl rfl Q4.out ?_ ?_ ?_); exact (by simp); exact hsz.out; intro w5 hg5 hc5; have Q5 := hid hg5; have C5 := hid hc5; clear hg5 hc5))
  have E5 : (((((List.replicate 108 (0 : UInt8)).map bv).toArray.setIfInBounds 6 (bv 1)).setIfInBounds 7 (bv 2)).setIfInBounds 107 (bv 3)) = ((((List.replicate 108 (0 : UInt8)).set 6 1).set 7 2).set 107 3 |>.map bv).toArray := by
    rw [List.setIfInBounds_toArray, List.setIfInBounds_toArray, List.setIfInBounds_toArray, List.map_set, List.map_set, List.map_set]
  have q5 := Q5.out
  rw [E5, ← hy.out] at q5
  have D5 := hid ((Own.of_block (B := 0) q5 (Nat.zero_le _) (by rw [ly]; decide)).rd)
  have B5 := hid ((X2.out).trans ((C3.out.below (B := w1.heap.size) X2.out.size (fun b hb e => by omega)).trans ((C4.out.below (B := w1.heap.size) (Nat.le_trans X2.out.size C3.out.size) (fun b hb e => by omega)).trans (C5.out.below (B := w1.heap.size) (Nat.le_trans (Nat.le_trans X2.out.size C3.out.size) C4.out.size) (fun b hb e => by omega)))))
  have W5 := hid (W1.out.trans (B5.out.mono W1.out.size))
  have R5 := hid (R1.out.bel B5.out)
  clear q5 E5
  refine (hS.out _ _ _ _ R5.out D5.out).mono ?_
  rintro e w6 ⟨rfl, rfl⟩
  go_wp2
  go_ret
  exact ⟨rfl, W5.out⟩
theorem zer107 : readHE (List.replicate 107 0) = 10 ∧ readH (List.replicate 107 0) = zH := by
  have e : readHE (List.replicate 107 0) = 10 := by unfold readHE; rw [List.length_replicate, if_pos (by decide)]
  exact ⟨e, readH_err (by rw [e]; decide)⟩
theorem zer109 : readHE (List.replicate 109 0) = 11 ∧ readH (List.replicate 109 0) = zH := by
  have e : readHE (List.replicate 109 0) = 11 := by unfold readHE; rw [List.length_replicate, if_neg (by decide), if_pos (by decide)]
  exact ⟨e, readH_err (by rw [e]; decide)⟩
theorem far108 : readHE (List.replicate 108 255) = 8 ∧ readH (List.replicate 108 255) = zH := by
  have e : readHE (List.replicate 108 255) = 8 := by decide +kernel
  exact ⟨e, readH_err (by rw [e]; decide)⟩
def hB_ : Hd := ⟨-1, zeD, zeD, zeD, 0⟩
def hC_ : Hd := ⟨0, zeD, zeD, zeD, 257⟩
def hOne : Hd := ⟨1, nameD zH, zeD, zeD, 0⟩
def hTwo : Hd := ⟨1, zeD, zeD, zeD, 0⟩
theorem hB_built : Tryd.prog.built 25 [(0, .int .i64 (-1))] = some (hdC hB_).toArray := by kernel_rfl
theorem hC_built : Tryd.prog.built 25 [(4, .int .i64 257)] = some (hdC hC_).toArray := by kernel_rfl
theorem hTwo_built : Tryd.prog.built 25 [(0, .int .i64 1)] = some (hdC hTwo).toArray := by kernel_rfl
theorem hB_e : hdE hB_ = 8 := by decide +kernel
theorem hC_e : hdE hC_ = 8 := by decide +kernel
theorem zH_e : hdE zH = 0 := by decide +kernel
theorem zH_bytes : hdB zH = List.replicate 108 0 := by decide +kernel
theorem zH_hash : hashH zH = nameD zH := by unfold hashH; rw [if_pos (by decide)]
theorem hOne_follows : follows hOne zH = true := by
  unfold follows
  rw [show mayH hOne = true from by decide, show mayH zH = true from by decide]
  simp [hOne, zH]
theorem hTwo_follows : follows hTwo zH = false := by decide +kernel
theorem hB_ok : hB_.ok := ⟨by show (-9223372036854775808 : Int) ≤ -1 ∧ (-1 : Int) ≤ 9223372036854775807; decide, by show (-9223372036854775808 : Int) ≤ 0 ∧ (0 : Int) ≤ 9223372036854775807; decide⟩
theorem hC_ok : hC_.ok := ⟨by show (-9223372036854775808 : Int) ≤ 0 ∧ (0 : Int) ≤ 9223372036854775807; decide, by show (-9223372036854775808 : Int) ≤ 257 ∧ (257 : Int) ≤ 9223372036854775807; decide⟩
theorem hOne_ok : hOne.ok := ⟨by show (-9223372036854775808 : Int) ≤ 1 ∧ (1 : Int) ≤ 9223372036854775807; decide, by show (-9223372036854775808 : Int) ≤ 0 ∧ (0 : Int) ≤ 9223372036854775807; decide⟩
theorem hTwo_ok : hTwo.ok := ⟨by show (-9223372036854775808 : Int) ≤ 1 ∧ (1 : Int) ≤ 9223372036854775807; decide, by show (-9223372036854775808 : Int) ≤ 0 ∧ (0 : Int) ≤ 9223372036854775807; decide⟩
end Go.Proofs.YtpfglincdlmfhaaDoor
