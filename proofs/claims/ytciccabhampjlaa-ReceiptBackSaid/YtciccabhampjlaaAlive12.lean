/-
  Layer 12's law: the chapter's first example.
-/
import Derived.Test.YtciccabhampjlaaRpA
import Derived.Test.YtciccabhampjlaaRpQ
import Derived.Test.YtciccabhampjlaaBits
import Derived.Test.YtciccabhampjlaaStoreB
namespace Go.Proofs.Ytciccabhampjlaa
open Go.RowKit
set_option linter.unusedVariables false
set_option linter.unusedSimpArgs false
set_option maxRecDepth 100000

def rA : Rc := ⟨1, ⟨List.replicate 32 0, rfl⟩, 151⟩
theorem rA_may : mayR rA = true := rfl
theorem rA_built : Try.prog.built 26 [(0, bv 1), (2, .int .i64 151)] = some (rcC rA).toArray := built_rc2 1 151
theorem rA_bytes : rcB rA = ((List.replicate 35 (0 : UInt8)).set 0 1).set 34 151 := by decide +kernel
set_option maxHeartbeats 4000000 in
theorem alive12_any (w : World) : Calls Try.prog 4 #[] w fun e w' => e = .returned (.bool true) ∧ Below w.heap.size w w' := by
  obtain ⟨i0, hi0, hz0, hz1, hz2⟩ := info_parts infoU8
  have hB := PRpBytes_any rA
  have e1 : rcO rA = rcB rA := by unfold rcO; rw [if_pos rA_may]
  have e2 : rcE rA = 0 := by unfold rcE; rw [if_pos rA_may]
  rw [e1, e2, rcB_len] at hB
  replace hB := hid hB
  have hbl := hid rA_built
  have hsz := hid (show (Try.prog.info? 5).map (·.size) = some 1 by kernel_rfl)
  have ly := rcB_len rA
  have hS := hid (fun A D c W (g1 : Rd W A (rcB rA)) (g2 : Rd W D (rcB rA)) => Same_yes A D 35 35 c 35 (rcB rA) (rcB rA) W g1 g2 ly.symm ly.symm rfl)
  have hy := hid rA_bytes
  generalize rcB rA = y at *
  generalize rcC rA = cr at *
  go_enter Try.func4, Try.ntmps4
  go_wp2_with (first
    | ((with_reducible refine wpList_built rfl 26 _ rfl cr.toArray [(0, bv 1), (2, .int .i64 151)] ?_ ?_ ?_); exact hbl.out; rfl))
  refine (hB.out _).mono ?_
  rintro e w1 ⟨A1, c1, rfl, o1, hb⟩
  have W1 := hid hb
  have R1 := hid o1.rd
  clear hb o1
  go_wp2_with (first
    | (at_make; refine wpList_make_full _ rfl _ _ 27 rfl w1.heap.size 5 i0 (.int .u8 0) 1 Try.underlying27 hi0 hz0 hz1 _ _ _ _ 35 rfl rfl rfl rfl (by rw [hz2]; omega) (by unfold maxLen; omega) (Nat.le_refl _) ?_; intro w2 hown hgrow; have X2 := hid ((Below.refl _ w1).grown hgrow (Nat.le_refl _) (by simp)); have Q2 := hid (made_block hown); clear hown hgrow)
    | ((with_reducible refine wpList_store_oneB rfl 5 (.tmp 12) _ rfl w1.heap.size 0 (bv 1) _ 5 rfl rfl rfl rfl Q2.out ?_ ?_ ?_); exact (by simp); exact hsz.out; intro w3 hg3 hc3; have Q3 := hid hg3; have C3 := hid hc3; clear hg3 hc3)
    | ((with_reducible refine wpList_store_oneB rfl 5 (.tmp 13) _ rfl w1.heap.size 34 (bv 151) _ 5 rfl rfl rfl rfl Q3.out ?_ ?_ ?_); exact (by simp); exact hsz.out; intro w4 hg4 hc4; have Q4 := hid hg4; have C4 := hid hc4; clear hg4 hc4))
  have E4 : ((((List.replicate 35 (0 : UInt8)).map bv).toArray.setIfInBounds 0 (bv 1)).setIfInBounds 34 (bv 151)) = ((((List.replicate 35 (0 : UInt8)).set 0 1).set 34 151).map bv).toArray := by
    rw [List.setIfInBounds_toArray, List.setIfInBounds_toArray, List.map_set, List.map_set]
  have q4 := Q4.out
  rw [E4, ← hy.out] at q4
  have D4 := hid ((Own.of_block (B := 0) q4 (Nat.zero_le _) (by rw [ly]; decide)).rd)
  have W4 := hid ((W1.out.trans (X2.out.mono W1.out.size)).trans ((C3.out.below (B := w.heap.size) (Nat.le_trans W1.out.size X2.out.size) (fun b hb e => by have := W1.out.size; omega)).trans (C4.out.below (B := w.heap.size) (Nat.le_trans (Nat.le_trans W1.out.size X2.out.size) C3.out.size) (fun b hb e => by have := W1.out.size; omega))))
  have R4 := hid (R1.out.bel ((X2.out).trans ((C3.out.below (B := w1.heap.size) X2.out.size (fun b hb e => by omega)).trans (C4.out.below (B := w1.heap.size) (Nat.le_trans X2.out.size C3.out.size) (fun b hb e => by omega)))))
  clear q4 E4
  refine (hS.out _ _ _ _ R4.out D4.out).mono ?_
  rintro e w5 ⟨rfl, rfl⟩
  go_wp2
  go_ret
  exact ⟨rfl, W4.out⟩
theorem zer34 : readRE (List.replicate 34 0) = 10 ∧ readR (List.replicate 34 0) = zR := by
  have e : readRE (List.replicate 34 0) = 10 := by unfold readRE; rw [List.length_replicate, if_pos (by decide)]
  exact ⟨e, readR_err (by rw [e]; decide)⟩
theorem zer36 : readRE (List.replicate 36 0) = 11 ∧ readR (List.replicate 36 0) = zR := by
  have e : readRE (List.replicate 36 0) = 11 := by unfold readRE; rw [List.length_replicate, if_neg (by decide), if_pos (by decide)]
  exact ⟨e, readR_err (by rw [e]; decide)⟩
theorem zer35 : readRE (List.replicate 35 0) = 8 ∧ readR (List.replicate 35 0) = zR := by
  have e : readRE (List.replicate 35 0) = 8 := by decide +kernel
  exact ⟨e, readR_err (by rw [e]; decide)⟩
def rB : Rc := ⟨1, ⟨List.replicate 32 0, rfl⟩, 150⟩
def rC : Rc := ⟨3, ⟨List.replicate 32 0, rfl⟩, 0⟩
def rD : Rc := ⟨2, ⟨List.replicate 32 0, rfl⟩, 150⟩
theorem rB_built : Try.prog.built 26 [(0, bv 1), (2, .int .i64 150)] = some (rcC rB).toArray := built_rc2 1 150
theorem rD_built : Try.prog.built 26 [(0, bv 2), (2, .int .i64 150)] = some (rcC rD).toArray := built_rc2 2 150
theorem rC_built : Try.prog.built 26 [(0, bv 3)] = some (rcC rC).toArray := by kernel_rfl
theorem rB_e : rcE rB = 8 := by decide +kernel
theorem rC_e : rcE rC = 8 := by decide +kernel
theorem rD_e : rcE rD = 0 := by decide +kernel
def dZ : Dp := ⟨0, ⟨List.replicate 32 0, rfl⟩, 0⟩
theorem dZ_ok : dZ.ok := ⟨by decide, by decide⟩
theorem dZ_body : bodyD dZ = List.replicate 48 0 := by decide +kernel
end Go.Proofs.Ytciccabhampjlaa
