/-
  Layer 10's law: the chapter's first examples.
-/
import Derived.Test.YtcifncmfjlbhjaaDoorAcR
import Derived.Test.YtcifncmfjlbhjaaDoorBits
namespace Go.Proofs.YtcifncmfjlbhjaaDoor
open Go.RowKit
set_option linter.unusedVariables false
set_option linter.unusedSimpArgs false
set_option maxRecDepth 100000

def ac1 : Ac := ⟨1, 258⟩
theorem ac1_ok : ac1.ok := ⟨by decide, by decide⟩
theorem ac1_b : acB ac1 = [0, 0, 0, 0, 0, 0, 0, 1, 0, 0, 0, 0, 0, 0, 1, 2] := by decide +kernel
theorem ac1_e : acE (acB ac1) = 0 := by rw [acE_B ac1_ok, if_neg (by decide)]
set_option maxHeartbeats 4000000 in
theorem alive10_any (w : World) : Calls Tryd.prog 8 #[] w fun e w' => e = .returned (.bool true) ∧ Below w.heap.size w w' := by
  have hu := Tryd.underlying24
  have hbl := hid (built_ac 1 258)
  have hB := hid (fun W => PAcBytes_any ac1 ac1_ok W)
  have hR := hid (fun A c W (h : Rd W A (acB ac1)) (h1 : (acB ac1).length ≤ c) (h2 : c ≤ maxLen) => PAcRead_any A c (acB ac1) W h h1 h2 (by rw [acB_len]; decide))
  rw [ac1_e, acOf_B ac1_ok] at hR
  have hS := hid (fun A D c d W (h1 : Rd W A (acB ac1)) (h2 : Rd W D [0, 0, 0, 0, 0, 0, 0, 1, 0, 0, 0, 0, 0, 0, 1, 2]) => Same_yes A D 16 16 c d (acB ac1) _ W h1 h2 (acB_len _).symm rfl ac1_b)
  have hE : ∀ W, (Op.equalIn 10000 24 (.agg (acC ac1).toArray) (.agg (acC ⟨1, 258⟩).toArray)).run Tryd.prog W = .ok true W := fun W => eqac_is ac1 ⟨1, 258⟩ ac1_ok ac1_ok true (decide_eq_true rfl) W
  have nb := hid (one_ac ac1)
  have ia := hid (show (Tryd.prog.info? 24).map (·.size) = some (acC ac1).length from sizeAc)
  have hl := acB_len ac1
  rw [show acC (⟨1, 258⟩ : Ac) = acC ac1 from rfl] at hbl hE
  rw [hl] at hB hR
  replace hl := hid hl
  generalize acC ac1 = ca at *
  generalize acB ac1 = v at *
  go_enter Tryd.func8, Tryd.ntmps8
  go_wp2_with (first
    | ((with_reducible refine wpList_built rfl 24 _ rfl ca.toArray [(0, .int .u64 1), (1, .int .u64 258)] ?_ ?_ ?_); exact hbl.out; rfl))
  refine (hB.out _).mono ?_
  rintro e w1 ⟨A1, c1, rfl, o1, hb⟩
  have W1 := hid hb
  have r1 := hid o1.rd
  have k1 := hid o1.cap
  clear hb o1
  go_wp2_with fail
  refine (hR.out _ _ _ r1.out (by have := k1.out.1; have := hl.out; omega) k1.out.2).mono ?_
  rintro e w2 ⟨rfl, hb⟩
  have W2 := hid (W1.out.trans (hb.mono W1.out.size))
  have r2 := hid (r1.out.bel hb)
  have e2 := hid (heap_alloc_new w2 (.cells (acC ac0).toArray 24))
  clear hb r1
  go_wp2_with (first
    | (with_reducible refine wpList_alloc_row rfl 24 rfl (acC ac0).toArray zInfoAc ?_)
    | ((with_reducible refine wpList_store_row rfl 24 (.tmp 2) (.tmp 9) rfl w2.heap.size _ rfl rfl 24 (acC ac0).toArray ?_ ?_ ?_ ?_ ?_); exact e2.out; (rw [List.size_toArray]; exact ia.out); (rw [List.size_toArray]; have := ia.out; rw [sizeAc] at this; injection this); exact nb.out; intro w3 hgS hbS hsS; have X3 := hid (xnewP rfl hbS); have q3 := hid (rangeOf (l := ca) hgS); have W3 := hid (W2.out.trans (X3.out.mono W2.out.size)); have r3 := hid (r2.out.bel X3.out); clear hgS hbS hsS))
  refine (hS.out _ _ _ _ _ (r3.out.alloc _) (Rd.lit_ _ _ _ _ _ rfl rfl)).mono ?_
  rintro e w4 ⟨rfl, hw4⟩
  have X4 : Hid (Below w3.heap.size w3 w4) := hid (hw4 ▸ ext_alloc w3 _)
  have q4 := hid (rangeBel2 X4.out q3.out)
  have W4 := hid (W3.out.trans (X4.out.mono W3.out.size))
  clear hw4 q3 r3
  go_wp2_with (first
    | ((with_reducible refine wpList_load_rng ?_ 24 (.tmp 2) rfl w2.heap.size 0 rfl ca _ ?_ hu rfl ia.out ?_); rfl; exact q4.out)
    | ((with_reducible refine wpList_built ?_ 24 _ rfl ca.toArray [(0, .int .u64 1), (1, .int .u64 258)] ?_ ?_ ?_); rfl; exact hbl.out; rfl))
  go_ret
  exact ⟨rfl, W4.out⟩
end Go.Proofs.YtcifncmfjlbhjaaDoor
