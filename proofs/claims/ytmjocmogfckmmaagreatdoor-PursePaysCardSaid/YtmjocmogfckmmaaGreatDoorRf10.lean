/-
 Texts laid together: Ref10a, Ref10b, Ref10c, Ref10d, AcQ.
-/
import Derived.Test.YtmjocmogfckmmaaGreatDoorStX
import Derived.Test.YtmjocmogfckmmaaGreatDoorRefC
import Derived.Test.YtmjocmogfckmmaaGreatDoorMem
import Derived.Test.YtmjocmogfckmmaaGreatDoorRefE
import Derived.Test.YtmjocmogfckmmaaGreatDoorRf6
import Derived.Test.YtmjocmogfckmmaaGreatDoorRefF
set_option maxRecDepth 100000
set_option linter.unusedVariables false
set_option linter.unusedSimpArgs false
namespace Go.Proofs.YtmjocmogfckmmaaGreatDoor
/- (Ref10a)
 The document's answers of layer 10: Key, Bytes, Read.
-/
section
open Go.RowKit

theorem slotU8k : Slot Tryz.prog UInt8 41 5 (.int .u8 0) 1 where
 under := Tryz.underlying41
 info := by kernel_rfl
 zero := by decide +kernel
 pos := by decide
theorem res_ac {fn : Func} {p u : Tmp} (h : fn.results = #[.cell p 65, .tmp u]) (tmps : Array Value) (w : World) (g : Nat) (a : Ac) (e1 : tmps.getD p undef = .pointer (some ⟨g, 0, none⟩))
  (hg : w.heap[g]? = some (.cells (acC a).toArray 65 (0, 0))) : (results fn tmps).run Tryz.prog w = .ok (.tuple #[.agg (acC a).toArray, tmps.getD u undef]) w := by
 have h2 := run_loadVar_mid (P := Tryz.prog) w g 0 65 (acC a) _ (rangeOf hg) Tryz.underlying65 rfl sizeAc
 rw [results_cell_tmp h, e1]
 simp only [asAddr, Sem.run_pure, Result.andThen_ok, h2]
/-- A key's digest. -/
def keyD (p : Dg) : Dg := ⟨sha256 (tagB 3 [p.1]), S8.bytes_len _⟩
theorem RAcKey_any (p : Dg) (w : World) : Calls Tryz.prog 58 #[.agg (p.1.map bv).toArray] w fun e w' => e = .returned (.agg ((keyD p).1.map bv).toArray) ∧ Below w.heap.size w w' := by
 have h0 := heap_alloc_new w (.cells (p.1.map bv).toArray 26)
 have b0 := ext_alloc w (.cells (p.1.map bv).toArray 26)
 have h1 := heap_alloc_new (w.alloc (.cells (p.1.map bv).toArray 26)) (.cells z32 26)
 have b1 := ext_alloc (w.alloc (.cells (p.1.map bv).toArray 26)) (.cells z32 26)
 rw [World.size_alloc] at h1
 have hk := hid (rd_blockP ((b1.block _ (block_lt h0)).trans h0))
 have W1 := hid (b0.trans (b1.mono b0.size))
 replace h1 := hid h1
 have hO := hid (fun W (h : Rd W (some ⟨w.heap.size, 0, none⟩) p.1) => ROneD_any 3 (some ⟨w.heap.size, 0, none⟩) 32 p.1 W h ⟨by rw [p.2]; decide, by decide⟩ (by rw [p.2]; decide))
 have hD : sha256 (tagB 3 [p.1]) = (keyD p).1 := rfl
 rw [hD] at hO
 simp only [p.2] at hO
 replace hO := hid hO
 have hsl := run_all32P
 have z1 : (((keyD p).1.map bv).toArray).size = 32 := by simp [(keyD p).2]
 have o1 := bvs_all (keyD p).1
 clear h0 b0 b1 hD
 generalize (keyD p).1.map bv = dk at *
 generalize (p.1.map bv).toArray = dp at *
 go_enter Tryz.func58, Tryz.ntmps58
 go_wp2_with (first
  | (with_reducible refine wpList_alloc_row rfl 26 rfl z32 info32 ?_))
 refine (hO.out.out _ hk.out).mono ?_
 rintro e w3 ⟨rfl, hb3⟩
 have R3 := hid ((hb3.block _ (block_lt h1.out)).trans h1.out)
 have W3 := hid (W1.out.trans (hb3.mono W1.out.size))
 clear hb3
 go_wp2_with (first
  | ((with_reducible refine wpList_store_row rfl 26 (.tmp 2) (.tmp 4) rfl (w.heap.size + 1) _ rfl rfl 26 z32 ?_ ?_ ?_ ?_ ?_); exact R3.out; (rw [z1]; exact size32); (rw [z1]; exact z32_size); exact o1; intro w4 hg4 hb4 hs4))
 refine bodyPost_ret (v := .agg dk.toArray) ?_ rfl ⟨rfl, ?_⟩
 ·exact results_cell_row Tryz.results58 _ _ (w.heap.size + 1) 26 _ (0, 0) _ rfl hg4 Tryz.underlying26 rfl (by rw [z1]; exact size32)
 ·exact W3.out.grown hb4 W3.out.size (fun g e => by injection e with e; omega)
set_option maxHeartbeats 1000000 in
theorem RAcBytes_any (a : Ac) (ha : a.ok) (w : World) :
  Calls Tryz.prog 61 #[.agg (acC a).toArray] w fun e w' => ∃ A c, e = .returned (.slice A (acB a).length c) ∧ Own 5 w' w.heap.size A c (acB a) ∧ Below w.heap.size w w' := by
 have h0 := heap_alloc_new w (.cells (acC a).toArray 65)
 have b0 := hid (ext_alloc w (.cells (acC a).toArray 65))
 have q0 := hid (rangeOf h0)
 have c0 := q0.out 0 _ rfl
 have c1 := q0.out 1 _ rfl
 have d1 := fun W => Digits_any a.n 8 W (by decide) (by decide) ha.1
 have d2 := fun W => Digits_any a.b 8 W (by decide) (by decide) ha.2
 replace d1 := hid d1
 replace d2 := hid d2
 have l1 := be_length 8 a.n
 have l2 := be_length 8 a.b
 have hB : acB a = be 8 a.n ++ be 8 a.b := rfl
 obtain ⟨x, hx⟩ : ∃ x, be 8 a.n = x := ⟨_, rfl⟩
 obtain ⟨y, hy⟩ : ∃ y, be 8 a.b = y := ⟨_, rfl⟩
 rw [hx] at d1 l1 hB
 rw [hy] at d2 l2 hB
 rw [hB]
 have h16 : (x ++ y).length = 16 := by rw [List.length_append, l1, l2]
 obtain ⟨z, hz⟩ : ∃ z, x ++ y = z := ⟨_, rfl⟩
 have hz2 := hid hz
 rw [hz] at h16 ⊢
 clear h0 hx hy hB hz q0
 replace c0 := c0
 go_enter Tryz.func61, Tryz.ntmps61
 go_wp2_with fail
 refine (d1.out _).mono ?_
 rintro e w1 ⟨A1, k1, rfl, o1, hb⟩
 have c11 := (hb.cell (World.block_lt_of_cell? _ _ c1)).trans c1
 have W1 := hid (b0.out.trans (hb.mono b0.out.size))
 replace o1 := hid (o1.base b0.out.size)
 clear hb c0 c1
 go_wp2_with fail
 refine (d2.out _).mono ?_
 rintro e w2 ⟨A2, k2, rfl, o2, hb⟩
 have W2 := hid (W1.out.trans (hb.mono W1.out.size))
 have r2 := hid o2.rd
 replace o1 := hid (o1.out.bel hb)
 clear hb o2 c11
 go_wp2_with (first
  | (at_builtin; refine wpList_app u8s rfl (.tmp 19) (.tmp 20) rfl w.heap.size A1 A2 8 8 k1 k2 x y rfl rfl l1.symm l2.symm o1.out r2.out (by rw [l1, l2]; omega) W2.out.size ?_; intro A3 k3 w3 o3 hb3; rw [hz2.out] at o3 ⊢))
 rw [h16] at *
 go_ret
 exact ⟨_, _, rfl, o3, W2.out.trans hb3⟩
set_option maxHeartbeats 2000000 in
theorem RAcRead_any (A : Option Addr) (c : Nat) (l : List UInt8) (w : World) (hr : Rd w A l) (hc : l.length ≤ c) (hm : c ≤ maxLen) :
  Calls Tryz.prog 54 #[.slice A l.length c] w fun e w' => e = .returned (.tuple #[.agg (acC (acOf l)).toArray, .int .i64 (acE l)]) ∧ Below w.heap.size w w' := by
 have hu := Tryz.underlying65
 have h0 := hid (heap_alloc_new w (.cells (acC ac0).toArray 65))
 have b0 := hid (ext_alloc w (.cells (acC ac0).toArray 65))
 have hb0 := hid built_ac0
 have s2 := hid (show (Tryz.prog.info? 65).map (·.size) = some (acC ac0).toArray.size from sizeAc)
 have n0 := hid (one_ac ac0)
 by_cases h16 : l.length < 16
 ·have e1 : acE l = 10 := by unfold acE; rw [if_pos h16]
  have e2 : acOf l = ac0 := acOf_no (by rw [e1]; decide)
  rw [e1, e2]
  have q1 : decide ((l.length : Int) < 16) = true := decide_eq_true (by omega)
  clear e1 e2
  generalize hca : (acC ac0).toArray = ca at *
  go_enter Tryz.func54, Tryz.ntmps54
  go_wp2_with (first
   | (with_reducible refine wpList_alloc_row rfl 65 rfl ca (by rw [← hca]; exact zInfoAc) ?_)
   | ((with_reducible refine wpList_built rfl 65 _ rfl ca [] ?_ ?_ ?_); exact hb0.out; rfl)
   | ((with_reducible refine wpList_store_row rfl 65 (.tmp 2) (.tmp 8) rfl w.heap.size _ rfl rfl 65 ca ?_ ?_ ?_ ?_ ?_); exact h0.out; exact s2.out; rfl; exact n0.out; intro w3 hg3 hb3 hs3))
  subst hca
  exact bodyPost_ret (res_ac rfl _ _ w.heap.size ac0 rfl hg3) rfl ⟨rfl, b0.out.grown hb3 b0.out.size (fun g e => by injection e with e; omega)⟩
 have q1 : decide ((l.length : Int) < 16) = false := decide_eq_false (by omega)
 by_cases h17 : 16 < l.length
 ·have e1 : acE l = 11 := by unfold acE; rw [if_neg h16, if_pos h17]
  have e2 : acOf l = ac0 := acOf_no (by rw [e1]; decide)
  rw [e1, e2]
  have q2 : decide (16 < (l.length : Int)) = true := decide_eq_true (by omega)
  clear e1 e2 h16
  generalize hca : (acC ac0).toArray = ca at *
  go_enter Tryz.func54, Tryz.ntmps54
  go_wp2_with (first
   | (with_reducible refine wpList_alloc_row rfl 65 rfl ca (by rw [← hca]; exact zInfoAc) ?_)
   | ((with_reducible refine wpList_built rfl 65 _ rfl ca [] ?_ ?_ ?_); exact hb0.out; rfl)
   | ((with_reducible refine wpList_store_row rfl 65 (.tmp 2) (.tmp 12) rfl w.heap.size _ rfl rfl 65 ca ?_ ?_ ?_ ?_ ?_); exact h0.out; exact s2.out; rfl; exact n0.out; intro w3 hg3 hb3 hs3))
  subst hca
  exact bodyPost_ret (res_ac rfl _ _ w.heap.size ac0 rfl hg3) rfl ⟨rfl, b0.out.grown hb3 b0.out.size (fun g e => by injection e with e; omega)⟩
 have q2 : decide (16 < (l.length : Int)) = false := decide_eq_false (by omega)
 have hl : l.length = 16 := by omega
 obtain ⟨x, hx⟩ : ∃ x, l.take 8 = x := ⟨_, rfl⟩
 obtain ⟨y, hy⟩ : ∃ y, l.drop 8 = y := ⟨_, rfl⟩
 have r1 : Rd w A x := by rw [← hx]; exact hr.take 8
 have r2 : Rd w (cutA A c 8 1) y := by
  rw [← hy]
  exact ((hr.row (F := fun _ => True) fun _ _ _ => trivial).cut 8 c (by omega) hc).rd
 have lx : x.length = 8 := by rw [← hx, List.length_take]; omega
 have ly : y.length = 8 := by rw [← hy, List.length_drop]; omega
 have E1 : acE l = if num x = 0 ∧ num y = 0 then 8 else 0 := by unfold acE; rw [if_neg h16, if_neg h17, hx, hy]
 have E2 : acOf l = if num x = 0 ∧ num y = 0 then ac0 else ⟨num x, num y⟩ := by
  unfold acOf
  rw [E1, hx, hy]
  by_cases hz : num x = 0 ∧ num y = 0
  ·rw [if_pos hz, if_pos hz]; rfl
  ·rw [if_neg hz, if_neg hz]; rfl
 obtain ⟨bx, hbx⟩ : ∃ b, ((num x : Int) == 0) = b := ⟨_, rfl⟩
 obtain ⟨cy, hcy⟩ : ∃ b, ((num y : Int) == 0) = b := ⟨_, rfl⟩
 have ax : (⟨num x, num y⟩ : Ac).ok := ⟨num_lt8 lx, num_lt8 ly⟩
 have hz : (num x = 0 ∧ num y = 0) ↔ (bx = true ∧ cy = true) := by rw [← hbx, ← hcy]; simp
 have E3 : (if num x = 0 ∧ num y = 0 then (8 : Int) else 0) = if bx && cy then 8 else 0 := by
  cases bx <;> cases cy <;> simp_all
 have E4 : (if num x = 0 ∧ num y = 0 then ac0 else ⟨num x, num y⟩ : Ac) = if bx && cy then ac0 else ⟨num x, num y⟩ := by
  cases bx <;> cases cy <;> simp_all
 rw [E1, E2, E3, E4]
 have w1e := b0
 replace h0 := h0
 have r1' := hid (fun W (hb : Below w.heap.size w W) => (show Rd W A x ∧ Rd W (cutA A c 8 1) y from ⟨r1.bel hb, r2.bel hb⟩))
 have sl1 := hid (fun W => run_upto slotU8k A l.length c 8 (by omega) W)
 have sl2 := hid (fun W => run_from slotU8k A l.length c 8 (by omega) W)
 have hl2 : l.length - 8 = 8 := by omega
 rw [hl2] at sl2
 have bl := hid (built_ac (num x) (num y))
 have nb := hid (one_ac ⟨num x, num y⟩)
 have lx' := hid lx
 have ly' := hid ly
 clear E1 E2 E3 E4 hz hx hy h16 h17 hl hl2 r1 r2 hc hm hr lx ly
 go_enter Tryz.func54, Tryz.ntmps54
 go_wp2_with (first
  | (with_reducible refine wpList_alloc_row rfl 65 rfl (acC ac0).toArray zInfoAc ?_))
 generalize w.alloc (.cells (acC ac0).toArray 65) = w1 at *
 rcases bx with _ | _
 rotate_left
 cases cy
 all_goals
  refine wp_region_noPanic ?_
  refine wp_region_held_drew (S := fun w' => Below w1.heap.size w1 w') (by kernel_rfl) ?_ (fun hHeld => ?_)
  ·exact bel_drew w1
  refine' tkL 0 ?_ rfl ?_ ?_
  rotate_left
  ·intro W hSw
   go_simp
   first | done | (with_reducible rfl)
  try simp only [Act.put, sQ]
  refine' tkH 1 rfl (yieldsIf_slice (by rfl) _ _ _ _ _ rfl _ _ _ _ _ (sl1.out) rfl rfl rfl rfl) ?_
  try simp only [Act.put, sQ]
  refine' tkL 3 ?_ rfl ?_ ?_
  rotate_left
  ·intro W hSw
   go_simp
   first | done | (with_reducible rfl)
  try simp only [Act.put, sQ]
  refine' tkH 4 rfl (yieldsIf_slice (by rfl) _ _ _ _ _ rfl _ _ _ _ _ (sl2.out) rfl rfl rfl rfl) ?_
  try simp only [Act.put, sQ]
  refine wpAnyH_ready (rs := [2, 7]) (by kernel_rfl) (by simp) ?_
  refine AllReadyH.cons (o := _) rfl (fun K hK => ?_) ?_
  ·skip
   go_simp
   refine (Number_any A 8 _ x _ (r1'.out _ (w1e.out.trans (hHeld.mono w1e.out.size))).1 lx'.out.symm (by rw [lx'.out]; omega)).mono ?_
   rintro e y2 ⟨rfl, rfl⟩
   go_wp2_with fail
   refine hK.out _ _ ?_ (fun hHeld => ?_)
   ·exact hHeld
   clear hK K
   try simp only [Act.put, sQ]
   refine wpAnyH_ready (rs := [5, 7]) (by kernel_rfl) (by simp) ?_
   refine AllReadyH.cons (o := _) rfl (fun K hK => ?_) ?_
   ·skip
    go_simp
    refine (Number_any _ 8 _ y _ (r1'.out _ (w1e.out.trans (hHeld.mono w1e.out.size))).2 ly'.out.symm (by rw [ly'.out]; omega)).mono ?_
    rintro e y3 ⟨rfl, rfl⟩
    go_wp2_with fail
    refine hK.out _ _ ?_ (fun hHeld => ?_)
    ·exact hHeld
    clear hK K
    try simp only [Act.put, sQ]
    refine' tkH 6 rfl (yieldsIf_build (by rfl) _ _ rfl _ _ (bl.out) rfl) ?_
    try simp only [Act.put, sQ]
    refine wpAnyH_ready (rs := [7]) (by kernel_rfl) (by simp) ?_
    refine AllReadyH.cons (o := _) rfl (fun K hK => ?_) AllReadyH.nil
    refine step_alloc_rowT rfl 65 rfl (acC ac0).toArray zInfoAc ?_
    intro g6 w8 b6 e6 hB
    have m6 := Nat.le_trans hHeld.size b6
    refine hK.out _ _ ?_ (fun hHeld => ?_)
    ·exact hHeld.trans (hB.mono hHeld.size)
    clear hK K
    try simp only [Act.put, sQ]
    refine wpAnyH_ready (rs := [8]) (by kernel_rfl) (by simp) ?_
    refine AllReadyH.cons (o := _) rfl (fun K hK => ?_) AllReadyH.nil
    refine step_store_rowT rfl 65 (.tmp 4) (.tmp 19) rfl g6 _ rfl rfl 65 (acC ac0).toArray e6 sizeAc rfl nb.out ?_
    intro w9 d6 hG
    refine hK.out _ _ ?_ (fun hHeld => ?_)
    ·exact hHeld.grown hG hHeld.size (by intro k hk; injection hk with hk; omega)
    clear hK K
    try simp only [Act.put, sQ]
    refine wpAnyH_done (by kernel_rfl) ?_ _
    refine NoPanic.normal ?_
    have q6 := rangeOf (l := acC ⟨num x, num y⟩) d6
    have c0 := q6 0 _ rfl
    have c1 := q6 1 _ rfl
    have h9 := hid ((hHeld.block _ (block_lt h0.out)).trans h0.out)
    have W9 := hid (w1e.out.trans (hHeld.mono w1e.out.size))
    have q7 := hid q6
    clear hHeld d6 q6
    go_wp2_with (first
     | ((with_reducible refine wpList_built rfl 65 _ rfl (acC ac0).toArray [] ?_ ?_ ?_); exact hb0.out; rfl)
     | ((with_reducible refine wpList_load_rng rfl 65 (.tmp 4) rfl g6 0 rfl (acC ⟨num x, num y⟩) _ ?_ hu rfl sizeAc ?_); exact q7.out)
     | ((with_reducible refine wpList_store_row rfl 65 (.tmp 2) (.tmp 28) rfl w.heap.size _ rfl rfl 65 (acC ac0).toArray ?_ ?_ ?_ ?_ ?_); exact h9.out; exact sizeAc; rfl; exact n0.out; intro w3 hg3 hb3 hs3)
     | ((with_reducible refine wpList_store_row rfl 65 (.tmp 2) (.tmp 29) rfl w.heap.size _ rfl rfl 65 (acC ac0).toArray ?_ ?_ ?_ ?_ ?_); exact h9.out; exact sizeAc; rfl; exact nb.out; intro w3 hg3 hb3 hs3))
    first
     | exact bodyPost_ret (res_ac rfl _ _ w.heap.size ac0 rfl hg3) rfl ⟨rfl, W9.out.grown hb3 W9.out.size (fun g e => by injection e with e; omega)⟩
     | exact bodyPost_ret (res_ac rfl _ _ w.heap.size ⟨num x, num y⟩ rfl hg3) rfl ⟨rfl, W9.out.grown hb3 W9.out.size (fun g e => by injection e with e; omega)⟩
   refine AllReadyH.cons (o := _) rfl (fun K hK => ?_) ?_
   ·skip
    refine step_alloc_rowT rfl 65 rfl (acC ac0).toArray zInfoAc ?_
    intro g6 w8 b6 e6 hB
    have m6 := Nat.le_trans hHeld.size b6
    refine hK.out _ _ ?_ (fun hHeld => ?_)
    ·exact hHeld.trans (hB.mono hHeld.size)
    clear hK K
    try simp only [Act.put, sQ]
    refine wpAnyH_ready (rs := [5]) (by kernel_rfl) (by simp) ?_
    refine AllReadyH.cons (o := _) rfl (fun K hK => ?_) AllReadyH.nil
    go_simp
    refine (Number_any _ 8 _ y _ (r1'.out _ (w1e.out.trans (hHeld.mono w1e.out.size))).2 ly'.out.symm (by rw [ly'.out]; omega)).mono ?_
    rintro e y3 ⟨rfl, rfl⟩
    go_wp2_with fail
    refine hK.out _ _ ?_ (fun hHeld => ?_)
    ·exact hHeld
    clear hK K
    try simp only [Act.put, sQ]
    refine' tkH 6 rfl (yieldsIf_build (by rfl) _ _ rfl _ _ (bl.out) rfl) ?_
    try simp only [Act.put, sQ]
    refine wpAnyH_ready (rs := [8]) (by kernel_rfl) (by simp) ?_
    refine AllReadyH.cons (o := _) rfl (fun K hK => ?_) AllReadyH.nil
    refine step_store_rowT rfl 65 (.tmp 4) (.tmp 19) rfl g6 _ rfl rfl 65 (acC ac0).toArray e6 sizeAc rfl nb.out ?_
    intro w9 d6 hG
    refine hK.out _ _ ?_ (fun hHeld => ?_)
    ·exact hHeld.grown hG hHeld.size (by intro k hk; injection hk with hk; omega)
    clear hK K
    try simp only [Act.put, sQ]
    refine wpAnyH_done (by kernel_rfl) ?_ _
    refine NoPanic.normal ?_
    have q6 := rangeOf (l := acC ⟨num x, num y⟩) d6
    have c0 := q6 0 _ rfl
    have c1 := q6 1 _ rfl
    have h9 := hid ((hHeld.block _ (block_lt h0.out)).trans h0.out)
    have W9 := hid (w1e.out.trans (hHeld.mono w1e.out.size))
    have q7 := hid q6
    clear hHeld d6 q6
    go_wp2_with (first
     | ((with_reducible refine wpList_built rfl 65 _ rfl (acC ac0).toArray [] ?_ ?_ ?_); exact hb0.out; rfl)
     | ((with_reducible refine wpList_load_rng rfl 65 (.tmp 4) rfl g6 0 rfl (acC ⟨num x, num y⟩) _ ?_ hu rfl sizeAc ?_); exact q7.out)
     | ((with_reducible refine wpList_store_row rfl 65 (.tmp 2) (.tmp 28) rfl w.heap.size _ rfl rfl 65 (acC ac0).toArray ?_ ?_ ?_ ?_ ?_); exact h9.out; exact sizeAc; rfl; exact n0.out; intro w3 hg3 hb3 hs3)
     | ((with_reducible refine wpList_store_row rfl 65 (.tmp 2) (.tmp 29) rfl w.heap.size _ rfl rfl 65 (acC ac0).toArray ?_ ?_ ?_ ?_ ?_); exact h9.out; exact sizeAc; rfl; exact nb.out; intro w3 hg3 hb3 hs3))
    first
     | exact bodyPost_ret (res_ac rfl _ _ w.heap.size ac0 rfl hg3) rfl ⟨rfl, W9.out.grown hb3 W9.out.size (fun g e => by injection e with e; omega)⟩
     | exact bodyPost_ret (res_ac rfl _ _ w.heap.size ⟨num x, num y⟩ rfl hg3) rfl ⟨rfl, W9.out.grown hb3 W9.out.size (fun g e => by injection e with e; omega)⟩
   exact AllReadyH.nil
  refine AllReadyH.cons (o := _) rfl (fun K hK => ?_) ?_
  ·skip
   refine step_alloc_rowT rfl 65 rfl (acC ac0).toArray zInfoAc ?_
   intro g6 w8 b6 e6 hB
   have m6 := Nat.le_trans hHeld.size b6
   refine hK.out _ _ ?_ (fun hHeld => ?_)
   ·exact hHeld.trans (hB.mono hHeld.size)
   clear hK K
   try simp only [Act.put, sQ]
   refine wpAnyH_ready (rs := [2]) (by kernel_rfl) (by simp) ?_
   refine AllReadyH.cons (o := _) rfl (fun K hK => ?_) AllReadyH.nil
   go_simp
   refine (Number_any A 8 _ x _ (r1'.out _ (w1e.out.trans (hHeld.mono w1e.out.size))).1 lx'.out.symm (by rw [lx'.out]; omega)).mono ?_
   rintro e y2 ⟨rfl, rfl⟩
   go_wp2_with fail
   refine hK.out _ _ ?_ (fun hHeld => ?_)
   ·exact hHeld
   clear hK K
   try simp only [Act.put, sQ]
   refine wpAnyH_ready (rs := [5]) (by kernel_rfl) (by simp) ?_
   refine AllReadyH.cons (o := _) rfl (fun K hK => ?_) AllReadyH.nil
   go_simp
   refine (Number_any _ 8 _ y _ (r1'.out _ (w1e.out.trans (hHeld.mono w1e.out.size))).2 ly'.out.symm (by rw [ly'.out]; omega)).mono ?_
   rintro e y3 ⟨rfl, rfl⟩
   go_wp2_with fail
   refine hK.out _ _ ?_ (fun hHeld => ?_)
   ·exact hHeld
   clear hK K
   try simp only [Act.put, sQ]
   refine' tkH 6 rfl (yieldsIf_build (by rfl) _ _ rfl _ _ (bl.out) rfl) ?_
   try simp only [Act.put, sQ]
   refine wpAnyH_ready (rs := [8]) (by kernel_rfl) (by simp) ?_
   refine AllReadyH.cons (o := _) rfl (fun K hK => ?_) AllReadyH.nil
   refine step_store_rowT rfl 65 (.tmp 4) (.tmp 19) rfl g6 _ rfl rfl 65 (acC ac0).toArray e6 sizeAc rfl nb.out ?_
   intro w9 d6 hG
   refine hK.out _ _ ?_ (fun hHeld => ?_)
   ·exact hHeld.grown hG hHeld.size (by intro k hk; injection hk with hk; omega)
   clear hK K
   try simp only [Act.put, sQ]
   refine wpAnyH_done (by kernel_rfl) ?_ _
   refine NoPanic.normal ?_
   have q6 := rangeOf (l := acC ⟨num x, num y⟩) d6
   have c0 := q6 0 _ rfl
   have c1 := q6 1 _ rfl
   have h9 := hid ((hHeld.block _ (block_lt h0.out)).trans h0.out)
   have W9 := hid (w1e.out.trans (hHeld.mono w1e.out.size))
   have q7 := hid q6
   clear hHeld d6 q6
   go_wp2_with (first
    | ((with_reducible refine wpList_built rfl 65 _ rfl (acC ac0).toArray [] ?_ ?_ ?_); exact hb0.out; rfl)
    | ((with_reducible refine wpList_load_rng rfl 65 (.tmp 4) rfl g6 0 rfl (acC ⟨num x, num y⟩) _ ?_ hu rfl sizeAc ?_); exact q7.out)
    | ((with_reducible refine wpList_store_row rfl 65 (.tmp 2) (.tmp 28) rfl w.heap.size _ rfl rfl 65 (acC ac0).toArray ?_ ?_ ?_ ?_ ?_); exact h9.out; exact sizeAc; rfl; exact n0.out; intro w3 hg3 hb3 hs3)
    | ((with_reducible refine wpList_store_row rfl 65 (.tmp 2) (.tmp 29) rfl w.heap.size _ rfl rfl 65 (acC ac0).toArray ?_ ?_ ?_ ?_ ?_); exact h9.out; exact sizeAc; rfl; exact nb.out; intro w3 hg3 hb3 hs3))
   first
    | exact bodyPost_ret (res_ac rfl _ _ w.heap.size ac0 rfl hg3) rfl ⟨rfl, W9.out.grown hb3 W9.out.size (fun g e => by injection e with e; omega)⟩
    | exact bodyPost_ret (res_ac rfl _ _ w.heap.size ⟨num x, num y⟩ rfl hg3) rfl ⟨rfl, W9.out.grown hb3 W9.out.size (fun g e => by injection e with e; omega)⟩
  exact AllReadyH.nil
end

/- (Ref10b)
 The document's answers of layer 10: Held, In, Sum.
-/
section
open Go.RowKit

theorem held_step {ps : List Pr} {j : Nat} (hj : j < ps.length) : heldP (ps.take (j + 1)) = (heldP (ps.take j) && decide (acE ps[j].v = 0)) := by
 unfold heldP
 rw [List.take_succ_eq_append_getElem hj, List.all_append]
 simp
theorem held_no {ps : List Pr} {j : Nat} (hj : j < ps.length) (h : acE ps[j].v ≠ 0) : heldP ps = false := by
 refine Bool.eq_false_iff.2 fun q => h (held_iff.1 q _ (List.getElem_mem hj))
set_option maxHeartbeats 2000000 in
theorem RHeld_any (F : Nat → Prop) (A : Option Addr) (c n : Nat) (ps : List Pr) (w : World) (hr : Row F w A ps) (hn : n = ps.length) (hc : ps.length ≤ 1000000) :
  Calls Tryz.prog 34 #[.slice A n c] w fun e w' => e = .returned (.bool (heldP ps)) ∧ Below w.heap.size w w' := by
 subst hn
 obtain ⟨ans, ha⟩ : ∃ ans, heldP ps = ans := ⟨_, rfl⟩
 rw [ha]
 replace ha := hid ha
 go_enter Tryz.func34, Tryz.ntmps34
 go_wp2
 go_loopw [3] (fun i wr => ∃ k : Nat, k ≤ ps.length ∧ i = .int .i64 k ∧ heldP (ps.take k) = true ∧ Below w.heap.size w wr) (fun i _ => ps.length - (intOf i).toNat)
 case atStart => exact ⟨0, Nat.zero_le _, rfl, rfl, Below.refl _ _⟩
 case round =>
  obtain ⟨k, hk, rfl, hrel, hbw⟩ := hrel
  by_cases hlt : k < ps.length
  ·have hR := hr.bel hbw
   obtain ⟨b, o, hA, r1, A', c', hcell, _, h1, h2, h3⟩ := row_pr hR hlt
   subst hA
   have hS := held_step hlt
   rw [hrel, Bool.true_and] at hS
   have hno := hid (held_no hlt)
   obtain ⟨eb, heb⟩ : ∃ eb, (acE ps[k].v != 0) = eb := ⟨_, rfl⟩
   have hE1 : eb = true → acE ps[k].v ≠ 0 := fun h => by rw [h] at heb; simpa using heb
   have hE2 : eb = false → acE ps[k].v = 0 := fun h => by rw [h] at heb; simpa using heb
   replace hS := hid hS
   replace hrel := hid hrel
   replace hE1 := hid hE1
   replace hE2 := hid hE2
   have hRd := hid h3.rd
   have hc1 := hid (show ps[k].v.length ≤ c' from h1)
   have hRA := hid (fun W (h : Rd W A' ps[k].v) => RAcRead_any A' c' ps[k].v W h h1 h2)
   generalize ps[k].v = v at *
   generalize acE v = ev at *
   generalize acOf v = av at *
   have nb := hid (one_ac av)
   clear h3 hR r1
   go_wp2_with fail
   refine (hRA.out _ hRd.out).mono ?_
   rintro e w2 ⟨rfl, hb⟩
   have W2 := hid (hbw.trans (hb.mono hbw.size))
   have e2 := hid (heap_alloc_new w2 (.cells (acC ac0).toArray 65))
   clear hb hbw hRd hRA
   cases eb
   ·go_wp2_with (first
     | (with_reducible refine wpList_alloc_row rfl 65 rfl (acC ac0).toArray zInfoAc ?_)
     | ((with_reducible refine wpList_store_row rfl 65 (.tmp 4) (.tmp 19) rfl w2.heap.size _ rfl rfl 65 (acC ac0).toArray ?_ ?_ ?_ ?_ ?_); exact e2.out; exact sizeAc; rfl; exact nb.out; intro w3 hg3 hb3 hs3; have X3 := hid (xnewP rfl hb3)))
    go_roundw
    case rel => exact ⟨k + 1, by omega, by go_num, by rw [hS.out, hE2.out (by first | trivial | rfl)]; rfl, W2.out.trans (X3.out.mono W2.out.size)⟩
    case measure => simp [intOf]; omega
   ·go_wp2_with (first
     | (with_reducible refine wpList_alloc_row rfl 65 rfl (acC ac0).toArray zInfoAc ?_)
     | ((with_reducible refine wpList_store_row rfl 65 (.tmp 4) (.tmp 19) rfl w2.heap.size _ rfl rfl 65 (acC ac0).toArray ?_ ?_ ?_ ?_ ?_); exact e2.out; exact sizeAc; rfl; exact nb.out; intro w3 hg3 hb3 hs3; have X3 := hid (xnewP rfl hb3)))
    go_ret
    exact ⟨ret_b (by rw [← ha.out, hno.out (hE1.out (by first | trivial | rfl))]), W2.out.trans (X3.out.mono W2.out.size)⟩
  ·have hkl : k = ps.length := by omega
   subst hkl
   rw [List.take_length] at hrel
   replace hrel := hid hrel
   go_wp2
   go_ret
   exact ⟨ret_b (by rw [← ha.out, hrel.out]), hbw⟩
set_option maxHeartbeats 2000000 in
theorem RIn_any (F : Nat → Prop) (A : Option Addr) (c n : Nat) (ps : List Pr) (k : Dg) (w : World) (hr : Row F w A ps) (hn : n = ps.length) (hc : ps.length ≤ 1000000) (hs : Srt ps) :
  Calls Tryz.prog 38 #[.slice A n c, .agg (k.1.map bv).toArray] w fun e w' => e = .returned (.agg (acC (inA ps k)).toArray) ∧ Below w.heap.size w w' := by
 subst hn
 have hu := Tryz.underlying26
 have hua := Tryz.underlying65
 have h0 := heap_alloc_new w (.cells (k.1.map bv).toArray 26)
 have b0 := ext_alloc w (.cells (k.1.map bv).toArray 26)
 have h1 := heap_alloc_new (w.alloc (.cells (k.1.map bv).toArray 26)) (.cells (acC ac0).toArray 65)
 have b1 := ext_alloc (w.alloc (.cells (k.1.map bv).toArray 26)) (.cells (acC ac0).toArray 65)
 rw [World.size_alloc] at h1
 have K1 := hid (rangeBel2 b1 (rangeOf h0))
 have W1 := hid (b0.trans (b1.mono b0.size))
 have i1 := hid (sizeDg k)
 have r1 := hid ((hr.bel b0).bel b1)
 replace h1 := hid h1
 have hF := fun W hW => RFind_any F A c ps.length ps k W hW rfl (by omega)
 have hb0 := hid built_ac0
 have n0 := hid (one_ac ac0)
 by_cases hh : hasP ps k = true
 ·obtain ⟨j, hj, hf, hk⟩ := fndI_has hh
  rw [hf] at hF
  have hin : inA ps k = acOf ps[j].v := by unfold inA; rw [← hk, getV_mem hs (List.getElem_mem hj)]
  obtain ⟨av, hav⟩ : ∃ a, acOf ps[j].v = a := ⟨_, rfl⟩
  rw [hin, hav]
  replace hav := hid hav
  replace hF := hid hF
  have q1 : decide ((j : Int) < 0) = false := decide_eq_false (by omega)
  clear h0 b0 b1 hr hf hh hin hs
  generalize k.1.map bv = dk at *
  go_enter Tryz.func38, Tryz.ntmps38
  go_wp2_with (first
   | (with_reducible refine wpList_alloc_row rfl 65 rfl (acC ac0).toArray zInfoAc ?_)
   | ((with_reducible refine wpList_load_rng rfl 26 (.tmp 3) rfl w.heap.size 0 rfl dk _ ?_ hu rfl i1.out ?_); exact K1.out))
  refine (hF.out _ r1.out).mono ?_
  rintro e w2 ⟨rfl, hb⟩
  have W2 := hid (W1.out.trans (hb.mono W1.out.size))
  have h2 := hid ((hb.block _ (block_lt h1.out)).trans h1.out)
  have r2 := hid (r1.out.bel hb)
  clear hb hF r1 h1 K1
  obtain ⟨b, o, hA, _, A', c', hcell, _, g1, g2, g3⟩ := row_pr r2.out hj
  subst hA
  have hRd := hid g3.rd
  have hRA := fun W (h : Rd W A' ps[j].v) => RAcRead_any A' c' ps[j].v W h g1 g2
  rw [hav.out] at hRA
  replace hRA := hid hRA
  clear g3 r2 hav
  generalize ps[j].v = v at *
  generalize acE v = ev at *
  have nb := hid (one_ac av)
  have iv := hid (show (Tryz.prog.info? 65).map (·.size) = some (acC av).length from sizeAc)
  go_wp2_with fail
  refine (hRA.out _ hRd.out).mono ?_
  rintro e w3 ⟨rfl, hb⟩
  have W3 := hid (W2.out.trans (hb.mono W2.out.size))
  have h3 := hid ((hb.block _ (block_lt h2.out)).trans h2.out)
  have e3 := hid (heap_alloc_new w3 (.cells (acC ac0).toArray 65))
  have l3 := hid (block_lt h3.out)
  clear hb hRA hRd h2 hcell
  go_wp2_with (first
   | (with_reducible refine wpList_alloc_row rfl 65 rfl (acC ac0).toArray zInfoAc ?_)
   | ((with_reducible refine wpList_store_row rfl 65 (.tmp 6) (.tmp 21) rfl w3.heap.size _ rfl rfl 65 (acC ac0).toArray ?_ ?_ ?_ ?_ ?_); exact e3.out; exact sizeAc; rfl; exact nb.out; intro w4 hgS hbS hsS; have X4 := hid (xnewP rfl hbS); have q4 := hid (rangeOf hgS); have h4 := hid ((X4.out.block _ l3.out).trans h3.out); have W4 := hid (W3.out.trans (X4.out.mono W3.out.size)); clear hgS hbS hsS)
   | ((with_reducible refine wpList_load_rng rfl 65 (.tmp 6) rfl w3.heap.size 0 rfl (acC av) _ ?_ hua rfl iv.out ?_); exact q4.out)
   | ((with_reducible refine wpList_store_row rfl 65 (.tmp 4) (.tmp 23) rfl (w.heap.size + 1) _ rfl rfl 65 (acC ac0).toArray ?_ ?_ ?_ ?_ ?_); exact h4.out; exact sizeAc; rfl; exact nb.out; intro w5 hg5 hb5 hs5))
  refine bodyPost_ret (v := .agg (acC av).toArray) ?_ rfl ⟨rfl, ?_⟩
  ·exact results_cell_row Tryz.results38 _ _ (w.heap.size + 1) 65 _ (0, 0) _ rfl hg5 hua rfl sizeAc
  ·exact W4.out.grown hb5 W4.out.size (fun g e => by injection e with e; omega)
 ·have hh := Bool.eq_false_iff.2 hh
  rw [fndI_no hh] at hF
  rw [inA_none hh]
  replace hF := hid hF
  clear h0 b0 b1 hr hh hs
  generalize k.1.map bv = dk at *
  go_enter Tryz.func38, Tryz.ntmps38
  go_wp2_with (first
   | (with_reducible refine wpList_alloc_row rfl 65 rfl (acC ac0).toArray zInfoAc ?_)
   | ((with_reducible refine wpList_load_rng rfl 26 (.tmp 3) rfl w.heap.size 0 rfl dk _ ?_ hu rfl i1.out ?_); exact K1.out))
  refine (hF.out _ r1.out).mono ?_
  rintro e w2 ⟨rfl, hb⟩
  have W2 := hid (W1.out.trans (hb.mono W1.out.size))
  have h2 := hid ((hb.block _ (block_lt h1.out)).trans h1.out)
  clear hb hF r1 h1 K1
  go_wp2_with (first
   | ((with_reducible refine wpList_built rfl 65 _ rfl (acC ac0).toArray [] ?_ ?_ ?_); exact hb0.out; rfl)
   | ((with_reducible refine wpList_store_row rfl 65 (.tmp 4) (.tmp 13) rfl (w.heap.size + 1) _ rfl rfl 65 (acC ac0).toArray ?_ ?_ ?_ ?_ ?_); exact h2.out; exact sizeAc; rfl; exact n0.out; intro w5 hg5 hb5 hs5))
  refine bodyPost_ret (v := .agg (acC ac0).toArray) ?_ rfl ⟨rfl, ?_⟩
  ·exact results_cell_row Tryz.results38 _ _ (w.heap.size + 1) 65 _ (0, 0) _ rfl hg5 hua rfl sizeAc
  ·exact W2.out.grown hb5 W2.out.size (fun g e => by injection e with e; omega)
/-! ### totals -/
end

/- (Ref10c)
 The document's answers of layer 10: May, Check, Total, Get.
-/
section
open Go.RowKit

/-- Is a tree a state? -/
def mayA (t : Tr) : Bool := mayT t && heldP (allT t)
theorem all_len {t : Tr} (h : mayT t = true) (hc : t.ns.length ≤ 1000000) : (allT t).length ≤ 1000000 := Nat.le_trans (all_spec h).2.2.1 hc
set_option maxHeartbeats 1000000 in
theorem RAcMay_any (F : Nat → Prop) (A : Option Addr) (c : Nat) (ns : List Nd) (root : Int) (w : World) (hr : Row F w A ns) (hc : ns.length ≤ 1000000) :
  Calls Tryz.prog 17 #[.agg #[.slice A ns.length c, .int .i64 root]] w fun e w' => e = .returned (.bool (mayA ⟨ns, root⟩)) ∧ Below w.heap.size w w' := by
 have hut := Tryz.underlying24
 have T0 := BoxT.new w A ns.length c root 24
 have W0 := hid (ext_alloc w (.cells #[.slice A ns.length c, .int .i64 root] 24))
 have jT := hid (show (Tryz.prog.info? 24).map (·.size) = some ([Value.slice A ns.length c, .int .i64 root]).length from sizeTr)
 have r0 := hid (hr.bel W0.out)
 have X0 := hid T0.all
 obtain ⟨m, hm⟩ : ∃ m, mayT ⟨ns, root⟩ = m := ⟨_, rfl⟩
 have hM := fun W hW => RMayT_is F A c ns root m W hW (by omega) hm
 obtain ⟨csT, hcs⟩ : ∃ cs, [Value.slice A ns.length c, .int .i64 root] = cs := ⟨_, rfl⟩
 have hcsA : #[Value.slice A ns.length c, .int .i64 root] = csT.toArray := by rw [← hcs]
 cases m with
 | false =>
  have e : mayA ⟨ns, root⟩ = false := by unfold mayA; rw [hm]; rfl
  rw [e]
  clear e hm
  rw [hcsA] at W0 X0 r0 hM ⊢
  rw [hcs] at X0 jT
  replace hM := hid hM
  clear T0 hcs hcsA
  go_enter Tryz.func17, Tryz.ntmps17
  go_wp2_with (first
   | ((with_reducible refine wpList_load_rng ?_ 24 (.tmp 1) rfl w.heap.size 0 rfl csT _ ?_ hut rfl jT.out ?_); rfl; exact X0.out))
  refine (hM.out _ r0.out).mono ?_
  rintro e w1 ⟨rfl, hb⟩
  go_wp2
  go_ret
  exact ⟨rfl, W0.out.trans (hb.mono W0.out.size)⟩
 | true =>
  have e : mayA ⟨ns, root⟩ = heldP (allT ⟨ns, root⟩) := by unfold mayA; rw [hm]; rfl
  have hA := fun W hW => RAllT_any F A c ns root W hW hc hm
  have hl := all_len hm hc
  rw [e]
  clear e hm
  generalize allT ⟨ns, root⟩ = ps at *
  have hH := hid (fun G A c W (h : Row G W A ps) => RHeld_any G A c ps.length ps W h rfl hl)
  generalize heldP ps = h at *
  rw [hcsA] at W0 X0 r0 hM hA ⊢
  rw [hcs] at X0 jT
  replace hM := hid hM
  replace hA := hid hA
  clear T0 hcs hcsA
  go_enter Tryz.func17, Tryz.ntmps17
  go_wp2_with (first
   | ((with_reducible refine wpList_load_rng ?_ 24 (.tmp 1) rfl w.heap.size 0 rfl csT _ ?_ hut rfl jT.out ?_); rfl; exact X0.out))
  refine (hM.out _ r0.out).mono ?_
  rintro e w1 ⟨rfl, hb⟩
  have W1 := hid (W0.out.trans (hb.mono W0.out.size))
  have X1 := hid (rangeBel2 hb X0.out)
  have r1 := hid (r0.out.bel hb)
  clear hb
  go_wp2_with (first
   | ((with_reducible refine wpList_load_rng ?_ 24 (.tmp 1) rfl w.heap.size 0 rfl csT _ ?_ hut rfl jT.out ?_); rfl; exact X1.out))
  refine (hA.out _ r1.out).mono ?_
  rintro e w2 ⟨A2, c2, rfl, o2, hb⟩
  have W2 := hid (W1.out.trans (hb.mono W1.out.size))
  have r2 := hid (OwnR.row o2)
  clear hb o2
  go_wp2_with fail
  refine (hH.out _ _ _ _ r2.out).mono ?_
  rintro e w3 ⟨rfl, hb⟩
  go_wp2
  go_ret
  exact ⟨rfl, W2.out.trans (hb.mono W2.out.size)⟩
/-- The account of a key in a state, or the zero one. -/
def getA (t : Tr) (k : Dg) : Ac := if mayA t = true then inA (allT t) k else ac0
end

/- (Ref10d)
 The document's answers of layer 10: With, Set.
-/
section
open Go.RowKit

theorem boxesDA (w : World) (k : Dg) (a : Ac) (t u : TypeId) :
  ((w.alloc (.cells (k.1.map bv).toArray t)).alloc (.cells (acC a).toArray u)).rangeAt w.heap.size 0 (k.1.map bv) ∧ ((w.alloc (.cells (k.1.map bv).toArray t)).alloc (.cells (acC a).toArray u)).rangeAt (w.heap.size + 1) 0 (acC a) ∧
  Below w.heap.size w ((w.alloc (.cells (k.1.map bv).toArray t)).alloc (.cells (acC a).toArray u)) := by
 have h1 := rangeOf (heap_alloc_new w (.cells (k.1.map bv).toArray t))
 have h2 := rangeOf (heap_alloc_new (w.alloc (.cells (k.1.map bv).toArray t)) (.cells (acC a).toArray u))
 rw [World.size_alloc] at h2
 exact ⟨rangeBel2 (ext_alloc _ _) h1, h2, ext_trans (ext_alloc _ _) (ext_alloc _ _)⟩
theorem ac_zero (a : Ac) : a = ac0 ↔ (((a.n : Int) == 0) = true ∧ ((a.b : Int) == 0) = true) := by
 constructor
 ·rintro rfl; exact ⟨rfl, rfl⟩
 ·intro h; simp at h; exact ac_ext h.1 h.2
set_option maxHeartbeats 2000000 in
theorem RAcWith_any (F : Nat → Prop) (A : Option Addr) (c n : Nat) (ps : List Pr) (k : Dg) (a : Ac) (w : World) (ha : a.ok) (hr : Row F w A ps) (hn : n = ps.length) (hc : ps.length ≤ 1000000) (hv : ∀ p ∈ ps, p.v.length ≤ 1000000) :
  Calls Tryz.prog 40 #[.slice A n c, .agg (k.1.map bv).toArray, .agg (acC a).toArray] w fun e w' => ∃ A' c', e = .returned (.slice A' (setP ps k a).length c') ∧ OwnR 84 w' w.heap.size A' c' (setP ps k a) ∧ Below w.heap.size w w' := by
 subst hn
 have hu := Tryz.underlying26
 have hua := Tryz.underlying65
 obtain ⟨K0, A0, W0⟩ := boxesDA w k a 26 65
 replace K0 := hid K0
 replace W0 := hid W0
 have c0 := A0 0 _ rfl
 have c1 := A0 1 _ rfl
 replace A0 := hid A0
 have i1 := hid (sizeDg k)
 have ia := hid (show (Tryz.prog.info? 65).map (·.size) = some (acC a).length from sizeAc)
 have r0 := hid (hr.bel W0.out)
 obtain ⟨bx, hbx⟩ : ∃ b, ((a.n : Int) == 0) = b := ⟨_, rfl⟩
 obtain ⟨cy, hcy⟩ : ∃ b, ((a.b : Int) == 0) = b := ⟨_, rfl⟩
 have hz : a = ac0 ↔ (bx = true ∧ cy = true) := by rw [ac_zero, hbx, hcy]
 by_cases hzz : a = ac0
 ·have e : setP ps k a = withoutP ps k := by unfold setP; rw [if_pos hzz]
  rw [e]
  obtain ⟨rfl, rfl⟩ := hz.1 hzz
  have hW := fun W h => RWithout_any F A c ps.length ps k W h rfl hc hv
  generalize withoutP ps k = qs at *
  replace hW := hid hW
  clear hz hzz e hr hv
  generalize k.1.map bv = dk at *
  generalize hca : acC a = ca at *
  go_enter Tryz.func40, Tryz.ntmps40
  go_wp2_with (first
   | ((with_reducible refine wpList_load_rng ?_ 26 (.tmp 4) rfl w.heap.size 0 rfl dk _ ?_ hu rfl i1.out ?_); rfl; exact K0.out))
  refine (hW.out _ r0.out).mono ?_
  rintro e w1 ⟨A1, k1, rfl, o1, hb⟩
  go_wp2
  go_ret
  exact ⟨_, _, rfl, o1.base W0.out.size, W0.out.trans (hb.mono W0.out.size)⟩
 ·have e : setP ps k a = withP ps k (acB a) := by unfold setP; rw [if_neg hzz]
  rw [e]
  have hB := hid (fun W => RAcBytes_any a ha W)
  have hl := acB_len a
  have hW := fun V m d W h hV (hm : m = (acB a).length) => RWith_any F A V c ps.length m d ps k (acB a) W h rfl hV hm hc hv (by rw [hl]; omega)
  clear hl
  generalize withP ps k (acB a) = qs at *
  generalize acB a = v at *
  replace hW := hid hW
  have hq : ¬ (bx = true ∧ cy = true) := fun q => hzz (hz.2 q)
  clear hz hzz e hr hv
  generalize k.1.map bv = dk at *
  generalize hca : acC a = ca at *
  rcases bx with _ | _
  rotate_left
  rcases cy with _ | _
  rotate_left
  ·exact absurd ⟨rfl, rfl⟩ hq
  all_goals
   clear hq
   go_enter Tryz.func40, Tryz.ntmps40
   go_wp2
   generalize (w.alloc (.cells dk.toArray 26)).alloc (.cells ca.toArray 65) = w1 at *
   refine wp_region_noPanic ?_
   refine wp_region_held_drew (S := fun w' => Below w1.heap.size w1 w') (by kernel_rfl) ?_ (fun hHeld => ?_)
   ·exact bel_drew w1
   refine' tkL 0 ?_ rfl ?_ ?_
   rotate_left
   ·intro W hSw
    go_simp
    first | done | (with_reducible rfl)
   try simp only [Act.put, sQ]
   refine' tkH 1 rfl (yieldsIf_load_mid (by rfl) _ _ rfl _ _ rfl _ _ (fun _ h => rangeBel2 h K0.out) hu rfl i1.out) ?_
   try simp only [Act.put, sQ]
   refine' tkH 2 rfl (yieldsIf_load_mid (by rfl) _ _ rfl _ _ rfl _ _ (fun _ h => rangeBel2 h A0.out) hua rfl ia.out) ?_
   try simp only [Act.put, sQ]
   refine wpAnyH_ready (rs := [3]) (by kernel_rfl) (by simp) ?_
   refine AllReadyH.cons (o := _) rfl (fun K hK => ?_) AllReadyH.nil
   go_simp
   refine (hB.out _).mono ?_
   rintro e v1 ⟨A2, c2, rfl, o2, hB⟩
   have r2 := hid o2.rd
   go_wp2_with fail
   refine hK.out _ _ ?_ (fun hHeld => ?_)
   ·exact hHeld.trans (hB.mono hHeld.size)
   clear hK K
   try simp only [Act.put, sQ]
   refine wpAnyH_ready (rs := [4]) (by kernel_rfl) (by simp) ?_
   refine AllReadyH.cons (o := _) rfl (fun K hK => ?_) AllReadyH.nil
   go_simp
   refine (hW.out _ _ _ _ (r0.out.bel hHeld) r2.out rfl).mono ?_
   rintro e v2 ⟨A3, c3, rfl, o3, hB⟩
   have m3 := hid hHeld.size
   go_wp2_with fail
   refine hK.out _ _ ?_ (fun hHeld => ?_)
   ·exact hHeld.trans (hB.mono hHeld.size)
   clear hK K
   try simp only [Act.put, sQ]
   refine' tkL 5 ?_ rfl ?_ ?_
   rotate_left
   ·intro W hSw
    go_simp
    first | done | (with_reducible rfl)
   try simp only [Act.put, sQ]
   refine wpAnyH_done (by kernel_rfl) ?_ _
   refine NoPanic.normal ?_
   go_wp2
   go_ret
   exact ⟨_, _, rfl, o3.base (Nat.le_trans W0.out.size m3.out), W0.out.trans (hHeld.mono W0.out.size)⟩
end

/- (AcQ)
 Layer 10, plain: what is gone through of a tree's accounts, in order. No program is named here.
-/
section
open Go.RowKit

/-- What is yielded of pairs: their accounts, each with 0; at the first that has none: 8, and nothing more. -/
def itA : List Pr → List (Ac × Int)
 | [] => []
 | p :: ps => if acE p.v = 0 then (acOf p.v, 0) :: itA ps else [(ac0, 8)]
def seqA (t : Tr) : List (Ac × Int) := if mayT t = true then itA (allT t) else [(ac0, 8)]
theorem itA_good {ps : List Pr} (h : heldP ps = true) : itA ps = ps.map fun p => (acOf p.v, 0) := by
 induction ps with
 | nil => rfl
 | cons p ps ih =>
  rw [held_iff] at h
  unfold itA
  rw [if_pos (h p (List.mem_cons_self ..)), ih (held_iff.2 fun q hq => h q (List.mem_cons_of_mem _ hq))]
  rfl
theorem itA_bad {ps : List Pr} (h : heldP ps = false) : ∃ x ∈ itA ps, x.2 ≠ 0 := by
 induction ps with
 | nil => cases h
 | cons p ps ih =>
  unfold itA
  split
  ·rename_i hz
   have : heldP ps = false := by
    rw [heldP, List.all_cons, decide_eq_true hz, Bool.true_and] at h
    exact h
   obtain ⟨x, hx, hx2⟩ := ih this
   exact ⟨x, List.mem_cons_of_mem _ hx, hx2⟩
  ·exact ⟨_, List.mem_singleton.2 rfl, by decide⟩
theorem itA_fst : ∀ (ps : List Pr), ∀ x ∈ itA ps, x.2 = 0 ∨ x.2 = 8
 | [], x, h => by cases h
 | p :: ps, x, h => by
  unfold itA at h
  split at h
  ·rcases List.mem_cons.1 h with rfl | h
   ·exact .inl rfl
   ·exact itA_fst ps x h
  ·rw [List.mem_singleton.1 h]; exact .inr rfl
/-- The step of a loop over pairs: what has been yielded ahead of place j. -/
theorem itA_take {ps : List Pr} {j : Nat} (h : j < ps.length) (hh : heldP (ps.take j) = true) (hz : acE ps[j].v = 0) : heldP (ps.take (j + 1)) = true := by
 rw [held_iff] at hh ⊢
 intro p hp
 rw [List.take_succ_eq_append_getElem h] at hp
 rcases List.mem_append.1 hp with hp | hp
 ·exact hh p hp
 ·rw [List.mem_singleton.1 hp]; exact hz
theorem itA_stop {ps : List Pr} {j : Nat} (h : j < ps.length) (hh : heldP (ps.take j) = true) (hz : ¬ acE ps[j].v = 0) : itA ps = ((ps.take j).map fun p => (acOf p.v, (0 : Int))) ++ [(ac0, 8)] := by
 induction ps generalizing j with
 | nil => simp at h
 | cons p ps ih =>
  cases j with
  | zero =>
   unfold itA
   rw [if_neg (by simpa using hz)]
   rfl
  | succ j =>
   rw [List.take_succ_cons] at hh
   have hp := held_iff.1 hh p (List.mem_cons_self ..)
   unfold itA
   rw [if_pos hp, ih (j := j) (by simpa using h) (held_iff.2 fun q hq => held_iff.1 hh q (List.mem_cons_of_mem _ hq)) (by simpa using hz)]
   rfl
theorem seqA_fst (t : Tr) : ∀ x ∈ seqA t, x.2 = 0 ∨ x.2 = 8 := fun x h => by
 unfold seqA at h
 split at h
 ·exact itA_fst _ x h
 ·rw [List.mem_singleton.1 h]; exact .inr rfl
/-- Something wrong was yielded just where the tree is no state. -/
theorem seqA_may (t : Tr) : mayA t = true ↔ ∀ x ∈ seqA t, x.2 = 0 := by
 unfold mayA seqA
 cases h : mayT t with
 | false => simp
 | true =>
  rw [Bool.true_and, if_pos rfl]
  constructor
  ·intro hh x hx
   rw [itA_good hh] at hx
   obtain ⟨p, -, rfl⟩ := List.mem_map.1 hx
   rfl
  ·intro hh
   cases hq : heldP (allT t) with
   | true => rfl
   | false =>
    obtain ⟨x, hx, hx2⟩ := itA_bad hq
    exact absurd (hh x hx) hx2
end
end Go.Proofs.YtmjocmogfckmmaaGreatDoor
