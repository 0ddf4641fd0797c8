/-
  The document's answers of layer 10: Key, Bytes, Read.
-/
import Derived.Test.YtcifncmfjlbhjaaDoorAc
import Derived.Test.YtcifncmfjlbhjaaDoorStepT
import Derived.Test.YtcifncmfjlbhjaaDoorRNumber
import Derived.Test.YtcifncmfjlbhjaaDoorRefC
import Derived.Test.YtcifncmfjlbhjaaDoorMem
namespace Go.Proofs.YtcifncmfjlbhjaaDoor
open Go.RowKit
set_option linter.unusedVariables false
set_option linter.unusedSimpArgs false
set_option maxRecDepth 100000

theorem slotU8k : Slot Tryd.prog UInt8 28 5 (.int .u8 0) 1 where
  under := Tryd.underlying28
  info := by kernel_rfl
  zero := by decide +kernel
  pos := by decide
theorem res_ac {fn : Func} {p u : Tmp} (h : fn.results = #[.cell p 24, .tmp u]) (tmps : Array Value) (w : World) (g : Nat) (a : Ac) (e1 : tmps.getD p undef = .pointer (some ⟨g, 0, none⟩))
    (hg : w.heap[g]? = some (.cells (acC a).toArray 24 (0, 0))) : (results fn tmps).run Tryd.prog w = .ok (.tuple #[.agg (acC a).toArray, tmps.getD u undef]) w := by
  have h2 := run_loadVar_mid (P := Tryd.prog) w g 0 24 (acC a) _ (rangeOf hg) Tryd.underlying24 rfl sizeAc
  rw [results_cell_tmp h, e1]
  simp only [asAddr, Sem.run_pure, Result.andThen_ok, h2]
/-- A key's digest. -/
def keyD (p : Dg) : Dg := ⟨sha256 (tagB 3 [p.1]), S8.bytes_len _⟩
theorem RAcKey_any (p : Dg) (w : World) : Calls Tryd.prog 13 #[.agg (p.1.map bv).toArray] w fun e w' => e = .returned (.agg ((keyD p).1.map bv).toArray) ∧ Below w.heap.size w w' := by
  have h0 := heap_alloc_new w (.cells (p.1.map bv).toArray 35)
  have b0 := ext_alloc w (.cells (p.1.map bv).toArray 35)
  have h1 := heap_alloc_new (w.alloc (.cells (p.1.map bv).toArray 35)) (.cells z32 35)
  have b1 := ext_alloc (w.alloc (.cells (p.1.map bv).toArray 35)) (.cells z32 35)
  rw [World.size_alloc] at h1
  have hk := hid (rd_blockP ((b1.block _ (block_lt h0)).trans h0))
  have W1 := hid (b0.trans (b1.mono b0.size))
  replace h1 := hid h1
  have hO := hid (fun W (h : Rd W (some ⟨w.heap.size, 0, none⟩) p.1) => ROneD_any 3 (some ⟨w.heap.size, 0, none⟩) 32 p.1 W h ⟨by rw [p.2]; decide, by decide⟩ (by rw [p.2]; decide))
  have hD : sha256 (tagB 3 [p.1]) = (keyD p).1 := rfl
  rw [hD] at hO
  simp only [p.2] at hO
  replace hO := hid hO
  have hsl := run_all32P
  have z1 : (((keyD p).1.map bv).toArray).size = 32 := by simp [(keyD p).2]
  have o1 := bvs_all (keyD p).1
  clear h0 b0 b1 hD
  generalize (keyD p).1.map bv = dk at *
  generalize (p.1.map bv).toArray = dp at *
  go_enter Tryd.func13, Tryd.ntmps13
  go_wp2_with (first
    | (with_reducible refine wpList_alloc_row rfl 35 rfl z32 info32 ?_))
  refine (hO.out.out _ hk.out).mono ?_
  rintro e w3 ⟨rfl, hb3⟩
  have R3 := hid ((hb3.block _ (block_lt h1.out)).trans h1.out)
  have W3 := hid (W1.out.trans (hb3.mono W1.out.size))
  clear hb3
  go_wp2_with (first
    | ((with_reducible refine wpList_store_row rfl 35 (.tmp 2) (.tmp 4) rfl (w.heap.size + 1) _ rfl rfl 35 z32 ?_ ?_ ?_ ?_ ?_); exact R3.out; (rw [z1]; exact size32); (rw [z1]; exact z32_size); exact o1; intro w4 hg4 hb4 hs4))
  refine bodyPost_ret (v := .agg dk.toArray) ?_ rfl ⟨rfl, ?_⟩
  · exact results_cell_row Tryd.results13 _ _ (w.heap.size + 1) 35 _ (0, 0) _ rfl hg4 Tryd.underlying35 rfl (by rw [z1]; exact size32)
  · exact W3.out.grown hb4 W3.out.size (fun g e => by injection e with e; omega)
set_option maxHeartbeats 1000000 in
theorem RAcBytes_any (a : Ac) (ha : a.ok) (w : World) :
    Calls Tryd.prog 16 #[.agg (acC a).toArray] w fun e w' => ∃ A c, e = .returned (.slice A (acB a).length c) ∧ Own 5 w' w.heap.size A c (acB a) ∧ Below w.heap.size w w' := by
  have h0 := heap_alloc_new w (.cells (acC a).toArray 24)
  have b0 := hid (ext_alloc w (.cells (acC a).toArray 24))
  have q0 := hid (rangeOf h0)
  have c0 := q0.out 0 _ rfl
  have c1 := q0.out 1 _ rfl
  have d1 := fun W => Digits_any a.n 8 W (by decide) (by decide) ha.1
  have d2 := fun W => Digits_any a.b 8 W (by decide) (by decide) ha.2
  replace d1 := hid d1
  replace d2 := hid d2
  have l1 := be_length 8 a.n
  have l2 := be_length 8 a.b
  have hB : acB a = be 8 a.n ++ be 8 a.b := rfl
  obtain ⟨x, hx⟩ : ∃ x, be 8 a.n = x := ⟨_, rfl⟩
  obtain ⟨y, hy⟩ : ∃ y, be 8 a.b = y := ⟨_, rfl⟩
  rw [hx] at d1 l1 hB
  rw [hy] at d2 l2 hB
  rw [hB]
  have h16 : (x ++ y).length = 16 := by rw [List.length_append, l1, l2]
  obtain ⟨z, hz⟩ : ∃ z, x ++ y = z := ⟨_, rfl⟩
  have hz2 := hid hz
  rw [hz] at h16 ⊢
  clear h0 hx hy hB hz q0
  replace c0 := c0
  go_enter Tryd.func16, Tryd.ntmps16
  go_wp2_with fail
  refine (d1.out _).mono ?_
  rintro e w1 ⟨A1, k1, rfl, o1, hb⟩
  have c11 := (hb.cell (World.block_lt_of_cell? _ _ c1)).trans c1
  have W1 := hid (b0.out.trans (hb.mono b0.out.size))
  replace o1 := hid (o1.base b0.out.size)
  clear hb c0 c1
  go_wp2_with fail
  refine (d2.out _).mono ?_
  rintro e w2 ⟨A2, k2, rfl, o2, hb⟩
  have W2 := hid (W1.out.trans (hb.mono W1.out.size))
  have r2 := hid o2.rd
  replace o1 := hid (o1.out.bel hb)
  clear hb o2 c11
  go_wp2_with (first
    | (at_builtin; refine wpList_app u8s rfl (.tmp 19) (.tmp 20) rfl w.heap.size A1 A2 8 8 k1 k2 x y rfl rfl l1.symm l2.symm o1.out r2.out (by rw [l1, l2]; omega) W2.out.size ?_; intro A3 k3 w3 o3 hb3; rw [hz2.out] at o3 ⊢))
  rw [h16] at *
  go_ret
  exact ⟨_, _, rfl, o3, W2.out.trans hb3⟩
set_option maxHeartbeats 2000000 in
theorem RAcRead_any (A : Option Addr) (c : Nat) (l : List UInt8) (w : World) (hr : Rd w A l) (hc : l.length ≤ c) (hm : c ≤ maxLen) :
    Calls Tryd.prog 12 #[.slice A l.length c] w fun e w' => e = .returned (.tuple #[.agg (acC (acOf l)).toArray, .int .i64 (acE l)]) ∧ Below w.heap.size w w' := by
  have hu := Tryd.underlying24
  have h0 := hid (heap_alloc_new w (.cells (acC ac0).toArray 24))
  have b0 := hid (ext_alloc w (.cells (acC ac0).toArray 24))
  have hb0 := hid built_ac0
  have s2 := hid (show (Tryd.prog.info? 24).map (·.size) = some (acC ac0).toArray.size from sizeAc)
  have n0 := hid (one_ac ac0)
  by_cases h16 : l.length < 16
  · have e1 : acE l = 10 := by unfold acE; rw [if_pos h16]
    have e2 : acOf l = ac0 := acOf_no (by rw [e1]; decide)
    rw [e1, e2]
    have q1 : decide ((l.length : Int) < 16) = true := decide_eq_true (by omega)
    clear e1 e2
    generalize hca : (acC ac0).toArray = ca at *
    go_enter Tryd.func12, Tryd.ntmps12
    go_wp2_with (first
      | (with_reducible refine wpList_alloc_row rfl 24 rfl ca (by rw [← hca]; exact zInfoAc) ?_)
      | ((with_reducible refine wpList_built rfl 24 _ rfl ca [] ?_ ?_ ?_); exact hb0.out; rfl)
      | ((with_reducible refine wpList_store_row rfl 24 (.tmp 2) (.tmp 8) rfl w.heap.size _ rfl rfl 24 ca ?_ ?_ ?_ ?_ ?_); exact h0.out; exact s2.out; rfl; exact n0.out; intro w3 hg3 hb3 hs3))
    subst hca
    exact bodyPost_ret (res_ac rfl _ _ w.heap.size ac0 rfl hg3) rfl ⟨rfl, b0.out.grown hb3 b0.out.size (fun g e => by injection e with e; omega)⟩
  have q1 : decide ((l.length : Int) < 16) = false := decide_eq_false (by omega)
  by_cases h17 : 16 < l.length
  · have e1 : acE l = 11 := by unfold acE; rw [if_neg h16, if_pos h17]
    have e2 : acOf l = ac0 := acOf_no (by rw [e1]; decide)
    rw [e1, e2]
    have q2 : decide (16 < (l.length : Int)) = true := decide_eq_true (by omega)
    clear e1 e2 h16
    generalize hca : (acC ac0).toArray = ca at *
    go_enter Tryd.func12, Tryd.ntmps12
    go_wp2_with (first
      | (with_reducible refine wpList_alloc_row rfl 24 rfl ca (by rw [← hca]; exact zInfoAc) ?_)
      | ((with_reducible refine wpList_built rfl 24 _ rfl ca [] ?_ ?_ ?_); exact hb0.out; rfl)
      | ((with_reducible refine wpList_store_row rfl 24 (.tmp 2) (.tmp 12) rfl w.heap.size _ rfl rfl 24 ca ?_ ?_ ?_ ?_ ?_); exact h0.out; exact s2.out; rfl; exact n0.out; intro w3 hg3 hb3 hs3))
    subst hca
    exact bodyPost_ret (res_ac rfl _ _ w.heap.size ac0 rfl hg3) rfl ⟨rfl, b0.out.grown hb3 b0.out.size (fun g e => by injection e with e; omega)⟩
  have q2 : decide (16 < (l.length : Int)) = false := decide_eq_false (by omega)
  have hl : l.length = 16 := by omega
  obtain ⟨x, hx⟩ : ∃ x, l.take 8 = x := ⟨_, rfl⟩
  obtain ⟨y, hy⟩ : ∃ y, l.drop 8 = y := ⟨_, rfl⟩
  have r1 : Rd w A x := by rw [← hx]; exact hr.take 8
  have r2 : Rd w (cutA A c 8 1) y := by
    rw [← hy]
    exact ((hr.row (F := fun _ => True) fun _ _ _ => trivial).cut 8 c (by omega) hc).rd
  have lx : x.length = 8 := by rw [← hx, List.length_take]; omega
  have ly : y.length = 8 := by rw [← hy, List.length_drop]; omega
  have E1 : acE l = if num x = 0 ∧ num y = 0 then 8 else 0 := by unfold acE; rw [if_neg h16, if_neg h17, hx, hy]
  have E2 : acOf l = if num x = 0 ∧ num y = 0 then ac0 else ⟨num x, num y⟩ := by
    unfold acOf
    rw [E1, hx, hy]
    by_cases hz : num x = 0 ∧ num y = 0
    · rw [if_pos hz, if_pos hz]; rfl
    · rw [if_neg hz, if_neg hz]; rfl
  obtain ⟨bx, hbx⟩ : ∃ b, ((num x : Int) == 0) = b := ⟨_, rfl⟩
  obtain ⟨cy, hcy⟩ : ∃ b, ((num y : Int) == 0) = b := ⟨_, rfl⟩
  have ax : (⟨num x, num y⟩ : Ac).ok := ⟨num_lt8 lx, num_lt8 ly⟩
  have hz : (num x = 0 ∧ num y = 0) ↔ (bx = true ∧ cy = true) := by rw [← hbx, ← hcy]; simp
  have E3 : (if num x = 0 ∧ num y = 0 then (8 : Int) else 0) = if bx && cy then 8 else 0 := by
    cases bx <;> cases cy <;> simp_all
  have E4 : (if num x = 0 ∧ num y = 0 then ac0 else ⟨num x, num y⟩ : Ac) = if bx && cy then ac0 else ⟨num x, num y⟩ := by
    cases bx <;> cases cy <;> simp_all
  rw [E1, E2, E3, E4]
  have w1e := b0
  replace h0 := h0
  have r1' := hid (fun W (hb : Below w.heap.size w W) => (show Rd W A x ∧ Rd W (cutA A c 8 1) y from ⟨r1.bel hb, r2.bel hb⟩))
  have sl1 := hid (fun W => run_upto slotU8k A l.length c 8 (by omega) W)
  have sl2 := hid (fun W => run_from slotU8k A l.length c 8 (by omega) W)
  have hl2 : l.length - 8 = 8 := by omega
  rw [hl2] at sl2
  have bl := hid (built_ac (num x) (num y))
  have nb := hid (one_ac ⟨num x, num y⟩)
  have lx' := hid lx
  have ly' := hid ly
  clear E1 E2 E3 E4 hz hx hy h16 h17 hl hl2 r1 r2 hc hm hr lx ly
  go_enter Tryd.func12, Tryd.ntmps12
  go_wp2_with (first
    | (with_reducible refine wpList_alloc_row rfl 24 rfl (acC ac0).toArray zInfoAc ?_))
  generalize w.alloc (.cells (acC ac0).toArray 24) = w1 at *
  rcases bx with _ | _
  rotate_left
  cases cy
  all_goals
    refine wp_region_noPanic ?_
    refine wp_region_held_drew (S := fun w' => Below w1.heap.size w1 w') (by kernel_rfl) ?_ (fun hHeld => ?_)
    · exact bel_drew w1
    refine' wpAnyH_take (i := 0) (oi := _) (v := ?_) rfl (by kernel_rfl) (by kernel_rfl) (by kernel_rfl) (fun _ _ _ h => h) (Or.inl ⟨by rfl, ?_⟩) (by assumption) ?_
    rotate_left
    · intro W hSw
      go_simp
      first | done | (with_reducible rfl)
    try simp only [Act.put, sQa, sQb, sQc, gQa, gQb, gQc]
    refine' wpAnyH_take (i := 1) (oi := _) (v := _) rfl (by kernel_rfl) (by kernel_rfl) (by kernel_rfl) (fun _ _ _ h => h) (yieldsIf_slice (by rfl) _ _ _ _ _ rfl _ _ _ _ _ (sl1.out) rfl rfl rfl rfl) (by assumption) ?_
    try simp only [Act.put, sQa, sQb, sQc, gQa, gQb, gQc]
    refine' wpAnyH_take (i := 3) (oi := _) (v := ?_) rfl (by kernel_rfl) (by kernel_rfl) (by kernel_rfl) (fun _ _ _ h => h) (Or.inl ⟨by rfl, ?_⟩) (by assumption) ?_
    rotate_left
    · intro W hSw
      go_simp
      first | done | (with_reducible rfl)
    try simp only [Act.put, sQa, sQb, sQc, gQa, gQb, gQc]
    refine' wpAnyH_take (i := 4) (oi := _) (v := _) rfl (by kernel_rfl) (by kernel_rfl) (by kernel_rfl) (fun _ _ _ h => h) (yieldsIf_slice (by rfl) _ _ _ _ _ rfl _ _ _ _ _ (sl2.out) rfl rfl rfl rfl) (by assumption) ?_
    try simp only [Act.put, sQa, sQb, sQc, gQa, gQb, gQc]
    refine wpAnyH_ready (rs := [2, 7]) (by kernel_rfl) (by simp) ?_
    refine AllReadyH.cons (o := _) rfl (fun K hK => ?_) ?_
    · skip
      go_simp
      refine (Number_any A 8 _ x _ (r1'.out _ (w1e.out.trans (hHeld.mono w1e.out.size))).1 lx'.out.symm (by rw [lx'.out]; omega)).mono ?_
      rintro e y2 ⟨rfl, rfl⟩
      go_wp2_with fail
      refine hK.out _ _ ?_ (fun hHeld => ?_)
      · exact hHeld
      clear hK K
      try simp only [Act.put, sQa, sQb, sQc, gQa, gQb, gQc]
      refine wpAnyH_ready (rs := [5, 7]) (by kernel_rfl) (by simp) ?_
      refine AllReadyH.cons (o := _) rfl (fun K hK => ?_) ?_
      · skip
        go_simp
        refine (Number_any _ 8 _ y _ (r1'.out _ (w1e.out.trans (hHeld.mono w1e.out.size))).2 ly'.out.symm (by rw [ly'.out]; omega)).mono ?_
        rintro e y3 ⟨rfl, rfl⟩
        go_wp2_with fail
        refine hK.out _ _ ?_ (fun hHeld => ?_)
        · exact hHeld
        clear hK K
        try simp only [Act.put, sQa, sQb, sQc, gQa, gQb, gQc]
        refine' wpAnyH_take (i := 6) (oi := _) (v := _) rfl (by kernel_rfl) (by kernel_rfl) (by kernel_rfl) (fun _ _ _ h => h) (yieldsIf_build (by rfl) _ _ rfl _ _ (bl.out) rfl) (by assumption) ?_
        try simp only [Act.put, sQa, sQb, sQc, gQa, gQb, gQc]
        refine wpAnyH_ready (rs := [7]) (by kernel_rfl) (by simp) ?_
        refine AllReadyH.cons (o := _) rfl (fun K hK => ?_) AllReadyH.nil
        refine step_alloc_rowT rfl 24 rfl (acC ac0).toArray zInfoAc ?_
        intro g6 w8 b6 e6 hB
        have m6 := Nat.le_trans hHeld.size b6
        refine hK.out _ _ ?_ (fun hHeld => ?_)
        · exact hHeld.trans (hB.mono hHeld.size)
        clear hK K
        try simp only [Act.put, sQa, sQb, sQc, gQa, gQb, gQc]
        refine wpAnyH_ready (rs := [8]) (by kernel_rfl) (by simp) ?_
        refine AllReadyH.cons (o := _) rfl (fun K hK => ?_) AllReadyH.nil
        refine step_store_rowT rfl 24 (.tmp 4) (.tmp 19) rfl g6 _ rfl rfl 24 (acC ac0).toArray e6 sizeAc rfl nb.out ?_
        intro w9 d6 hG
        refine hK.out _ _ ?_ (fun hHeld => ?_)
        · exact hHeld.grown hG hHeld.size (by intro k hk; injection hk with hk; omega)
        clear hK K
        try simp only [Act.put, sQa, sQb, sQc, gQa, gQb, gQc]
        refine wpAnyH_done (by kernel_rfl) ?_ _
        refine NoPanic.normal ?_
        have q6 := rangeOf (l := acC ⟨num x, num y⟩) d6
        have c0 := q6 0 _ rfl
        have c1 := q6 1 _ rfl
        have h9 := hid ((hHeld.block _ (block_lt h0.out)).trans h0.out)
        have W9 := hid (w1e.out.trans (hHeld.mono w1e.out.size))
        have q7 := hid q6
        clear hHeld d6 q6
        go_wp2_with (first
          | ((with_reducible refine wpList_built rfl 24 _ rfl (acC ac0).toArray [] ?_ ?_ ?_); exact hb0.out; rfl)
          | ((with_reducible refine wpList_load_rng rfl 24 (.tmp 4) rfl g6 0 rfl (acC ⟨num x, num y⟩) _ ?_ hu rfl sizeAc ?_); exact q7.out)
          | ((with_reducible refine wpList_store_row rfl 24 (.tmp 2) (.tmp 28) rfl w.heap.size _ rfl rfl 24 (acC ac0).toArray ?_ ?_ ?_ ?_ ?_); exact h9.out; exact sizeAc; rfl; exact n0.out; intro w3 hg3 hb3 hs3)
          | ((with_reducible refine wpList_store_row rfl 24 (.tmp 2) (.tmp 29) rfl w.heap.size _ rfl rfl 24 (acC ac0).toArray ?_ ?_ ?_ ?_ ?_); exact h9.out; exact sizeAc; rfl; exact nb.out; intro w3 hg3 hb3 hs3))
        first
          | exact bodyPost_ret (res_ac rfl _ _ w.heap.size ac0 rfl hg3) rfl ⟨rfl, W9.out.grown hb3 W9.out.size (fun g e => by injection e with e; omega)⟩
          | exact bodyPost_ret (res_ac rfl _ _ w.heap.size ⟨num x, num y⟩ rfl hg3) rfl ⟨rfl, W9.out.grown hb3 W9.out.size (fun g e => by injection e with e; omega)⟩
      refine AllReadyH.cons (o := _) rfl (fun K hK => ?_) ?_
      · skip
        refine step_alloc_rowT rfl 24 rfl (acC ac0).toArray zInfoAc ?_
        intro g6 w8 b6 e6 hB
        have m6 := Nat.le_trans hHeld.size b6
        refine hK.out _ _ ?_ (fun hHeld => ?_)
        · exact hHeld.trans (hB.mono hHeld.size)
        clear hK K
        try simp only [Act.put, sQa, sQb, sQc, gQa, gQb, gQc]
        refine wpAnyH_ready (rs := [5]) (by kernel_rfl) (by simp) ?_
        refine AllReadyH.cons (o := _) rfl (fun K hK => ?_) AllReadyH.nil
        go_simp
        refine (Number_any _ 8 _ y _ (r1'.out _ (w1e.out.trans (hHeld.mono w1e.out.size))).2 ly'.out.symm (by rw [ly'.out]; omega)).mono ?_
        rintro e y3 ⟨rfl, rfl⟩
        go_wp2_with fail
        refine hK.out _ _ ?_ (fun hHeld => ?_)
        · exact hHeld
        clear hK K
        try simp only [Act.put, sQa, sQb, sQc, gQa, gQb, gQc]
        refine' wpAnyH_take (i := 6) (oi := _) (v := _) rfl (by kernel_rfl) (by kernel_rfl) (by kernel_rfl) (fun _ _ _ h => h) (yieldsIf_build (by rfl) _ _ rfl _ _ (bl.out) rfl) (by assumption) ?_
        try simp only [Act.put, sQa, sQb, sQc, gQa, gQb, gQc]
        refine wpAnyH_ready (rs := [8]) (by kernel_rfl) (by simp) ?_
        refine AllReadyH.cons (o := _) rfl (fun K hK => ?_) AllReadyH.nil
        refine step_store_rowT rfl 24 (.tmp 4) (.tmp 19) rfl g6 _ rfl rfl 24 (acC ac0).toArray e6 sizeAc rfl nb.out ?_
        intro w9 d6 hG
        refine hK.out _ _ ?_ (fun hHeld => ?_)
        · exact hHeld.grown hG hHeld.size (by intro k hk; injection hk with hk; omega)
        clear hK K
        try simp only [Act.put, sQa, sQb, sQc, gQa, gQb, gQc]
        refine wpAnyH_done (by kernel_rfl) ?_ _
        refine NoPanic.normal ?_
        have q6 := rangeOf (l := acC ⟨num x, num y⟩) d6
        have c0 := q6 0 _ rfl
        have c1 := q6 1 _ rfl
        have h9 := hid ((hHeld.block _ (block_lt h0.out)).trans h0.out)
        have W9 := hid (w1e.out.trans (hHeld.mono w1e.out.size))
        have q7 := hid q6
        clear hHeld d6 q6
        go_wp2_with (first
          | ((with_reducible refine wpList_built rfl 24 _ rfl (acC ac0).toArray [] ?_ ?_ ?_); exact hb0.out; rfl)
          | ((with_reducible refine wpList_load_rng rfl 24 (.tmp 4) rfl g6 0 rfl (acC ⟨num x, num y⟩) _ ?_ hu rfl sizeAc ?_); exact q7.out)
          | ((with_reducible refine wpList_store_row rfl 24 (.tmp 2) (.tmp 28) rfl w.heap.size _ rfl rfl 24 (acC ac0).toArray ?_ ?_ ?_ ?_ ?_); exact h9.out; exact sizeAc; rfl; exact n0.out; intro w3 hg3 hb3 hs3)
          | ((with_reducible refine wpList_store_row rfl 24 (.tmp 2) (.tmp 29) rfl w.heap.size _ rfl rfl 24 (acC ac0).toArray ?_ ?_ ?_ ?_ ?_); exact h9.out; exact sizeAc; rfl; exact nb.out; intro w3 hg3 hb3 hs3))
        first
          | exact bodyPost_ret (res_ac rfl _ _ w.heap.size ac0 rfl hg3) rfl ⟨rfl, W9.out.grown hb3 W9.out.size (fun g e => by injection e with e; omega)⟩
          | exact bodyPost_ret (res_ac rfl _ _ w.heap.size ⟨num x, num y⟩ rfl hg3) rfl ⟨rfl, W9.out.grown hb3 W9.out.size (fun g e => by injection e with e; omega)⟩
      exact AllReadyH.nil
    refine AllReadyH.cons (o := _) rfl (fun K hK => ?_) ?_
    · skip
      refine step_alloc_rowT rfl 24 rfl (acC ac0).toArray zInfoAc ?_
      intro g6 w8 b6 e6 hB
      have m6 := Nat.le_trans hHeld.size b6
      refine hK.out _ _ ?_ (fun hHeld => ?_)
      · exact hHeld.trans (hB.mono hHeld.size)
      clear hK K
      try simp only [Act.put, sQa, sQb, sQc, gQa, gQb, gQc]
      refine wpAnyH_ready (rs := [2]) (by kernel_rfl) (by simp) ?_
      refine AllReadyH.cons (o := _) rfl (fun K hK => ?_) AllReadyH.nil
      go_simp
      refine (Number_any A 8 _ x _ (r1'.out _ (w1e.out.trans (hHeld.mono w1e.out.size))).1 lx'.out.symm (by rw [lx'.out]; omega)).mono ?_
      rintro e y2 ⟨rfl, rfl⟩
      go_wp2_with fail
      refine hK.out _ _ ?_ (fun hHeld => ?_)
      · exact hHeld
      clear hK K
      try simp only [Act.put, sQa, sQb, sQc, gQa, gQb, gQc]
      refine wpAnyH_ready (rs := [5]) (by kernel_rfl) (by simp) ?_
      refine AllReadyH.cons (o := _) rfl (fun K hK => ?_) AllReadyH.nil
      go_simp
      refine (Number_any _ 8 _ y _ (r1'.out _ (w1e.out.trans (hHeld.mono w1e.out.size))).2 ly'.out.symm (by rw [ly'.out]; omega)).mono ?_
      rintro e y3 ⟨rfl, rfl⟩
      go_wp2_with fail
      refine hK.out _ _ ?_ (fun hHeld => ?_)
      · exact hHeld
      clear hK K
      try simp only [Act.put, sQa, sQb, sQc, gQa, gQb, gQc]
      refine' wpAnyH_take (i := 6) (oi := _) (v := _) rfl (by kernel_rfl) (by kernel_rfl) (by kernel_rfl) (fun _ _ _ h => h) (yieldsIf_build (by rfl) _ _ rfl _ _ (bl.out) rfl) (by assumption) ?_
      try simp only [Act.put, sQa, sQb, sQc, gQa, gQb, gQc]
      refine wpAnyH_ready (rs := [8]) (by kernel_rfl) (by simp) ?_
      refine AllReadyH.cons (o := _) rfl (fun K hK => ?_) AllReadyH.nil
      refine step_store_rowT rfl 24 (.tmp 4) (.tmp 19) rfl g6 _ rfl rfl 24 (acC ac0).toArray e6 sizeAc rfl nb.out ?_
      intro w9 d6 hG
      refine hK.out _ _ ?_ (fun hHeld => ?_)
      · exact hHeld.grown hG hHeld.size (by intro k hk; injection hk with hk; omega)
      clear hK K
      try simp only [Act.put, sQa, sQb, sQc, gQa, gQb, gQc]
      refine wpAnyH_done (by kernel_rfl) ?_ _
      refine NoPanic.normal ?_
      have q6 := rangeOf (l := acC ⟨num x, num y⟩) d6
      have c0 := q6 0 _ rfl
      have c1 := q6 1 _ rfl
      have h9 := hid ((hHeld.block _ (block_lt h0.out)).trans h0.out)
      have W9 := hid (w1e.out.trans (hHeld.mono w1e.out.size))
      have q7 := hid q6
      clear hHeld d6 q6
      go_wp2_with (first
        | ((with_reducible refine wpList_built rfl 24 _ rfl (acC ac0).toArray [] ?_ ?_ ?_); exact hb0.out; rfl)
        | ((with_reducible refine wpList_load_rng rfl 24 (.tmp 4) rfl g6 0 rfl (acC ⟨num x, num y⟩) _ ?_ hu rfl sizeAc ?_); exact q7.out)
        | ((with_reducible refine wpList_store_row rfl 24 (.tmp 2) (.tmp 28) rfl w.heap.size _ rfl rfl 24 (acC ac0).toArray ?_ ?_ ?_ ?_ ?_); exact h9.out; exact sizeAc; rfl; exact n0.out; intro w3 hg3 hb3 hs3)
        | ((with_reducible refine wpList_store_row rfl 24 (.tmp 2) (.tmp 29) rfl w.heap.size _ rfl rfl 24 (acC ac0).toArray ?_ ?_ ?_ ?_ ?_); exact h9.out; exact sizeAc; rfl; exact nb.out; intro w3 hg3 hb3 hs3))
      first
        | exact bodyPost_ret (res_ac rfl _ _ w.heap.size ac0 rfl hg3) rfl ⟨rfl, W9.out.grown hb3 W9.out.size (fun g e => by injection e with e; omega)⟩
        | exact bodyPost_ret (res_ac rfl _ _ w.heap.size ⟨num x, num y⟩ rfl hg3) rfl ⟨rfl, W9.out.grown hb3 W9.out.size (fun g e => by injection e with e; omega)⟩
    exact AllReadyH.nil
end Go.Proofs.YtcifncmfjlbhjaaDoor
