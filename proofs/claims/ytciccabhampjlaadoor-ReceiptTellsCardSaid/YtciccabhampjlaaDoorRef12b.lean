/-
  The document's answers of layer 12: Of, Bytes, Read.
-/
import Derived.Test.YtciccabhampjlaaDoorRef12a
import Derived.Test.YtciccabhampjlaaDoorCutsB
namespace Go.Proofs.YtciccabhampjlaaDoor
open Go.RowKit
set_option linter.unusedVariables false
set_option linter.unusedSimpArgs false
set_option maxRecDepth 100000

theorem rcB_codes {k : UInt8} {i : Dg} : rcB ⟨k, i, 0⟩ = ([k] ++ i.1) ++ [0, 0] ∧ rcB ⟨k, i, 151⟩ = ([k] ++ i.1) ++ [0, 151] ∧ rcB ⟨k, i, 150⟩ = ([k] ++ i.1) ++ [0, 150] := by
  have h : ∀ c : Int, rcB ⟨k, i, c⟩ = ([k] ++ i.1) ++ be 2 c.toNat := fun c => by simp [rcB]
  rw [h, h, h]
  exact ⟨rfl, rfl, rfl⟩
set_option maxHeartbeats 4000000 in
theorem RRcOf_any (x : Rc) (hx : mayR x = true) (w : World) : Calls Tryd.prog 25 #[.agg (rcC x).toArray] w fun e w' => ∃ A c, e = .returned (.slice A 35 c) ∧ Own 5 w' w.heap.size A c (rcB x) ∧ Below w.heap.size w w' := by
  have hsl := run_all32P
  have hc := rc_codes hx
  obtain ⟨k, i, c⟩ := x
  have hc : c = 0 ∨ c = 151 ∨ c = 150 := hc
  have B0 := BoxR.new w ⟨k, i, c⟩ 26
  have W0 := hid (ext_alloc w (.cells (rcC ⟨k, i, c⟩).toArray 26))
  have hb2 := ext_alloc (w.alloc (.cells (rcC ⟨k, i, c⟩).toArray 26)) (.cells #[.int .u8 (k.toNat : Int)] 5)
  have hg2 := heap_alloc_new (w.alloc (.cells (rcC ⟨k, i, c⟩).toArray 26)) (.cells #[.int .u8 (k.toNat : Int)] 5)
  rw [World.size_alloc] at hg2
  have own2 := hid (Own.of_block (E := 5) (l := [k]) (B := w.heap.size + 1) (by exact hg2) (Nat.le_refl _) (by show 1 ≤ maxLen; decide))
  have r2 := hid (rd_keyP (B0.bel hb2).i)
  have B2 := B0.bel hb2
  have c0 := B0.k
  unfold bv at c0
  have c1 := B2.c
  have lt2 := hid (show w.heap.size < w.heap.size + 1 from Nat.lt_succ_self _)
  have li := i.2
  obtain ⟨z, hz⟩ : ∃ z, [k] ++ i.1 = z := ⟨_, rfl⟩
  have lz : z.length = 33 := by rw [← hz, List.length_append, li]; rfl
  obtain ⟨f0, f1, f2⟩ := rcB_codes (k := k) (i := i)
  rw [hz] at f0 f1 f2
  replace hz := hid hz
  have sz2 := hid (show w.heap.size + 1 ≤ ((w.alloc (.cells (rcC ⟨k, i, c⟩).toArray 26)).alloc (.cells #[.int .u8 (k.toNat : Int)] 5)).heap.size by rw [World.size_alloc, World.size_alloc]; omega)
  have W2 := hid ((ext_alloc w (.cells (rcC ⟨k, i, c⟩).toArray 26)).trans (hb2.mono (ext_alloc w _).size))
  clear hg2 hb2 B0 B2 hx
  rcases hc with rfl | rfl | rfl
  · rw [f0]
    obtain ⟨y, hy⟩ : ∃ y, z ++ [0, 0] = y := ⟨_, rfl⟩
    have ly : y.length = 35 := by rw [← hy, List.length_append, lz]; rfl
    rw [hy]
    replace hy := hid hy
    clear f0 f1 f2
    generalize rcC ⟨k, i, 0⟩ = cx at *
    generalize i.1 = zi at *
    go_enter Tryd.func25, Tryd.ntmps25
    go_wp2_with (first
      | (at_builtin; refine wpList_app u8s rfl (.tmp 7) (.tmp 9) rfl (w.heap.size + 1) (some ⟨w.heap.size + 1, 0, none⟩) (some ⟨w.heap.size, 1, none⟩) 1 32 1 32 [k] zi rfl rfl rfl li.symm own2.out r2.out (by rw [li]; show 1 + 32 ≤ _; decide) sz2.out ?_; intro A3 k3 w3 o3 hb3; rw [hz.out] at o3 ⊢; have W3 := hid (W2.out.trans (hb3.mono (Nat.le_succ _))); have c3 := (hb3.cell (p := ⟨w.heap.size, 33, none⟩) lt2.out).trans c1; have sz3 := hid (Nat.le_trans sz2.out hb3.size); replace o3 := hid o3; clear hb3)
      | (at_builtin; refine wpList_app u8s rfl (.tmp 11) (.tmp 20) rfl (w.heap.size + 1) A3 _ 33 2 k3 2 z [0, 0] rfl rfl lz.symm rfl (o3.out.alloc _) (Rd.lit_ _ _ _ _ _ rfl rfl) (by rw [lz]; decide) (by rw [World.size_alloc]; exact Nat.le_succ_of_le sz3.out) ?_; intro A4 k4 w4 o4 hb4; rw [hy.out] at o4 ⊢; have W4 := hid ((W3.out.trans ((ext_alloc w3 _).mono W3.out.size)).trans (hb4.mono (Nat.le_succ _)))))
    go_ret
    exact ⟨_, _, rfl, o4.base (Nat.le_succ _), W4.out⟩
  · rw [f1]
    obtain ⟨y, hy⟩ : ∃ y, z ++ [0, 151] = y := ⟨_, rfl⟩
    have ly : y.length = 35 := by rw [← hy, List.length_append, lz]; rfl
    rw [hy]
    replace hy := hid hy
    clear f0 f1 f2
    generalize rcC ⟨k, i, 151⟩ = cx at *
    generalize i.1 = zi at *
    go_enter Tryd.func25, Tryd.ntmps25
    go_wp2_with (first
      | (at_builtin; refine wpList_app u8s rfl (.tmp 7) (.tmp 9) rfl (w.heap.size + 1) (some ⟨w.heap.size + 1, 0, none⟩) (some ⟨w.heap.size, 1, none⟩) 1 32 1 32 [k] zi rfl rfl rfl li.symm own2.out r2.out (by rw [li]; show 1 + 32 ≤ _; decide) sz2.out ?_; intro A3 k3 w3 o3 hb3; rw [hz.out] at o3 ⊢; have W3 := hid (W2.out.trans (hb3.mono (Nat.le_succ _))); have c3 := (hb3.cell (p := ⟨w.heap.size, 33, none⟩) lt2.out).trans c1; have sz3 := hid (Nat.le_trans sz2.out hb3.size); replace o3 := hid o3; clear hb3)
      | (at_builtin; refine wpList_app u8s rfl (.tmp 11) (.tmp 20) rfl (w.heap.size + 1) A3 _ 33 2 k3 2 z [0, 151] rfl rfl lz.symm rfl (o3.out.alloc _) (Rd.lit_ _ _ _ _ _ rfl rfl) (by rw [lz]; decide) (by rw [World.size_alloc]; exact Nat.le_succ_of_le sz3.out) ?_; intro A4 k4 w4 o4 hb4; rw [hy.out] at o4 ⊢; have W4 := hid ((W3.out.trans ((ext_alloc w3 _).mono W3.out.size)).trans (hb4.mono (Nat.le_succ _)))))
    go_ret
    exact ⟨_, _, rfl, o4.base (Nat.le_succ _), W4.out⟩
  · rw [f2]
    obtain ⟨y, hy⟩ : ∃ y, z ++ [0, 150] = y := ⟨_, rfl⟩
    have ly : y.length = 35 := by rw [← hy, List.length_append, lz]; rfl
    rw [hy]
    replace hy := hid hy
    clear f0 f1 f2
    generalize rcC ⟨k, i, 150⟩ = cx at *
    generalize i.1 = zi at *
    go_enter Tryd.func25, Tryd.ntmps25
    go_wp2_with (first
      | (at_builtin; refine wpList_app u8s rfl (.tmp 7) (.tmp 9) rfl (w.heap.size + 1) (some ⟨w.heap.size + 1, 0, none⟩) (some ⟨w.heap.size, 1, none⟩) 1 32 1 32 [k] zi rfl rfl rfl li.symm own2.out r2.out (by rw [li]; show 1 + 32 ≤ _; decide) sz2.out ?_; intro A3 k3 w3 o3 hb3; rw [hz.out] at o3 ⊢; have W3 := hid (W2.out.trans (hb3.mono (Nat.le_succ _))); have c3 := (hb3.cell (p := ⟨w.heap.size, 33, none⟩) lt2.out).trans c1; have sz3 := hid (Nat.le_trans sz2.out hb3.size); replace o3 := hid o3; clear hb3)
      | (at_builtin; refine wpList_app u8s rfl (.tmp 11) (.tmp 20) rfl (w.heap.size + 1) A3 _ 33 2 k3 2 z [0, 150] rfl rfl lz.symm rfl (o3.out.alloc _) (Rd.lit_ _ _ _ _ _ rfl rfl) (by rw [lz]; decide) (by rw [World.size_alloc]; exact Nat.le_succ_of_le sz3.out) ?_; intro A4 k4 w4 o4 hb4; rw [hy.out] at o4 ⊢; have W4 := hid ((W3.out.trans ((ext_alloc w3 _).mono W3.out.size)).trans (hb4.mono (Nat.le_succ _)))))
    go_ret
    exact ⟨_, _, rfl, o4.base (Nat.le_succ _), W4.out⟩
set_option maxHeartbeats 2000000 in
theorem RRcBytes_any (x : Rc) (w : World) : Calls Tryd.prog 12 #[.agg (rcC x).toArray] w fun e w' => ∃ A c, e = .returned (.tuple #[.slice A (rcO x).length c, .int .i64 (rcE x)]) ∧ Own 5 w' w.heap.size A c (rcO x) ∧ Below w.heap.size w w' := by
  have hux := Tryd.underlying26
  have B0 := BoxR.new w x 26
  have W0 := hid (ext_alloc w (.cells (rcC x).toArray 26))
  have X0 := hid B0.all
  have jx := hid (sizeRc x)
  obtain ⟨m, hm⟩ : ∃ m, mayR x = m := ⟨_, rfl⟩
  have hM := hid (fun W => RRcMay_is x m hm W)
  have hE : rcE x = if m = true then 0 else 8 := by unfold rcE; rw [hm]
  have hO : rcO x = if m = true then rcB x else [] := by unfold rcO; rw [hm]
  rw [hE, hO]
  cases m with
  | false =>
    simp only [Bool.false_eq_true, if_false]
    clear B0 hm hE hO
    generalize rcC x = cx at *
    go_enter Tryd.func12, Tryd.ntmps12
    go_wp2_with (first
      | ((with_reducible refine wpList_load_rng rfl 26 (.tmp 1) rfl w.heap.size 0 rfl cx _ ?_ hux rfl jx.out ?_); exact X0.out))
    refine (hM.out _).mono ?_
    rintro e w1 ⟨rfl, hb⟩
    go_wp2
    go_ret2
    exact ⟨none, 0, rfl, Own.nil _ _, W0.out.trans (hb.mono W0.out.size)⟩
  | true =>
    simp only [if_true]
    have hOf := hid (fun W => RRcOf_any x hm W)
    have lb := rcB_len x
    rw [lb]
    clear B0 hm hE hO
    generalize rcC x = cx at *
    generalize rcB x = zb at *
    clear lb
    go_enter Tryd.func12, Tryd.ntmps12
    go_wp2_with (first
      | ((with_reducible refine wpList_load_rng rfl 26 (.tmp 1) rfl w.heap.size 0 rfl cx _ ?_ hux rfl jx.out ?_); exact X0.out))
    refine (hM.out _).mono ?_
    rintro e w1 ⟨rfl, hb⟩
    have W1 := hid (W0.out.trans (hb.mono W0.out.size))
    have X1 := hid (rangeBel2 hb X0.out)
    clear hb
    go_wp2_with (first
      | ((with_reducible refine wpList_load_rng rfl 26 (.tmp 1) rfl w.heap.size 0 rfl cx _ ?_ hux rfl jx.out ?_); exact X1.out))
    refine (hOf.out _).mono ?_
    rintro e w2 ⟨A2, c2, rfl, o2, hb⟩
    go_wp2
    go_ret2
    exact ⟨_, _, rfl, o2.base W1.out.size, W1.out.trans (hb.mono W1.out.size)⟩
/-- A digest so far as its bytes are laid. -/
def dgD (s : Dg) (j : Nat) : Dg := if h : (dgF s.1 j).length = 32 then ⟨dgF s.1 j, h⟩ else z0
theorem dgD_val (s : Dg) {j : Nat} (hj : j ≤ 32) : (dgD s j).1 = dgF s.1 j := by unfold dgD; rw [dif_pos (dgF_len s.2 hj)]
theorem dgD_zero (s : Dg) : dgD s 0 = ⟨List.replicate 32 0, rfl⟩ := Subtype.ext ((dgD_val s (Nat.zero_le _)).trans ((dgF_zero s.1).trans rfl))
theorem dgD_all (s : Dg) : dgD s 32 = s := Subtype.ext ((dgD_val s (Nat.le_refl _)).trans (dgF_all s.2))
theorem dgD_step (s : Dg) {j : Nat} (hj : j < 32) : (dgD s j).1.set j (s.1[j]'(by rw [s.2]; exact hj)) = (dgD s (j + 1)).1 := by
  rw [dgD_val s (by omega), dgD_val s (by omega)]
  exact dgF_step s.2 (by rw [s.2]; exact hj)
theorem res_rc {fn : Func} {p u : Tmp} (h : fn.results = #[.cell p 26, .tmp u]) (tmps : Array Value) (w : World) (g : Nat) (x : Rc) (e1 : tmps.getD p undef = .pointer (some ⟨g, 0, none⟩))
    (hg : w.heap[g]? = some (.cells (rcC x).toArray 26 (0, 0))) : (results fn tmps).run Tryd.prog w = .ok (.tuple #[.agg (rcC x).toArray, tmps.getD u undef]) w := by
  have h2 := run_loadVar_mid (P := Tryd.prog) w g 0 26 (rcC x) _ (rangeOf hg) Tryd.underlying26 rfl (sizeRc x)
  rw [results_cell_tmp h, e1]
  simp only [asAddr, Sem.run_pure, Result.andThen_ok, h2]
set_option maxHeartbeats 4000000 in
theorem RRcRead_any (A : Option Addr) (c : Nat) (l : List UInt8) (w : World) (hr : Rd w A l) (hc : l.length ≤ c) (hm : c ≤ maxLen) (hl : l.length ≤ 1000000) :
    Calls Tryd.prog 13 #[.slice A l.length c] w fun e w' => e = .returned (.tuple #[.agg (rcC (readR l)).toArray, .int .i64 (readRE l)]) ∧ Below w.heap.size w w' := by
  have hux := Tryd.underlying26
  have h0 := hid (heap_alloc_new w (.cells zRcC 26))
  have b0 := hid (ext_alloc w (.cells zRcC 26))
  by_cases h1 : l.length < 35
  · have e1 : readRE l = 10 := by unfold readRE; rw [if_pos h1]
    have e2 : readR l = zR := by unfold readR; rw [if_neg (by rw [e1]; decide)]
    rw [e1, e2]
    have q1 : decide ((l.length : Int) < 35) = true := decide_eq_true (by omega)
    clear e1 e2
    go_enter Tryd.func13, Tryd.ntmps13
    go_wp2_with (first
      | (with_reducible refine wpList_alloc_row rfl 26 rfl zRcC zInfoRc ?_)
      | ((with_reducible refine wpList_built rfl 26 _ rfl zRcC [] ?_ ?_ ?_); exact built_rc0; rfl)
      | ((with_reducible refine wpList_store_row rfl 26 (.tmp 2) (.tmp 9) rfl w.heap.size _ rfl rfl 26 zRcC ?_ ?_ ?_ ?_ ?_); exact h0.out; exact sizeRcA zR; rfl; exact one_rc zR; intro w5 hg5 hb5 hs5))
    exact bodyPost_ret (res_rc rfl _ _ w.heap.size zR rfl hg5) rfl ⟨rfl, b0.out.grown hb5 b0.out.size (fun g e => by injection e with e; omega)⟩
  have q1 : decide ((l.length : Int) < 35) = false := decide_eq_false (by omega)
  by_cases h2 : 35 < l.length
  · have e1 : readRE l = 11 := by unfold readRE; rw [if_neg h1, if_pos h2]
    have e2 : readR l = zR := by unfold readR; rw [if_neg (by rw [e1]; decide)]
    rw [e1, e2]
    have q2 : decide (35 < (l.length : Int)) = true := decide_eq_true (by omega)
    clear e1 e2
    go_enter Tryd.func13, Tryd.ntmps13
    go_wp2_with (first
      | (with_reducible refine wpList_alloc_row rfl 26 rfl zRcC zInfoRc ?_)
      | ((with_reducible refine wpList_built rfl 26 _ rfl zRcC [] ?_ ?_ ?_); exact built_rc0; rfl)
      | ((with_reducible refine wpList_store_row rfl 26 (.tmp 2) (.tmp 13) rfl w.heap.size _ rfl rfl 26 zRcC ?_ ?_ ?_ ?_ ?_); exact h0.out; exact sizeRcA zR; rfl; exact one_rc zR; intro w5 hg5 hb5 hs5))
    exact bodyPost_ret (res_rc rfl _ _ w.heap.size zR rfl hg5) rfl ⟨rfl, b0.out.grown hb5 b0.out.size (fun g e => by injection e with e; omega)⟩
  have q2 : decide (35 < (l.length : Int)) = false := decide_eq_false (by omega)
  have hl9 : l.length = 35 := by omega
  obtain ⟨x, hx⟩ : ∃ x, takenR l = x := ⟨_, rfl⟩
  obtain ⟨nc, hnc⟩ : ∃ n, num (l.drop 33) = n := ⟨_, rfl⟩
  have hn16 : nc < 65536 := by
    have := num_lt (l.drop 33)
    rw [show (l.drop 33).length = 2 by rw [List.length_drop]; omega, hnc] at this
    exact this
  have xc : x.c = (nc : Int) := by rw [← hx, ← hnc]; rfl
  have xk : x.k = l[0]'(by omega) := by
    rw [← hx]
    cases l with
    | nil => simp at hl9
    | cons a m => rfl
  have xi : x.i = dgAt l 1 := by rw [← hx]; rfl
  have hget : ∀ j (h : j < x.i.1.length), x.i.1[j] = l[1 + j]'(by have := x.i.2; omega) := fun j h => by
    have hd : x.i.1 = (l.drop 1).take 32 := by rw [xi]; exact dgAt_val (by omega)
    rw [List.getElem_of_eq hd h, List.getElem_take, List.getElem_drop]
  obtain ⟨m, hmm⟩ : ∃ m, mayR x = m := ⟨_, rfl⟩
  have hMy := hid (fun W => RRcMay_is x m hmm W)
  have E1 : readRE l = if m = true then 0 else 8 := by
    unfold readRE rcE
    rw [if_neg h1, if_neg h2, hx, hmm]
  have E2 : readR l = if m = true then x else zR := by
    unfold readR
    rw [E1, hx]
    cases m <;> rfl
  rw [E1, E2]
  obtain ⟨b, o, rfl, hcl⟩ := rd_cell hr (by omega)
  have hk0 := hcl 0 (by omega)
  rw [← xk, Nat.add_zero] at hk0
  have hcells := hid (fun W (hb : Below w.heap.size w W) j (hj : j < 32) => (show W.cell? ⟨b, o + (1 + j), none⟩ = some (.int .u8 ((x.i.1[j]'(by rw [x.i.2]; exact hj)).toNat : Int)) from by
    have q := hcl (1 + j) (by omega)
    rw [hget j (by rw [x.i.2]; exact hj)]
    exact (hb.cell (World.block_lt_of_cell? _ _ q)).trans q))
  have wc : IntKind.i64.wrap (nc : Int) = (nc : Int) := by rw [IntKind.wrap_i64]; omega
  have fl := hid (fun W (hb : Below w.heap.size w W) => (show Rd W (cutA (some ⟨b, o, none⟩) c 33 1) (l.drop 33) from (((hr.row (F := fun _ => True) fun _ _ _ => trivial).cut 33 c (by omega) hc).rd).bel hb))
  have sl2 := hid (fun W => run_from slotU8k (some ⟨b, o, none⟩) l.length c 33 (by omega) W)
  rw [show l.length - 33 = 2 by omega] at sl2
  have n2 := hid (show (l.drop 33).length = 2 by rw [List.length_drop]; omega)
  have nc2 := hid (fun W (h : Rd W (cutA (some ⟨b, o, none⟩) c 33 1) (l.drop 33)) => hnc ▸ Number_any (cutA (some ⟨b, o, none⟩) c 33 1) 2 (c - 33) (l.drop 33) W h n2.out.symm (by rw [n2.out]; decide))
  have bl := hid (built_rc2 x.k (nc : Int))
  have hx9 : x = ⟨x.k, x.i, (nc : Int)⟩ := rc_ext rfl rfl xc
  have Z0 : (⟨x.k, ⟨List.replicate 32 0, rfl⟩, (nc : Int)⟩ : Rc) = ⟨x.k, dgD x.i 0, (nc : Int)⟩ := by rw [dgD_zero]
  rw [Z0] at bl
  have hll := hid (show 33 ≤ l.length from by omega)
  have i0 : (0 : Int) < (l.length : Int) := by omega
  have i00 : 0 < l.length := by omega
  have iL := hid hl9
  replace hx9 := hid hx9
  have hk1 := hid hk0
  clear E1 E2 h1 h2 hl9 hc hm hl hr hx hnc xc xk xi hmm hget hcl Z0 hk0
  go_enter Tryd.func13, Tryd.ntmps13
  go_wp2_with (first
    | (with_reducible refine wpList_alloc_row rfl 26 rfl zRcC zInfoRc ?_))
  generalize w.alloc (.cells zRcC 26) = w1 at *
  have hk2 := (b0.out.cell (World.block_lt_of_cell? _ _ hk1.out)).trans hk1.out
  refine wp_region_noPanic ?_
  refine wp_region_held_drew (S := fun w' => Below w1.heap.size w1 w') (by kernel_rfl) ?_ (fun hHeld => ?_)
  · exact bel_drew w1
  refine' wpAnyH_take (i := 0) (oi := _) (v := ?_) rfl (by kernel_rfl) (by kernel_rfl) (by kernel_rfl) (fun _ _ _ h => h) (Or.inl ⟨by rfl, ?_⟩) (by assumption) ?_
  rotate_left
  · intro W hSw
    go_simp
    first | done | (with_reducible rfl)
  try simp only [Act.put, sQa, sQb, sQc, gQa, gQb, gQc]
  refine' wpAnyH_take (i := 1) (oi := _) (v := ?_) rfl (by kernel_rfl) (by kernel_rfl) (by kernel_rfl) (fun _ _ _ h => h) (Or.inl ⟨by rfl, ?_⟩) (by assumption) ?_
  rotate_left
  · intro W hSw
    go_simp
    first | done | (with_reducible rfl)
  try simp only [Act.put, sQa, sQb, sQc, gQa, gQb, gQc]
  refine' wpAnyH_take (i := 2) (oi := _) (v := ?_) rfl (by kernel_rfl) (by kernel_rfl) (by kernel_rfl) (fun _ _ _ h => h) (Or.inl ⟨by rfl, ?_⟩) (by assumption) ?_
  rotate_left
  · intro W hSw
    have hCell := (hSw.cell (World.block_lt_of_cell? _ _ hk2)).trans hk2
    go_simp
    first | done | (with_reducible rfl)
  try simp only [Act.put, sQa, sQb, sQc, gQa, gQb, gQc]
  refine' wpAnyH_take (i := 3) (oi := _) (v := ?_) rfl (by kernel_rfl) (by kernel_rfl) (by kernel_rfl) (fun _ _ _ h => h) (Or.inl ⟨by rfl, ?_⟩) (by assumption) ?_
  rotate_left
  · intro W hSw
    go_simp
    first | done | (with_reducible rfl)
  try simp only [Act.put, sQa, sQb, sQc, gQa, gQb, gQc]
  refine' wpAnyH_take (i := 4) (oi := _) (v := _) rfl (by kernel_rfl) (by kernel_rfl) (by kernel_rfl) (fun _ _ _ h => h) (yieldsIf_slice (by rfl) _ _ _ _ _ rfl _ _ _ _ _ (sl2.out) rfl rfl rfl rfl) (by assumption) ?_
  try simp only [Act.put, sQa, sQb, sQc, gQa, gQb, gQc]
  refine wpAnyH_ready (rs := [5, 8]) (by kernel_rfl) (by simp) ?_
  refine AllReadyH.cons (o := _) rfl (fun K hK => ?_) ?_
  · skip
    go_simp
    refine (nc2.out _ (fl.out _ (b0.out.trans (hHeld.mono b0.out.size)))).mono ?_
    rintro e z3 ⟨rfl, rfl⟩
    go_wp2_with fail
    refine hK.out _ _ ?_ (fun hHeld => ?_)
    · exact hHeld
    clear hK K
    try simp only [Act.put, sQa, sQb, sQc, gQa, gQb, gQc]
    refine' wpAnyH_take (i := 6) (oi := _) (v := .int .i64 (nc : Int)) rfl (by kernel_rfl) (by kernel_rfl) (by kernel_rfl) (fun _ _ _ h => h) (Or.inl ⟨by rfl, ?_⟩) (by assumption) ?_
    · intro W hSw
      go_simp
    try simp only [Act.put, sQa, sQb, sQc, gQa, gQb, gQc]
    refine' wpAnyH_take (i := 7) (oi := _) (v := _) rfl (by kernel_rfl) (by kernel_rfl) (by kernel_rfl) (fun _ _ _ h => h) (yieldsIf_build (by rfl) _ _ rfl _ _ (bl.out) rfl) (by assumption) ?_
    try simp only [Act.put, sQa, sQb, sQc, gQa, gQb, gQc]
    refine wpAnyH_ready (rs := [8]) (by kernel_rfl) (by simp) ?_
    refine AllReadyH.cons (o := _) rfl (fun K hK => ?_) AllReadyH.nil
    refine step_alloc_rowT rfl 26 rfl zRcC zInfoRc ?_
    intro g6 w8 b6 e6 hB
    have m6 := Nat.le_trans hHeld.size b6
    refine hK.out _ _ ?_ (fun hHeld => ?_)
    · exact hHeld.trans (hB.mono hHeld.size)
    clear hK K
    try simp only [Act.put, sQa, sQb, sQc, gQa, gQb, gQc]
    refine wpAnyH_ready (rs := [9]) (by kernel_rfl) (by simp) ?_
    refine AllReadyH.cons (o := _) rfl (fun K hK => ?_) AllReadyH.nil
    refine step_store_rowT rfl 26 (.tmp 4) (.tmp 21) rfl g6 _ rfl rfl 26 zRcC e6 (sizeRcA _) (zSizeRc _) (one_rc _) ?_
    intro w9 d6 hG
    refine hK.out _ _ ?_ (fun hHeld => ?_)
    · exact hHeld.grown hG hHeld.size (by intro k hk; injection hk with hk; omega)
    clear hK K
    try simp only [Act.put, sQa, sQb, sQc, gQa, gQb, gQc]
    refine wpAnyH_done (by kernel_rfl) ?_ _
    refine NoPanic.normal ?_
    have h9 := hid ((hHeld.block _ (block_lt h0.out)).trans h0.out)
    have W9 := hid (b0.out.trans (hHeld.mono b0.out.size))
    have lt6 := hid (show w.heap.size < g6 from Nat.lt_of_lt_of_le (block_lt h0.out) m6)
    clear hHeld
    go_wp2
    go_loopw [5] (fun i wr => ∃ j : Nat, j ≤ 32 ∧ i = .int .i64 j ∧ wr.heap[g6]? = some (.cells (rcC ⟨x.k, dgD x.i j, (nc : Int)⟩).toArray 26 (0, 0)) ∧ Below g6 w9 wr) (fun i _ => 32 - (intOf i).toNat)
    case atStart => exact ⟨0, Nat.zero_le _, rfl, d6, Below.refl _ _⟩
    case round =>
      obtain ⟨j, hj, rfl, hg, hb⟩ := hrel
      have WJ := W9.out.trans (hb.mono (Nat.le_of_lt lt6.out))
      by_cases hlt : j < 32
      · have hcell := hcells.out _ WJ j hlt
        have hcb := block_cell hg (1 + j)
        rw [Array.getElem?_eq_getElem (by rw [List.size_toArray, len_rc]; omega)] at hcb
        have hf := block_frozen hg (1 + j)
        have e4 := hid (set_rc ⟨x.k, dgD x.i j, (nc : Int)⟩ j hlt _ _ (dgD_step x.i hlt))
        have hwr : IntKind.i64.wrap (1 + (j : Int)) = ((1 + j : Nat) : Int) := by rw [IntKind.wrap_i64]; omega
        have i1 : ((1 + j : Nat) : Int).toNat = 1 + j := Int.toNat_natCast _
        have i2 : (0 : Int) ≤ ((1 + j : Nat) : Int) := Int.natCast_nonneg _
        have i3 : ((1 + j : Nat) : Int) < (l.length : Int) := by have := iL.out; omega
        go_wp2
        go_roundw
        case rel =>
          refine ⟨j + 1, by omega, by go_num, ?_, hb.setCell (Nat.le_refl _) _⟩
          have q9 := block_set hg (1 + j) (bv (x.i.1[j]'(by rw [x.i.2]; exact hlt)))
          rw [e4.out] at q9
          exact q9
        case measure => simp [intOf]; omega
      · obtain rfl : j = 32 := by omega
        rw [dgD_all, ← hx9.out] at hg
        have h10 := hid ((hb.block _ lt6.out).trans h9.out)
        have q7 := hid (rangeOf hg)
        have jx := hid (sizeRc x)
        replace WJ := hid WJ
        clear hg hb
        go_wp2_with (first
          | ((with_reducible refine wpList_load_rng rfl 26 (.tmp 4) rfl g6 0 rfl (rcC x) _ ?_ hux rfl jx.out ?_); exact q7.out))
        refine (hMy.out _).mono ?_
        rintro e v9 ⟨rfl, hb9⟩
        have h11 := hid ((hb9.block _ (block_lt h10.out)).trans h10.out)
        have W11 := hid (WJ.out.trans (hb9.mono WJ.out.size))
        have q8 := hid (rangeBel2 hb9 q7.out)
        clear hb9
        cases m
        · go_wp2_with (first
            | ((with_reducible refine wpList_built rfl 26 _ rfl zRcC [] ?_ ?_ ?_); exact built_rc0; rfl)
            | ((with_reducible refine wpList_store_row rfl 26 (.tmp 2) (.tmp 37) rfl w.heap.size _ rfl rfl 26 zRcC ?_ ?_ ?_ ?_ ?_); exact h11.out; exact sizeRcA zR; rfl; exact one_rc zR; intro w5 hg5 hb5 hs5))
          exact bodyPost_ret (res_rc rfl _ _ w.heap.size zR rfl hg5) rfl ⟨rfl, W11.out.grown hb5 W11.out.size (fun g e => by injection e with e; omega)⟩
        · go_wp2_with (first
            | ((with_reducible refine wpList_load_rng rfl 26 (.tmp 4) rfl g6 0 rfl (rcC x) _ ?_ hux rfl jx.out ?_); exact q8.out)
            | ((with_reducible refine wpList_store_row rfl 26 (.tmp 2) (.tmp 38) rfl w.heap.size _ rfl rfl 26 zRcC ?_ ?_ ?_ ?_ ?_); exact h11.out; exact sizeRcA x; exact zSizeRc x; exact one_rc x; intro w5 hg5 hb5 hs5))
          exact bodyPost_ret (res_rc rfl _ _ w.heap.size x rfl hg5) rfl ⟨rfl, W11.out.grown hb5 W11.out.size (fun g e => by injection e with e; omega)⟩
  refine AllReadyH.cons (o := _) rfl (fun K hK => ?_) ?_
  · skip
    refine step_alloc_rowT rfl 26 rfl zRcC zInfoRc ?_
    intro g6 w8 b6 e6 hB
    have m6 := Nat.le_trans hHeld.size b6
    refine hK.out _ _ ?_ (fun hHeld => ?_)
    · exact hHeld.trans (hB.mono hHeld.size)
    clear hK K
    try simp only [Act.put, sQa, sQb, sQc, gQa, gQb, gQc]
    refine wpAnyH_ready (rs := [5]) (by kernel_rfl) (by simp) ?_
    refine AllReadyH.cons (o := _) rfl (fun K hK => ?_) AllReadyH.nil
    go_simp
    refine (nc2.out _ (fl.out _ (b0.out.trans (hHeld.mono b0.out.size)))).mono ?_
    rintro e z3 ⟨rfl, rfl⟩
    go_wp2_with fail
    refine hK.out _ _ ?_ (fun hHeld => ?_)
    · exact hHeld
    clear hK K
    try simp only [Act.put, sQa, sQb, sQc, gQa, gQb, gQc]
    refine' wpAnyH_take (i := 6) (oi := _) (v := .int .i64 (nc : Int)) rfl (by kernel_rfl) (by kernel_rfl) (by kernel_rfl) (fun _ _ _ h => h) (Or.inl ⟨by rfl, ?_⟩) (by assumption) ?_
    · intro W hSw
      go_simp
    try simp only [Act.put, sQa, sQb, sQc, gQa, gQb, gQc]
    refine' wpAnyH_take (i := 7) (oi := _) (v := _) rfl (by kernel_rfl) (by kernel_rfl) (by kernel_rfl) (fun _ _ _ h => h) (yieldsIf_build (by rfl) _ _ rfl _ _ (bl.out) rfl) (by assumption) ?_
    try simp only [Act.put, sQa, sQb, sQc, gQa, gQb, gQc]
    refine wpAnyH_ready (rs := [9]) (by kernel_rfl) (by simp) ?_
    refine AllReadyH.cons (o := _) rfl (fun K hK => ?_) AllReadyH.nil
    refine step_store_rowT rfl 26 (.tmp 4) (.tmp 21) rfl g6 _ rfl rfl 26 zRcC e6 (sizeRcA _) (zSizeRc _) (one_rc _) ?_
    intro w9 d6 hG
    refine hK.out _ _ ?_ (fun hHeld => ?_)
    · exact hHeld.grown hG hHeld.size (by intro k hk; injection hk with hk; omega)
    clear hK K
    try simp only [Act.put, sQa, sQb, sQc, gQa, gQb, gQc]
    refine wpAnyH_done (by kernel_rfl) ?_ _
    refine NoPanic.normal ?_
    have h9 := hid ((hHeld.block _ (block_lt h0.out)).trans h0.out)
    have W9 := hid (b0.out.trans (hHeld.mono b0.out.size))
    have lt6 := hid (show w.heap.size < g6 from Nat.lt_of_lt_of_le (block_lt h0.out) m6)
    clear hHeld
    go_wp2
    go_loopw [5] (fun i wr => ∃ j : Nat, j ≤ 32 ∧ i = .int .i64 j ∧ wr.heap[g6]? = some (.cells (rcC ⟨x.k, dgD x.i j, (nc : Int)⟩).toArray 26 (0, 0)) ∧ Below g6 w9 wr) (fun i _ => 32 - (intOf i).toNat)
    case atStart => exact ⟨0, Nat.zero_le _, rfl, d6, Below.refl _ _⟩
    case round =>
      obtain ⟨j, hj, rfl, hg, hb⟩ := hrel
      have WJ := W9.out.trans (hb.mono (Nat.le_of_lt lt6.out))
      by_cases hlt : j < 32
      · have hcell := hcells.out _ WJ j hlt
        have hcb := block_cell hg (1 + j)
        rw [Array.getElem?_eq_getElem (by rw [List.size_toArray, len_rc]; omega)] at hcb
        have hf := block_frozen hg (1 + j)
        have e4 := hid (set_rc ⟨x.k, dgD x.i j, (nc : Int)⟩ j hlt _ _ (dgD_step x.i hlt))
        have hwr : IntKind.i64.wrap (1 + (j : Int)) = ((1 + j : Nat) : Int) := by rw [IntKind.wrap_i64]; omega
        have i1 : ((1 + j : Nat) : Int).toNat = 1 + j := Int.toNat_natCast _
        have i2 : (0 : Int) ≤ ((1 + j : Nat) : Int) := Int.natCast_nonneg _
        have i3 : ((1 + j : Nat) : Int) < (l.length : Int) := by have := iL.out; omega
        go_wp2
        go_roundw
        case rel =>
          refine ⟨j + 1, by omega, by go_num, ?_, hb.setCell (Nat.le_refl _) _⟩
          have q9 := block_set hg (1 + j) (bv (x.i.1[j]'(by rw [x.i.2]; exact hlt)))
          rw [e4.out] at q9
          exact q9
        case measure => simp [intOf]; omega
      · obtain rfl : j = 32 := by omega
        rw [dgD_all, ← hx9.out] at hg
        have h10 := hid ((hb.block _ lt6.out).trans h9.out)
        have q7 := hid (rangeOf hg)
        have jx := hid (sizeRc x)
        replace WJ := hid WJ
        clear hg hb
        go_wp2_with (first
          | ((with_reducible refine wpList_load_rng rfl 26 (.tmp 4) rfl g6 0 rfl (rcC x) _ ?_ hux rfl jx.out ?_); exact q7.out))
        refine (hMy.out _).mono ?_
        rintro e v9 ⟨rfl, hb9⟩
        have h11 := hid ((hb9.block _ (block_lt h10.out)).trans h10.out)
        have W11 := hid (WJ.out.trans (hb9.mono WJ.out.size))
        have q8 := hid (rangeBel2 hb9 q7.out)
        clear hb9
        cases m
        · go_wp2_with (first
            | ((with_reducible refine wpList_built rfl 26 _ rfl zRcC [] ?_ ?_ ?_); exact built_rc0; rfl)
            | ((with_reducible refine wpList_store_row rfl 26 (.tmp 2) (.tmp 37) rfl w.heap.size _ rfl rfl 26 zRcC ?_ ?_ ?_ ?_ ?_); exact h11.out; exact sizeRcA zR; rfl; exact one_rc zR; intro w5 hg5 hb5 hs5))
          exact bodyPost_ret (res_rc rfl _ _ w.heap.size zR rfl hg5) rfl ⟨rfl, W11.out.grown hb5 W11.out.size (fun g e => by injection e with e; omega)⟩
        · go_wp2_with (first
            | ((with_reducible refine wpList_load_rng rfl 26 (.tmp 4) rfl g6 0 rfl (rcC x) _ ?_ hux rfl jx.out ?_); exact q8.out)
            | ((with_reducible refine wpList_store_row rfl 26 (.tmp 2) (.tmp 38) rfl w.heap.size _ rfl rfl 26 zRcC ?_ ?_ ?_ ?_ ?_); exact h11.out; exact sizeRcA x; exact zSizeRc x; exact one_rc x; intro w5 hg5 hb5 hs5))
          exact bodyPost_ret (res_rc rfl _ _ w.heap.size x rfl hg5) rfl ⟨rfl, W11.out.grown hb5 W11.out.size (fun g e => by injection e with e; omega)⟩
  exact AllReadyH.nil
end Go.Proofs.YtciccabhampjlaaDoor
