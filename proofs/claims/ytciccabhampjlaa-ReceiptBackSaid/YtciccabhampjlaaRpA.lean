/-
  Contracts of the landed package receipt: mayBe, Check, Bytes.
-/
import Derived.Test.YtciccabhampjlaaRc
import Derived.Test.YtciccabhampjlaaSls
import Derived.Test.YtciccabhampjlaaTagX
import Derived.Test.YtciccabhampjlaaCatB
import Derived.Test.YtciccabhampjlaaStepT
import Derived.Test.YtciccabhampjlaaCutsB
import Derived.Test.YtciccabhampjlaaNumTake
import Derived.Test.YtciccabhampjlaaNumEnd
import Derived.Laws.CopyOwn
import Derived.Test.YtciccabhampjlaaRef10a
namespace Go.Proofs.Ytciccabhampjlaa
open Go.RowKit
set_option linter.unusedVariables false
set_option linter.unusedSimpArgs false
set_option maxRecDepth 100000

set_option maxHeartbeats 4000000 in
theorem PRpMay_any (x : Rc) (w : World) : Calls Try.prog 13 #[.int .u8 (x.k.toNat : Int), .int .i64 x.c] w fun e w' => e = .returned (.bool (mayR x)) ∧ w' = w := by
  obtain ⟨k1, h1⟩ : ∃ b, ((x.k.toNat : Int) == 1) = b := ⟨_, rfl⟩
  obtain ⟨k2, h2⟩ : ∃ b, ((x.k.toNat : Int) == 2) = b := ⟨_, rfl⟩
  obtain ⟨z, hz⟩ : ∃ b, (x.c == 0) = b := ⟨_, rfl⟩
  obtain ⟨o, ho⟩ : ∃ b, (x.c == 151) = b := ⟨_, rfl⟩
  obtain ⟨p, hp⟩ : ∃ b, (x.c == 150) = b := ⟨_, rfl⟩
  have e1 : (x.k = 1) ↔ k1 = true := by rw [← h1, beq_iff_eq, ← UInt8.toNat_inj]; show x.k.toNat = 1 ↔ _; omega
  have e2 : (x.k = 2) ↔ k2 = true := by rw [← h2, beq_iff_eq, ← UInt8.toNat_inj]; show x.k.toNat = 2 ↔ _; omega
  have e3 : (x.c = 0) ↔ z = true := by rw [← hz, beq_iff_eq]
  have e4 : (x.c = 151) ↔ o = true := by rw [← ho, beq_iff_eq]
  have e5 : (x.c = 150) ↔ p = true := by rw [← hp, beq_iff_eq]
  have hM : mayR x = if k1 then (z || o) else (k2 && (z || o || p)) := by
    unfold mayR
    simp only [e1, e2, e3, e4, e5]
    cases k1 <;> cases k2 <;> cases z <;> cases o <;> cases p <;> rfl
  have hx12 : ¬ (k1 = true ∧ k2 = true) := fun h => by have a := e1.2 h.1; have b := e2.2 h.2; rw [a] at b; exact absurd b (by decide)
  rw [hM]
  clear hM e1 e2 e3 e4 e5
  generalize x.k.toNat = vk at *
  generalize x.c = vc at *
  cases k1 <;> cases k2
  case true.true => exact absurd ⟨rfl, rfl⟩ hx12
  all_goals
    clear hx12
    cases z <;> cases o <;> cases p
  all_goals
    go_enter Try.func13, Try.ntmps13
    go_wp2
    go_ret
    exact ⟨rfl, rfl⟩
theorem PRpMay_is (x : Rc) (m : Bool) (hm : mayR x = m) (w : World) : Calls Try.prog 13 #[.int .u8 (x.k.toNat : Int), .int .i64 x.c] w fun e w' => e = .returned (.bool m) ∧ w' = w := hm ▸ PRpMay_any x w
theorem PRpCheck_any (x : Rc) (w : World) : Calls Try.prog 7 #[.agg (rcC x).toArray] w fun e w' => e = .returned (.int .i64 (rcE x)) ∧ Below w.heap.size w w' := by
  have hux := Try.underlying26
  have B0 := BoxR.new w x 26
  have W0 := hid (ext_alloc w (.cells (rcC x).toArray 26))
  have c0 := B0.k
  have c1 := B0.c
  unfold bv at c0
  obtain ⟨m, hm⟩ : ∃ m, mayR x = m := ⟨_, rfl⟩
  have hM := hid (fun W => PRpMay_is x m hm W)
  have hE : rcE x = if m = true then 0 else 8 := by unfold rcE; rw [hm]
  rw [hE]
  clear B0 hm hE
  generalize rcC x = cx at *
  generalize x.k.toNat = vk at *
  generalize x.c = vc at *
  cases m
  all_goals
    go_enter Try.func7, Try.ntmps7
    go_wp2_with fail
    refine (hM.out _).mono ?_
    rintro e w1 ⟨rfl, rfl⟩
    go_wp2
    go_ret
    exact ⟨rfl, W0.out⟩
theorem rcB_cat (x : Rc) : rcB x = [[x.k], x.i.1, be 2 x.c.toNat].flatten := by simp [rcB]
set_option maxHeartbeats 4000000 in
theorem PRpBytes_any (x : Rc) (w : World) : Calls Try.prog 5 #[.agg (rcC x).toArray] w fun e w' => ∃ A c, e = .returned (.tuple #[.slice A (rcO x).length c, .int .i64 (rcE x)]) ∧ Own 5 w' w.heap.size A c (rcO x) ∧ Below w.heap.size w w' := by
  have hux := Try.underlying26
  have hsl := run_all32P
  have B0 := BoxR.new w x 26
  have W0 := hid (ext_alloc w (.cells (rcC x).toArray 26))
  have X0 := hid B0.all
  have jx := hid (sizeRc x)
  have hC := hid (fun W => PRpCheck_any x W)
  obtain ⟨m, hm⟩ : ∃ m, mayR x = m := ⟨_, rfl⟩
  have hE : rcE x = if m = true then 0 else 8 := by unfold rcE; rw [hm]
  have hO : rcO x = if m = true then rcB x else [] := by unfold rcO; rw [hm]
  rw [hE] at hC
  rw [hE, hO]
  cases m with
  | false =>
    simp only [Bool.false_eq_true, if_false] at hC ⊢
    clear B0 hm hE hO
    generalize rcC x = cx at *
    go_enter Try.func5, Try.ntmps5
    go_wp2_with (first
      | ((with_reducible refine wpList_load_rng rfl 26 (.tmp 1) rfl w.heap.size 0 rfl cx _ ?_ hux rfl jx.out ?_); exact X0.out))
    refine (hC.out _).mono ?_
    rintro e w1 ⟨rfl, hb⟩
    go_wp2
    go_ret2
    exact ⟨none, 0, rfl, Own.nil _ _, W0.out.trans (hb.mono W0.out.size)⟩
  | true =>
    simp only [if_true] at hC ⊢
    have hcs := rc_codes hm
    have p1 : putE x.c.toNat 2 = 0 := by unfold putE; rw [if_pos (by decide)]; exact if_pos (by rcases hcs with h | h | h <;> rw [h] <;> decide)
    have d1 := hid (fun W => Put_is x.c.toNat x.c 2 (be 2 x.c.toNat) 0 W (by rcases hcs with h | h | h <;> rw [h] <;> rfl) (by rcases hcs with h | h | h <;> rw [h] <;> decide) (by unfold putB; rw [if_pos p1]; rfl) p1)
    have l1 := be_length 2 x.c.toNat
    have wc : IntKind.u64.wrap x.c = x.c := by rcases hcs with h | h | h <;> rw [h] <;> rfl
    have lb := rcB_len x
    have hz := rcB_cat x
    have c0 := B0.k
    have c1 := B0.c
    have i1 := hid (rd_keyP B0.i)
    unfold bv at c0
    have li := x.i.2
    rw [lb]
    rw [hz] at lb ⊢
    obtain ⟨vk, hk⟩ : ∃ v, x.k = v := ⟨_, rfl⟩
    rw [hk] at c0 lb ⊢
    clear B0 hm hE hO hcs p1 hz hk
    rw [l1] at d1
    generalize be 2 x.c.toNat = y at *
    have hCt := hid (fun A c W (h : Rds W A [[vk], x.i.1, y]) => concatB_any A c [[vk], x.i.1, y] W h (by simp) (by rw [lb]; decide))
    rw [lb] at hCt
    generalize rcC x = cx at *
    generalize x.i.1 = zi at *
    generalize x.c = vc at *
    obtain ⟨zz, hzz⟩ : ∃ z, [[vk], zi, y].flatten = z := ⟨_, rfl⟩
    rw [hzz] at hCt ⊢
    clear hzz lb
    go_enter Try.func5, Try.ntmps5
    go_wp2_with (first
      | ((with_reducible refine wpList_load_rng rfl 26 (.tmp 1) rfl w.heap.size 0 rfl cx _ ?_ hux rfl jx.out ?_); exact X0.out))
    refine (hC.out _).mono ?_
    rintro e w1 ⟨rfl, hb⟩
    have W1 := hid (W0.out.trans (hb.mono W0.out.size))
    have k1 := hid ((hb.cell (World.block_lt_of_cell? _ _ c0)).trans c0)
    have c2 := (hb.cell (World.block_lt_of_cell? _ _ c1)).trans c1
    have I1 := hid (i1.out.bel hb)
    clear hb c0 c1
    go_wp2_with fail
    refine (d1.out _).mono ?_
    rintro e w2 ⟨A2, k2, rfl, o2, hb⟩
    have W2 := hid (W1.out.trans (hb.mono W1.out.size))
    have c3 := hid ((hb.cell (World.block_lt_of_cell? _ _ k1.out)).trans k1.out)
    have I2 := hid (I1.out.bel hb)
    have r2 := hid o2.rd
    have v2 := hid o2.cap
    rw [l1] at v2
    clear hb c2 k1 I1 o2 X0
    go_wp2
    refine wp_region_noPanic ?_
    refine wp_region_held_drew (S := fun w' => Below w2.heap.size w2 w') (by kernel_rfl) ?_ (fun hHeld => ?_)
    · exact bel_drew w2
    refine' wpAnyH_take (i := 0) (oi := _) (v := ?_) rfl (by kernel_rfl) (by kernel_rfl) (by kernel_rfl) (fun _ _ _ h => h) (Or.inl ⟨by rfl, ?_⟩) (by assumption) ?_
    rotate_left
    · intro W hSw
      go_simp
      first | done | (with_reducible rfl)
    try simp only [Act.put, sQa, sQb, sQc, gQa, gQb, gQc]
    refine' wpAnyH_take (i := 1) (oi := _) (v := ?_) rfl (by kernel_rfl) (by kernel_rfl) (by kernel_rfl) (fun _ _ _ h => h) (Or.inl ⟨by rfl, ?_⟩) (by assumption) ?_
    rotate_left
    · intro W hSw
      have hCell := (hSw.cell (World.block_lt_of_cell? _ _ c3.out)).trans c3.out
      go_simp
      first | done | (with_reducible rfl)
    try simp only [Act.put, sQa, sQb, sQc, gQa, gQb, gQc]
    refine' wpAnyH_take (i := 3) (oi := _) (v := ?_) rfl (by kernel_rfl) (by kernel_rfl) (by kernel_rfl) (fun _ _ _ h => h) (Or.inl ⟨by rfl, ?_⟩) (by assumption) ?_
    rotate_left
    · intro W hSw
      go_simp
      first | done | (with_reducible rfl)
    try simp only [Act.put, sQa, sQb, sQc, gQa, gQb, gQc]
    refine' wpAnyH_take (i := 4) (oi := _) (v := _) rfl (by kernel_rfl) (by kernel_rfl) (by kernel_rfl) (fun _ _ _ h => h) (yieldsIf_slice (by rfl) _ _ _ _ _ rfl _ _ _ _ _ (hsl ⟨w.heap.size, 1, none⟩) rfl rfl rfl rfl) (by assumption) ?_
    try simp only [Act.put, sQa, sQb, sQc, gQa, gQb, gQc]
    refine' wpAnyH_take (i := 5) (oi := _) (v := ?_) rfl (by kernel_rfl) (by kernel_rfl) (by kernel_rfl) (fun _ _ _ h => h) (Or.inl ⟨by rfl, ?_⟩) (by assumption) ?_
    rotate_left
    · intro W hSw
      go_simp
      first | done | (with_reducible rfl)
    try simp only [Act.put, sQa, sQb, sQc, gQa, gQb, gQc]
    refine wpAnyH_ready (rs := [2]) (by kernel_rfl) (by simp) ?_
    refine AllReadyH.cons (o := _) rfl (fun K hK => ?_) AllReadyH.nil
    refine step_buildB1 rfl _ rfl vk rfl ?_
    intro g2 v2w e2 J2 E2
    refine hK.out _ _ ?_ (fun hHeld => ?_)
    · exact hHeld.trans (E2.mono hHeld.size)
    clear hK K
    try simp only [Act.put, sQa, sQb, sQc, gQa, gQb, gQc]
    refine wpAnyH_ready (rs := [6]) (by kernel_rfl) (by simp) ?_
    refine AllReadyH.cons (o := _) rfl (fun K hK => ?_) AllReadyH.nil
    refine step_buildSls rfl 3 _ rfl [(some ⟨g2, 0, none⟩, 1, [vk]), (some ⟨w.heap.size, 1, none⟩, 32, zi), (A2, k2, y)] [.slice (some ⟨g2, 0, none⟩) 1 1, .slice (some ⟨w.heap.size, 1, none⟩) 32 32, .slice A2 2 k2] (by simp [slV, li, l1]) rfl (by decide) (by decide) rfl ?_ ?_
    · intro p hp
      simp at hp
      rcases hp with rfl | rfl | rfl
      · exact ⟨J2, Nat.le_refl _, by show 1 ≤ maxLen; decide⟩
      · exact ⟨I2.out.bel hHeld, Nat.le_of_eq li, by show 32 ≤ maxLen; decide⟩
      · exact ⟨r2.out.bel hHeld, by show y.length ≤ k2; rw [l1]; exact v2.out.1, v2.out.2⟩
    intro g6 v6 e6 J6 E6
    refine hK.out _ _ ?_ (fun hHeld => ?_)
    · exact hHeld.trans (E6.mono hHeld.size)
    clear hK K
    try simp only [Act.put, sQa, sQb, sQc, gQa, gQb, gQc]
    refine wpAnyH_ready (rs := [7]) (by kernel_rfl) (by simp) ?_
    refine AllReadyH.cons (o := _) rfl (fun K hK => ?_) AllReadyH.nil
    go_simp
    refine (hCt.out _ _ _ J6).mono ?_
    rintro e v7 ⟨A7, c7, rfl, o7, hB⟩
    have S7 := hid (Nat.le_trans W2.out.size hHeld.size)
    go_wp2_with fail
    refine hK.out _ _ ?_ (fun hHeld => ?_)
    · exact hHeld.trans (hB.mono hHeld.size)
    clear hK K
    try simp only [Act.put, sQa, sQb, sQc, gQa, gQb, gQc]
    refine' wpAnyH_take (i := 8) (oi := _) (v := ?_) rfl (by kernel_rfl) (by kernel_rfl) (by kernel_rfl) (fun _ _ _ h => h) (Or.inl ⟨by rfl, ?_⟩) (by assumption) ?_
    rotate_left
    · intro W hSw
      go_simp
      first | done | (with_reducible rfl)
    try simp only [Act.put, sQa, sQb, sQc, gQa, gQb, gQc]
    refine' wpAnyH_take (i := 9) (oi := _) (v := ?_) rfl (by kernel_rfl) (by kernel_rfl) (by kernel_rfl) (fun _ _ _ h => h) (Or.inl ⟨by rfl, ?_⟩) (by assumption) ?_
    rotate_left
    · intro W hSw
      go_simp
      first | done | (with_reducible rfl)
    try simp only [Act.put, sQa, sQb, sQc, gQa, gQb, gQc]
    refine wpAnyH_done (by kernel_rfl) ?_ _
    refine NoPanic.normal ?_
    go_wp2
    go_ret2
    exact ⟨_, _, rfl, o7.base S7.out, W2.out.trans (hHeld.mono W2.out.size)⟩
theorem res_rcP {fn : Func} {p u : Tmp} (h : fn.results = #[.cell p 26, .tmp u]) (tmps : Array Value) (w : World) (g : Nat) (x : Rc) (e1 : tmps.getD p undef = .pointer (some ⟨g, 0, none⟩))
    (hg : w.heap[g]? = some (.cells (rcC x).toArray 26 (0, 0))) : (results fn tmps).run Try.prog w = .ok (.tuple #[.agg (rcC x).toArray, tmps.getD u undef]) w := by
  have h2 := run_loadVar_mid (P := Try.prog) w g 0 26 (rcC x) _ (rangeOf hg) Try.underlying26 rfl (sizeRc x)
  rw [results_cell_tmp h, e1]
  simp only [asAddr, Sem.run_pure, Result.andThen_ok, h2]
theorem rc_splice (k : UInt8) (d e : Dg) (c : Int) : splice (rcC ⟨k, d, c⟩) 1 (e.1.map bv) = rcC ⟨k, e, c⟩ := by
  have h : ∀ d : Dg, rcC ⟨k, d, c⟩ = [bv k] ++ (d.1.map bv ++ [.int .i64 c]) := fun d => by simp [rcC, rcS]
  unfold splice
  rw [h, h]
  have e1 : ([bv k] ++ (d.1.map bv ++ [Value.int .i64 c])).take 1 = [bv k] := rfl
  have e2 : ([bv k] ++ (d.1.map bv ++ [Value.int .i64 c])).drop (1 + (e.1.map bv).length) = [Value.int .i64 c] := by
    rw [← List.append_assoc, List.drop_left' (by simp [d.2, e.2])]
  rw [e1, e2]
set_option maxHeartbeats 4000000 in
theorem PRpRead_any (A : Option Addr) (c : Nat) (l : List UInt8) (w : World) (hr : Rd w A l) (hc : l.length ≤ c) (hm : c ≤ maxLen) (hl47 : l.length ≤ 140737488351232) :
    Calls Try.prog 6 #[.slice A l.length c] w fun e w' => e = .returned (.tuple #[.agg (rcC (readR l)).toArray, .int .i64 (readRE l)]) ∧ Below w.heap.size w w' := by
  have hux := Try.underlying26
  have h0 := hid (heap_alloc_new w (.cells zRcC 26))
  have b0 := hid (ext_alloc w (.cells zRcC 26))
  by_cases h1 : l.length < 35
  · have e1 : readRE l = 10 := by unfold readRE; rw [if_pos h1]
    have e2 : readR l = zR := by unfold readR; rw [if_neg (by rw [e1]; decide)]
    rw [e1, e2]
    have q1 : decide ((l.length : Int) < 35) = true := decide_eq_true (by omega)
    clear e1 e2
    go_enter Try.func6, Try.ntmps6
    go_wp2_with (first
      | (with_reducible refine wpList_alloc_row rfl 26 rfl zRcC zInfoRc ?_)
      | ((with_reducible refine wpList_built rfl 26 _ rfl zRcC [] ?_ ?_ ?_); exact built_rc0; rfl)
      | ((with_reducible refine wpList_store_row rfl 26 (.tmp 2) (.tmp 13) rfl w.heap.size _ rfl rfl 26 zRcC ?_ ?_ ?_ ?_ ?_); exact h0.out; exact sizeRcA zR; rfl; exact one_rc zR; intro w5 hg5 hb5 hs5))
    exact bodyPost_ret (res_rcP rfl _ _ w.heap.size zR rfl hg5) rfl ⟨rfl, b0.out.grown hb5 b0.out.size (fun g e => by injection e with e; omega)⟩
  have q1 : decide ((l.length : Int) < 35) = false := decide_eq_false (by omega)
  have sl1 := fun W => run_from slotU8k A l.length c 35 (by omega) W
  have E3 := hid (fun A' n' c' W (hn : n' = l.length - 35) => End_is A' n' c' (l.drop 35) (endE (l.drop 35)) W (by rw [List.length_drop, hn]) rfl)
  have hee : endE (l.drop 35) = if 35 < l.length then 11 else 0 := by unfold endE; rw [List.length_drop]; split <;> split <;> omega
  by_cases h2 : 35 < l.length
  · have e1 : readRE l = 11 := by unfold readRE; rw [if_neg h1, if_pos h2]
    have e2 : readR l = zR := by unfold readR; rw [if_neg (by rw [e1]; decide)]
    rw [e1, e2]
    rw [hee, if_pos h2] at E3
    clear e1 e2 hee
    go_enter Try.func6, Try.ntmps6
    go_wp2_with (first
      | (with_reducible refine wpList_alloc_row rfl 26 rfl zRcC zInfoRc ?_))
    refine (E3.out _ _ _ _ rfl).mono ?_
    rintro e w1 ⟨rfl, rfl⟩
    go_wp2_with (first
      | ((with_reducible refine wpList_built rfl 26 _ rfl zRcC [] ?_ ?_ ?_); exact built_rc0; rfl)
      | ((with_reducible refine wpList_store_row rfl 26 (.tmp 2) (.tmp 19) rfl w.heap.size _ rfl rfl 26 zRcC ?_ ?_ ?_ ?_ ?_); exact h0.out; exact sizeRcA zR; rfl; exact one_rc zR; intro w5 hg5 hb5 hs5))
    exact bodyPost_ret (res_rcP rfl _ _ w.heap.size zR rfl hg5) rfl ⟨rfl, b0.out.grown hb5 b0.out.size (fun g e => by injection e with e; omega)⟩
  rw [hee, if_neg h2] at E3
  have hl9 : l.length = 35 := by omega
  obtain ⟨x, hx⟩ : ∃ x, takenR l = x := ⟨_, rfl⟩
  obtain ⟨nc, hnc⟩ : ∃ n, num (l.drop 33) = n := ⟨_, rfl⟩
  have hn16 : nc < 65536 := by
    have := num_lt (l.drop 33)
    rw [show (l.drop 33).length = 2 by rw [List.length_drop]; omega, hnc] at this
    exact this
  have xc : x.c = (nc : Int) := by rw [← hx, ← hnc]; rfl
  have xk : x.k = l[0]'(by omega) := by
    rw [← hx]
    cases l with
    | nil => simp at hl9
    | cons a m => rfl
  have xi : x.i.1 = (l.drop 1).take 32 := by rw [← hx]; exact dgAt_val (by omega)
  obtain ⟨m, hmm⟩ : ∃ m, mayR x = m := ⟨_, rfl⟩
  have hCh := hid (fun W => PRpCheck_any x W)
  have hE : rcE x = if m = true then 0 else 8 := by unfold rcE; rw [hmm]
  rw [hE] at hCh
  have E1 : readRE l = if m = true then 0 else 8 := by
    unfold readRE
    rw [if_neg h1, if_neg h2, hx, hE]
  have E2 : readR l = if m = true then x else zR := by
    unfold readR
    rw [E1, hx]
    cases m <;> rfl
  rw [E1, E2]
  have hcut : Rd w (cutA A c 33 1) (l.drop 33) := ((hr.row (F := fun _ => True) fun _ _ _ => trivial).cut 33 c (by omega) hc).rd
  have hcp : Rd w (cutA A c 1 1) ((l.drop 1).take 32) := (((hr.row (F := fun _ => True) fun _ _ _ => trivial).cut 1 c (by omega) hc).rd).take 32
  rw [← xi] at hcp
  obtain ⟨b, o, rfl, hcl⟩ := rd_cell hr (by omega)
  have a33 : cutA (some ⟨b, o, none⟩) c 33 1 = some ⟨b, o + 33, none⟩ := by unfold cutA; rw [if_neg (by omega)]; rfl
  have a1 : cutA (some ⟨b, o, none⟩) c 1 1 = some ⟨b, o + 1, none⟩ := by unfold cutA; rw [if_neg (by omega)]; rfl
  rw [a33] at hcut
  rw [a1] at hcp
  have hk0 := hcl 0 (by omega)
  rw [← xk, Nat.add_zero] at hk0
  have wc : IntKind.i64.wrap (nc : Int) = (nc : Int) := by rw [IntKind.wrap_i64]; omega
  have sl3 := fun W => run_within slotU8k (some ⟨b, o, none⟩) l.length c 1 33 (by omega) (by omega) W
  rw [show (Enc.size UInt8) = 1 from rfl, a1] at sl3
  replace sl3 := hid sl3
  have hm2 : c ≤ 9223372036854775807 := by unfold maxLen at hm; omega
  have n2 : (l.drop 33).length = 2 := by rw [List.length_drop]; omega
  have tk : takeE (l.drop 33) 2 = 0 := by unfold takeE; rw [if_pos (by decide), if_neg (by omega)]
  have T1 := hid (fun n' c' W (hn : n' = l.length - 33) (hc' : 2 ≤ c') (hc2 : c' ≤ c) (h : Rd W (some ⟨b, o + 33, none⟩) (l.drop 33)) => Take_is (some ⟨b, o + 33, none⟩) n' c' (l.drop 33) 2 (nc : Int) (takeR (l.drop 33) 2) 0 W h (by rw [List.length_drop, hn]) (by omega) (by omega) (by omega) (by unfold takeN; rw [tk, if_pos rfl, List.take_of_length_le (by rw [n2]; decide), hnc]) rfl tk)
  generalize takeR (l.drop 33) 2 = tr at *
  have hc35 := hid (show 35 ≤ c from by omega)
  have bl := hid (built_rc2 x.k (nc : Int))
  have hx9 : x = ⟨x.k, x.i, (nc : Int)⟩ := rc_ext rfl rfl xc
  have sp := hid (rc_splice x.k ⟨List.replicate 32 0, rfl⟩ x.i (nc : Int))
  rw [← hx9] at sp
  have x0ok := hid (one_rc ⟨x.k, ⟨List.replicate 32 0, rfl⟩, (nc : Int)⟩)
  have x0z := hid (zSizeRc ⟨x.k, ⟨List.replicate 32 0, rfl⟩, (nc : Int)⟩)
  have x0a := hid (sizeRcA ⟨x.k, ⟨List.replicate 32 0, rfl⟩, (nc : Int)⟩)
  have x0l := hid (len_rc ⟨x.k, ⟨List.replicate 32 0, rfl⟩, (nc : Int)⟩)
  generalize rcC ⟨x.k, ⟨List.replicate 32 0, rfl⟩, (nc : Int)⟩ = y0 at *
  have jx := hid (sizeRc x)
  have xok := hid (one_rc x)
  have xa := hid (sizeRcA x)
  have xz := hid (zSizeRc x)
  have hsz : (Try.prog.info? 5).map (·.size) = some 1 := by kernel_rfl
  have hsl := run_all32P
  have i0 : (0 : Int) < (l.length : Int) := by omega
  have i00 : 0 < l.length := by omega
  have i35 : 35 ≤ l.length := by omega
  have i33 : 33 ≤ l.length := by omega
  have c33 : ¬ c = 33 := by omega
  have li := x.i.2
  have R0 := hid (hcut)
  have P0 := hid (hcp)
  have lc := hid (show (x.i.1.map bv).length = Nat.min (33 - 1) 32 from by rw [List.length_map, li]; rfl)
  have lf := hid (show 1 + (x.i.1.map bv).length ≤ y0.length from by rw [List.length_map, li, x0l.out]; decide)
  have l1 := hid (bvs_one x.i.1)
  have src := hid (fun W (hb : Below w.heap.size w W) (hp : 0 < (x.i.1.map bv).length) => (hcp.bel hb).src hp)
  have hk1 := hid hk0
  clear E1 E2 h1 h2 hl9 hc hm hr hx hnc xc xk xi hmm hcl hk0 hcut hcp hee hE hl47 n2 tk hm2 a33 a1 hx9
  generalize x.i.1.map bv = cs at *
  go_enter Try.func6, Try.ntmps6
  go_wp2_with (first
    | (with_reducible refine wpList_alloc_row rfl 26 rfl zRcC zInfoRc ?_))
  all_goals
    refine (E3.out _ _ _ _ rfl).mono ?_
    rintro e w1 ⟨rfl, rfl⟩
    go_wp2_with fail
    try subst h
    refine (T1.out _ _ _ rfl ?_ ?_ (R0.out.bel b0.out)).mono ?_
    · have := hc35.out; omega
    · omega
    rintro e w1 ⟨A1, c1, rfl, -, hb⟩
    have h1 := hid ((hb.block _ (block_lt h0.out)).trans h0.out)
    have W1 := hid (b0.out.trans (hb.mono b0.out.size))
    have k1 := (W1.out.cell (World.block_lt_of_cell? _ _ hk1.out)).trans hk1.out
    have e1 := hid (heap_alloc_new w1 (.cells zRcC 26))
    have m1 := hid (block_lt h1.out)
    clear hb
    go_wp2_with (first
      | ((with_reducible refine wpList_built rfl 26 _ rfl y0.toArray [(0, bv x.k), (2, .int .i64 (nc : Int))] ?_ ?_ ?_); exact bl.out; rfl)
      | (with_reducible refine wpList_alloc_row rfl 26 rfl zRcC zInfoRc ?_)
      | ((with_reducible refine wpList_store_row rfl 26 (.tmp 8) (.tmp 33) rfl w1.heap.size _ rfl rfl 26 zRcC ?_ ?_ ?_ ?_ ?_); exact e1.out; exact x0a.out; exact x0z.out; exact x0ok.out; intro w2 hgS hbS hsS; have X2 := hid (xnewP rfl hbS); have q2 := hid hgS; clear hgS hbS hsS))
    have h2 := hid ((X2.out.block _ (block_lt h1.out)).trans h1.out)
    have W2 := hid (W1.out.trans (X2.out.mono W1.out.size))
    have D2 := hid (bel_drew w2)
    clear e1 k1
    refine wp_region_noPanic ?_
    refine wp_region_held_drew (S := fun _ => True) (by kernel_rfl) ?_ (fun hHeld => ?_)
    · exact trivial
    refine' wpAnyH_take (i := 0) (oi := _) (v := ?_) rfl (by kernel_rfl) (by kernel_rfl) (by kernel_rfl) (fun _ _ _ h => h) (Or.inl ⟨by rfl, ?_⟩) (by assumption) ?_
    rotate_left
    · intro W hSw
      go_simp
      first | done | (with_reducible rfl)
    try simp only [Act.put, sQa, sQb, sQc, gQa, gQb, gQc]
    refine' wpAnyH_take (i := 1) (oi := _) (v := _) rfl (by kernel_rfl) (by kernel_rfl) (by kernel_rfl) (fun _ _ _ h => h) (yieldsIf_slice (by rfl) _ _ _ _ _ rfl _ _ _ _ _ (hsl ⟨w1.heap.size, 1, none⟩) rfl rfl rfl rfl) (by assumption) ?_
    try simp only [Act.put, sQa, sQb, sQc, gQa, gQb, gQc]
    refine' wpAnyH_take (i := 2) (oi := _) (v := ?_) rfl (by kernel_rfl) (by kernel_rfl) (by kernel_rfl) (fun _ _ _ h => h) (Or.inl ⟨by rfl, ?_⟩) (by assumption) ?_
    rotate_left
    · intro W hSw
      go_simp
      first | done | (with_reducible rfl)
    try simp only [Act.put, sQa, sQb, sQc, gQa, gQb, gQc]
    refine' wpAnyH_take (i := 3) (oi := _) (v := _) rfl (by kernel_rfl) (by kernel_rfl) (by kernel_rfl) (fun _ _ _ h => h) (yieldsIf_slice (by rfl) _ _ _ _ _ rfl _ _ _ _ _ (sl3.out) rfl rfl rfl rfl) (by assumption) ?_
    try simp only [Act.put, sQa, sQb, sQc, gQa, gQb, gQc]
    refine wpAnyH_ready (rs := [4]) (by kernel_rfl) (by simp) ?_
    refine AllReadyH.cons (o := _) rfl (fun K hK => ?_) AllReadyH.nil
    refine step_copy_splice rfl (.tmp 35) (.tmp 37) 27 27 rfl 5 Try.underlying27 hsz _ _ _ _ _ _ rfl rfl w1.heap.size 1 y0 26 ((D2.out.block _ (block_lt q2.out)).trans q2.out) cs lc.out (fun hp => ⟨rfl, src.out _ (W2.out.trans (D2.out.mono W2.out.size)) hp⟩) lf.out l1.out w1.heap.size w1 (X2.out.trans (D2.out.mono X2.out.size)) (Nat.le_refl _) ?_
    intro w3 hg3 hb3
    refine hK.out _ _ ?_ (fun hHeld => ?_)
    · exact trivial
    clear hK K
    try simp only [Act.put, sQa, sQb, sQc, gQa, gQb, gQc]
    refine wpAnyH_done (by kernel_rfl) ?_ _
    refine NoPanic.normal ?_
    rw [sp.out] at hg3
    have W3 := hid (W1.out.trans (hb3.mono W1.out.size))
    have h3 := hid ((hb3.block _ m1.out).trans h1.out)
    have q3 := hid (rangeOf hg3.out)
    clear hg3 hb3 hHeld
    go_wp2_with (first
      | ((with_reducible refine wpList_load_rng rfl 26 (.tmp 8) rfl w1.heap.size 0 rfl (rcC x) _ ?_ hux rfl jx.out ?_); exact q3.out))
    refine (hCh.out _).mono ?_
    rintro e w4 ⟨rfl, hb⟩
    have h4 := hid ((hb.block _ (block_lt h3.out)).trans h3.out)
    have W4 := hid (W3.out.trans (hb.mono W3.out.size))
    have q4 := hid (rangeBel2 hb q3.out)
    clear hb
    cases m
    · go_wp2_with (first
        | ((with_reducible refine wpList_built rfl 26 _ rfl zRcC [] ?_ ?_ ?_); exact built_rc0; rfl)
        | ((with_reducible refine wpList_store_row rfl 26 (.tmp 2) (.tmp 43) rfl w.heap.size _ rfl rfl 26 zRcC ?_ ?_ ?_ ?_ ?_); exact h4.out; exact sizeRcA zR; rfl; exact one_rc zR; intro w5 hg5 hb5 hs5))
      exact bodyPost_ret (res_rcP rfl _ _ w.heap.size zR rfl hg5) rfl ⟨rfl, W4.out.grown hb5 W4.out.size (fun g e => by injection e with e; omega)⟩
    · go_wp2_with (first
        | ((with_reducible refine wpList_load_rng rfl 26 (.tmp 8) rfl w1.heap.size 0 rfl (rcC x) _ ?_ hux rfl jx.out ?_); exact q4.out)
        | ((with_reducible refine wpList_store_row rfl 26 (.tmp 2) (.tmp 45) rfl w.heap.size _ rfl rfl 26 zRcC ?_ ?_ ?_ ?_ ?_); exact h4.out; exact xa.out; exact xz.out; exact xok.out; intro w5 hg5 hb5 hs5))
      exact bodyPost_ret (res_rcP rfl _ _ w.heap.size x rfl hg5) rfl ⟨rfl, W4.out.grown hb5 W4.out.size (fun g e => by injection e with e; omega)⟩
end Go.Proofs.Ytciccabhampjlaa
