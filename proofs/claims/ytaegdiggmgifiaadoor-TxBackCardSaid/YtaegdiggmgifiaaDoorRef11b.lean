/-
  The document's answers of layer 11: Sign, digest, Read.
-/
import Derived.Test.YtaegdiggmgifiaaDoorRef11a
import Derived.Test.YtaegdiggmgifiaaDoorCutsB
import Derived.Test.YtaegdiggmgifiaaDoorDgF
namespace Go.Proofs.YtaegdiggmgifiaaDoor
open Go.RowKit
set_option linter.unusedVariables false
set_option linter.unusedSimpArgs false
set_option maxRecDepth 100000

theorem Chg.below2 {F : Nat → Prop} {w w' : World} {B : Nat} (h : Chg F w w') (hB : B ≤ w.heap.size) (hF : ∀ b, b < B → ¬ F b) : Below B w w' := h.below hB hF
set_option maxHeartbeats 2000000 in
theorem RTxSign_any (x : Tx) (hx : x.ok) (w : World) : Calls Tryd.prog 18 #[.agg (txC x).toArray] w fun e w' => e = .returned (.agg (txC (signX x)).toArray) ∧ Below w.heap.size w w' := by
  have hu := Tryd.underlying23
  have hux := Tryd.underlying26
  have h0 := heap_alloc_new w (.cells (txC x).toArray 26)
  have h1 := heap_alloc_new (w.alloc (.cells (txC x).toArray 26)) (.cells zTxC 26)
  have b1 := ext_alloc (w.alloc (.cells (txC x).toArray 26)) (.cells zTxC 26)
  rw [World.size_alloc] at h1
  have W1 := hid ((ext_alloc w (.cells (txC x).toArray 26)).trans (b1.mono (ext_alloc w _).size))
  replace h0 := hid ((b1.block _ (block_lt h0)).trans h0)
  have X1 := hid (rangeOf h0.out)
  have jx := hid (sizeTx x)
  have jy := hid (sizeTx (signX x))
  have jz := hid (sizeTxA (signX x))
  have oz := hid (one_tx (signX x))
  have ez := hid (zSizeTx (signX x))
  have jd := hid (show (Tryd.prog.info? 23).map (·.size) = some ((signD x).1.map bv).length from by rw [List.length_map, (signD x).2]; exact size32)
  have od := hid (bvs_all (signD x).1)
  have hBd := hid (fun W => RTxBody_any x hx W)
  have lb := body_len x
  have hO := fun A c W (h : Rd W A (bodyX x)) (h1 : (bodyX x).length ≤ c) (h2 : c ≤ maxLen) => ROneD_any 4 A c (bodyX x) W h ⟨h1, h2⟩ (by rw [lb]; decide)
  have hD : sha256 (tagB 4 [bodyX x]) = (signD x).1 := rfl
  rw [hD, lb] at hO
  replace hO := hid hO
  have hS := hid (setA_sign x (signD x))
  have hSx : ({ x with s := signD x } : Tx) = signX x := rfl
  rw [hSx] at hS
  have hfit := hid (show 67 + ((signD x).1.map bv).length ≤ (txC x).toArray.size from by rw [List.length_map, (signD x).2, List.size_toArray, len_tx]; decide)
  replace h1 := hid h1
  clear b1 hD hSx
  generalize (signD x).1.map bv = dD at *
  generalize txC (signX x) = cz at *
  generalize txC x = cx at *
  generalize bodyX x = zb at *
  go_enter Tryd.func18, Tryd.ntmps18
  go_wp2_with (first
    | (with_reducible refine wpList_alloc_row rfl 26 rfl zTxC zInfoTx ?_)
    | ((with_reducible refine wpList_load_rng rfl 26 (.tmp 1) rfl w.heap.size 0 rfl cx _ ?_ hux rfl jx.out ?_); exact X1.out))
  refine (hBd.out _).mono ?_
  rintro e w3 ⟨A3, c3, rfl, o3, hb3⟩
  have H3 := hid ((hb3.block _ (block_lt h0.out)).trans h0.out)
  have R3 := hid ((hb3.block _ (block_lt h1.out)).trans h1.out)
  have W3 := hid (W1.out.trans (hb3.mono W1.out.size))
  have q1 := o3.cap.1
  have q2 := o3.cap.2
  have q3 := hid o3.rd
  rw [lb] at q1
  clear hb3 o3
  go_wp2_with fail
  refine (hO.out _ _ _ q3.out q1 q2).mono ?_
  rintro e w4 ⟨rfl, hb4⟩
  have H4 := hid ((hb4.block _ (block_lt H3.out)).trans H3.out)
  have R4 := hid ((hb4.block _ (block_lt R3.out)).trans R3.out)
  have W4 := hid (W3.out.trans (hb4.mono W3.out.size))
  clear hb4
  go_wp2_with (first
    | ((with_reducible refine wpList_store_manyB rfl 23 (.tmp 6) (.tmp 5) rfl w.heap.size 67 dD cx.toArray 26 rfl rfl ?_ ?_ ?_ ?_ ?_); exact H4.out; exact hfit.out; exact jd.out; exact od.out; intro w5 hg5 hc5; rw [hS.out] at hg5; have Y5 := hid (rangeOf hg5); have R5 := hid ((hc5.block _ (block_lt R4.out) (by simp)).trans R4.out); have W5 := hid (W4.out.trans (hc5.below W4.out.size (fun b hb e => by omega))); clear hg5 hc5)
    | ((with_reducible refine wpList_load_rng rfl 26 (.tmp 1) rfl w.heap.size 0 rfl cz _ ?_ hux rfl jy.out ?_); exact Y5.out)
    | ((with_reducible refine wpList_store_row rfl 26 (.tmp 2) (.tmp 7) rfl (w.heap.size + 1) _ rfl rfl 26 zTxC ?_ ?_ ?_ ?_ ?_); exact R5.out; exact jz.out; exact ez.out; exact oz.out; intro w6 hg6 hb6 hs6))
  refine bodyPost_ret (v := .agg cz.toArray) ?_ rfl ⟨rfl, ?_⟩
  · exact results_cell_row Tryd.results18 _ _ (w.heap.size + 1) 26 _ (0, 0) _ rfl hg6 hux rfl jz.out
  · exact W5.out.grown hb6 W5.out.size (fun g e => by injection e with e; omega)
set_option maxHeartbeats 2000000 in
theorem RDig_any (A : Option Addr) (c : Nat) (l : List UInt8) (a : Nat) (w : World) (hr : Rd w A l) (ha : a + 32 ≤ l.length) (hl : l.length ≤ 1000000) :
    Calls Tryd.prog 38 #[.slice A l.length c, .int .i64 (a : Int)] w fun e w' => e = .returned (.agg ((dgAt l a).1.map bv).toArray) ∧ Below w.heap.size w w' := by
  have hu := Tryd.underlying23
  have hd := dgAt_val ha
  have ls : (dgAt l a).1.length = 32 := (dgAt l a).2
  obtain ⟨s, hs⟩ : ∃ s, (dgAt l a).1 = s := ⟨_, rfl⟩
  rw [hs] at hd ls ⊢
  have hget : ∀ j (h : j < s.length), s[j] = l[a + j]'(by omega) := fun j h => by simp [hd]
  have b0 := ext_alloc w (.cells z32 23)
  have h0 := heap_alloc_new w (.cells z32 23)
  have h1 := heap_alloc_new (w.alloc (.cells z32 23)) (.cells z32 23)
  have b1 := ext_alloc (w.alloc (.cells z32 23)) (.cells z32 23)
  rw [World.size_alloc] at h1
  replace h0 := hid ((b1.block _ (block_lt h0)).trans h0)
  have W1 := hid (b0.trans (b1.mono b0.size))
  have sz1 := hid (show ((w.alloc (.cells z32 23)).alloc (.cells z32 23)).heap.size = w.heap.size + 1 + 1 by rw [World.size_alloc, World.size_alloc])
  replace h1 := hid h1
  have hz32 := hid (show z32 = ((dgF s 0).map bv).toArray by rw [dgF_zero]; rfl)
  have zs : ((s.map bv).toArray).size = 32 := by simp [ls]
  have oz := hid (bvs_all s)
  have jd := hid (show (Tryd.prog.info? 23).map (·.size) = some (s.map bv).length from by rw [List.length_map, ls]; exact size32)
  clear hd hs b0 b1
  go_enter Tryd.func38, Tryd.ntmps38
  go_wp2_with (first
    | (with_reducible refine wpList_alloc_row rfl 23 rfl z32 info32 ?_))
  generalize (w.alloc (.cells z32 23)).alloc (.cells z32 23) = w1 at *
  rw [hz32.out] at h1
  go_loopw [6] (fun i wr => ∃ j : Nat, j ≤ 32 ∧ i = .int .i64 j ∧ wr.heap[w.heap.size + 1]? = some (.cells ((dgF s j).map bv).toArray 23 (0, 0)) ∧ Below (w.heap.size + 1) w1 wr) (fun i _ => 32 - (intOf i).toNat)
  case atStart => exact ⟨0, Nat.zero_le _, rfl, h1.out, Below.refl _ _⟩
  case round =>
    obtain ⟨j, hj, rfl, hg, hb⟩ := hrel
    by_cases hlt : j < 32
    · have hrw := hr.bel (W1.out.trans (hb.mono (Nat.le_trans (Nat.le_succ _) (Nat.le_refl _))))
      obtain ⟨b, o, rfl, hc⟩ := rd_cell hrw (by omega)
      have hcell := hc (a + j) (by omega)
      have hcb := block_bcell hg j (by rw [dgF_len ls (by omega)]; exact hlt)
      have hf := block_frozen hg j
      have e4 := hid (dgF_step ls (j := j) (by omega))
      have e5 := hid (hget j (by omega))
      have hwr : IntKind.i64.wrap ((a : Int) + (j : Int)) = ((a + j : Nat) : Int) := by rw [IntKind.wrap_i64]; omega
      have i1 : ((a + j : Nat) : Int).toNat = a + j := Int.toNat_natCast _
      have i2 : (0 : Int) ≤ ((a + j : Nat) : Int) := Int.natCast_nonneg _
      have i3 : ((a + j : Nat) : Int) < (l.length : Int) := by omega
      clear hc
      go_wp2
      go_roundw
      case rel =>
        refine ⟨j + 1, by omega, by go_num, ?_, hb.setCell (Nat.le_refl _) _⟩
        rw [← e4.out, e5.out]
        exact block_bset hg _ _
      case measure => simp [intOf]; omega
    · obtain rfl : j = 32 := by omega
      rw [dgF_all ls] at hg
      have h9 := hid ((hb.block _ (Nat.lt_succ_self _)).trans h0.out)
      have W9 := hid (W1.out.trans (hb.mono (Nat.le_succ _)))
      have Y9 := hid (rangeOf hg)
      clear hg hb h0 h1
      go_wp2_with (first
        | ((with_reducible refine wpList_load_rng rfl 23 (.tmp 5) rfl (w.heap.size + 1) 0 rfl (s.map bv) _ ?_ hu rfl jd.out ?_); exact Y9.out)
        | ((with_reducible refine wpList_store_row rfl 23 (.tmp 4) (.tmp 19) rfl w.heap.size _ rfl rfl 23 z32 ?_ ?_ ?_ ?_ ?_); exact h9.out; (rw [zs]; exact size32); (rw [zs]; exact z32_size); exact oz.out; intro w6 hg6 hb6 hs6))
      refine bodyPost_ret (v := .agg (s.map bv).toArray) ?_ rfl ⟨rfl, ?_⟩
      · exact results_cell_row Tryd.results38 _ _ w.heap.size 23 _ (0, 0) _ rfl hg6 hu rfl (by rw [zs]; exact size32)
      · exact W9.out.grown hb6 W9.out.size (fun g e => by injection e with e; omega)
theorem res_tx {fn : Func} {p u : Tmp} (h : fn.results = #[.cell p 26, .tmp u]) (tmps : Array Value) (w : World) (g : Nat) (x : Tx) (e1 : tmps.getD p undef = .pointer (some ⟨g, 0, none⟩))
    (hg : w.heap[g]? = some (.cells (txC x).toArray 26 (0, 0))) : (results fn tmps).run Tryd.prog w = .ok (.tuple #[.agg (txC x).toArray, tmps.getD u undef]) w := by
  have h2 := run_loadVar_mid (P := Tryd.prog) w g 0 26 (txC x) _ (rangeOf hg) Tryd.underlying26 rfl (sizeTx x)
  rw [results_cell_tmp h, e1]
  simp only [asAddr, Sem.run_pure, Result.andThen_ok, h2]
set_option maxHeartbeats 4000000 in
theorem RTxRead_any (A : Option Addr) (c : Nat) (l : List UInt8) (w : World) (hr : Rd w A l) (hc : l.length ≤ c) (hm : c ≤ maxLen) (hl : l.length ≤ 1000000) :
    Calls Tryd.prog 25 #[.slice A l.length c] w fun e w' => e = .returned (.tuple #[.agg (txC (readX l)).toArray, .int .i64 (readXE l)]) ∧ Below w.heap.size w w' := by
  have hux := Tryd.underlying26
  have h0 := hid (heap_alloc_new w (.cells zTxC 26))
  have b0 := hid (ext_alloc w (.cells zTxC 26))
  by_cases h1 : l.length < 120
  · have e1 : readXE l = 10 := by unfold readXE; rw [if_pos h1]
    have e2 : readX l = zX := by unfold readX; rw [if_neg (by rw [e1]; decide)]
    rw [e1, e2]
    have q1 : decide ((l.length : Int) < 120) = true := decide_eq_true (by omega)
    clear e1 e2
    go_enter Tryd.func25, Tryd.ntmps25
    go_wp2_with (first
      | (with_reducible refine wpList_alloc_row rfl 26 rfl zTxC zInfoTx ?_)
      | ((with_reducible refine wpList_built rfl 26 _ rfl zTxC [] ?_ ?_ ?_); exact built_tx0; rfl)
      | ((with_reducible refine wpList_store_row rfl 26 (.tmp 2) (.tmp 8) rfl w.heap.size _ rfl rfl 26 zTxC ?_ ?_ ?_ ?_ ?_); exact h0.out; exact sizeTxA zX; rfl; exact one_tx zX; intro w5 hg5 hb5 hs5))
    exact bodyPost_ret (res_tx rfl _ _ w.heap.size zX rfl hg5) rfl ⟨rfl, b0.out.grown hb5 b0.out.size (fun g e => by injection e with e; omega)⟩
  have q1 : decide ((l.length : Int) < 120) = false := decide_eq_false (by omega)
  by_cases h2 : 120 < l.length
  · have e1 : readXE l = 11 := by unfold readXE; rw [if_neg h1, if_pos h2]
    have e2 : readX l = zX := by unfold readX; rw [if_neg (by rw [e1]; decide)]
    rw [e1, e2]
    have q2 : decide (120 < (l.length : Int)) = true := decide_eq_true (by omega)
    clear e1 e2
    go_enter Tryd.func25, Tryd.ntmps25
    go_wp2_with (first
      | (with_reducible refine wpList_alloc_row rfl 26 rfl zTxC zInfoTx ?_)
      | ((with_reducible refine wpList_built rfl 26 _ rfl zTxC [] ?_ ?_ ?_); exact built_tx0; rfl)
      | ((with_reducible refine wpList_store_row rfl 26 (.tmp 2) (.tmp 12) rfl w.heap.size _ rfl rfl 26 zTxC ?_ ?_ ?_ ?_ ?_); exact h0.out; exact sizeTxA zX; rfl; exact one_tx zX; intro w5 hg5 hb5 hs5))
    exact bodyPost_ret (res_tx rfl _ _ w.heap.size zX rfl hg5) rfl ⟨rfl, b0.out.grown hb5 b0.out.size (fun g e => by injection e with e; omega)⟩
  have q2 : decide (120 < (l.length : Int)) = false := decide_eq_false (by omega)
  have hl9 : l.length = 120 := by omega
  obtain ⟨x, hx⟩ : ∃ x, takenX l = x := ⟨_, rfl⟩
  have hok : x.ok := by rw [← hx]; exact taken_ok hl9
  obtain ⟨cb, hcb⟩ : ∃ b, decide (x.s = signD x) = b := ⟨_, rfl⟩
  have hCk := hid (fun W => RTxCheck_any x hok cb hcb W)
  have E1 : readXE l = if cb = true then 0 else 110 := by
    unfold readXE checkX
    rw [if_neg h1, if_neg h2, hx, ← hcb]
    by_cases hq : x.s = signD x
    · rw [if_pos hq, if_pos (decide_eq_true hq)]
    · rw [if_neg hq, if_neg (by rw [decide_eq_false hq]; decide)]
  have E2 : readX l = if cb = true then x else zX := by
    unfold readX
    rw [E1, hx]
    cases cb <;> rfl
  rw [E1, E2]
  have cut := fun k (hk : k + 8 ≤ 120) => (show Rd w (cutA A c k 1) ((l.drop k).take 8) from (((hr.row (F := fun _ => True) fun _ _ _ => trivial).cut k c (by omega) hc).rd).take 8)
  have fl := hid (fun W (hb : Below w.heap.size w W) => (show Rd W A l ∧ Rd W (cutA A c 64 1) ((l.drop 64).take 8) ∧ Rd W (cutA A c 72 1) ((l.drop 72).take 8) ∧ Rd W (cutA A c 80 1) ((l.drop 80).take 8) from ⟨hr.bel hb, (cut 64 (by decide)).bel hb, (cut 72 (by decide)).bel hb, (cut 80 (by decide)).bel hb⟩))
  have sl1 := hid (fun W => run_within slotU8k A l.length c 64 72 (by decide) (by omega) W)
  have sl2 := hid (fun W => run_within slotU8k A l.length c 72 80 (by decide) (by omega) W)
  have sl3 := hid (fun W => run_within slotU8k A l.length c 80 88 (by decide) (by omega) W)
  have dg := hid (fun a (ha : a + 32 ≤ l.length) W (h : Rd W A l) => RDig_any A c l a W h ha hl)
  have nl := hid (fun k (hk : k + 8 ≤ 120) => (show ((l.drop k).take 8).length = 8 by rw [List.length_take, List.length_drop, hl9]; omega))
  have bl := built_tx x
  rw [← hx] at bl
  have bl2 : Tryd.prog.built 26 [(0, .agg ((dgAt l 0).1.map bv).toArray), (1, .agg ((dgAt l 32).1.map bv).toArray), (2, .int .u64 (num ((l.drop 64).take 8) : Int)), (3, .int .u64 (num ((l.drop 72).take 8) : Int)), (4, .int .u64 (num ((l.drop 80).take 8) : Int)), (5, .agg ((dgAt l 88).1.map bv).toArray)] = some (txC x).toArray := by rw [← hx]; exact bl
  replace bl2 := hid bl2
  have hl9' := hid hl9
  have jx := hid (sizeTx x)
  clear bl E1 E2 cut h1 h2 hl9 hc hm hl hr hx hcb
  go_enter Tryd.func25, Tryd.ntmps25
  go_wp2_with (first
    | (with_reducible refine wpList_alloc_row rfl 26 rfl zTxC zInfoTx ?_))
  generalize w.alloc (.cells zTxC 26) = w1 at *
  refine wp_region_noPanic ?_
  refine wp_region_held_drew (S := fun w' => Below w1.heap.size w1 w') (by kernel_rfl) ?_ (fun hHeld => ?_)
  · exact bel_drew w1
  refine' wpAnyH_take (i := 0) (oi := _) (v := ?_) rfl (by kernel_rfl) (by kernel_rfl) (by kernel_rfl) (fun _ _ _ h => h) (Or.inl ⟨by rfl, ?_⟩) (by assumption) ?_
  rotate_left
  · intro W hSw
    go_simp
    first | done | (with_reducible rfl)
  try simp only [Act.put, sQa, sQb, sQc, gQa, gQb, gQc]
  refine' wpAnyH_take (i := 2) (oi := _) (v := ?_) rfl (by kernel_rfl) (by kernel_rfl) (by kernel_rfl) (fun _ _ _ h => h) (Or.inl ⟨by rfl, ?_⟩) (by assumption) ?_
  rotate_left
  · intro W hSw
    go_simp
    first | done | (with_reducible rfl)
  try simp only [Act.put, sQa, sQb, sQc, gQa, gQb, gQc]
  refine' wpAnyH_take (i := 4) (oi := _) (v := ?_) rfl (by kernel_rfl) (by kernel_rfl) (by kernel_rfl) (fun _ _ _ h => h) (Or.inl ⟨by rfl, ?_⟩) (by assumption) ?_
  rotate_left
  · intro W hSw
    go_simp
    first | done | (with_reducible rfl)
  try simp only [Act.put, sQa, sQb, sQc, gQa, gQb, gQc]
  refine' wpAnyH_take (i := 5) (oi := _) (v := _) rfl (by kernel_rfl) (by kernel_rfl) (by kernel_rfl) (fun _ _ _ h => h) (yieldsIf_slice (by rfl) _ _ _ _ _ rfl _ _ _ _ _ (sl1.out) rfl rfl rfl rfl) (by assumption) ?_
  try simp only [Act.put, sQa, sQb, sQc, gQa, gQb, gQc]
  refine' wpAnyH_take (i := 7) (oi := _) (v := ?_) rfl (by kernel_rfl) (by kernel_rfl) (by kernel_rfl) (fun _ _ _ h => h) (Or.inl ⟨by rfl, ?_⟩) (by assumption) ?_
  rotate_left
  · intro W hSw
    go_simp
    first | done | (with_reducible rfl)
  try simp only [Act.put, sQa, sQb, sQc, gQa, gQb, gQc]
  refine' wpAnyH_take (i := 8) (oi := _) (v := _) rfl (by kernel_rfl) (by kernel_rfl) (by kernel_rfl) (fun _ _ _ h => h) (yieldsIf_slice (by rfl) _ _ _ _ _ rfl _ _ _ _ _ (sl2.out) rfl rfl rfl rfl) (by assumption) ?_
  try simp only [Act.put, sQa, sQb, sQc, gQa, gQb, gQc]
  refine' wpAnyH_take (i := 10) (oi := _) (v := ?_) rfl (by kernel_rfl) (by kernel_rfl) (by kernel_rfl) (fun _ _ _ h => h) (Or.inl ⟨by rfl, ?_⟩) (by assumption) ?_
  rotate_left
  · intro W hSw
    go_simp
    first | done | (with_reducible rfl)
  try simp only [Act.put, sQa, sQb, sQc, gQa, gQb, gQc]
  refine' wpAnyH_take (i := 11) (oi := _) (v := _) rfl (by kernel_rfl) (by kernel_rfl) (by kernel_rfl) (fun _ _ _ h => h) (yieldsIf_slice (by rfl) _ _ _ _ _ rfl _ _ _ _ _ (sl3.out) rfl rfl rfl rfl) (by assumption) ?_
  try simp only [Act.put, sQa, sQb, sQc, gQa, gQb, gQc]
  refine' wpAnyH_take (i := 13) (oi := _) (v := ?_) rfl (by kernel_rfl) (by kernel_rfl) (by kernel_rfl) (fun _ _ _ h => h) (Or.inl ⟨by rfl, ?_⟩) (by assumption) ?_
  rotate_left
  · intro W hSw
    go_simp
    first | done | (with_reducible rfl)
  try simp only [Act.put, sQa, sQb, sQc, gQa, gQb, gQc]
  refine wpAnyH_ready (rs := [1, 16]) (by kernel_rfl) (by simp) ?_
  refine AllReadyH.cons (o := _) rfl (fun K hK => ?_) ?_
  · skip
    go_simp
    refine (dg.out 0 (by rw [hl9'.out]; decide) _ (fl.out _ (b0.out.trans (hHeld.mono b0.out.size))).1).mono ?_
    rintro e y0 ⟨rfl, hB⟩
    try replace e6 := (hB.block _ (block_lt e6)).trans e6
    go_wp2_with fail
    refine hK.out _ _ ?_ (fun hHeld => ?_)
    · exact hHeld.trans (hB.mono hHeld.size)
    clear hK K
    try simp only [Act.put, sQa, sQb, sQc, gQa, gQb, gQc]
    refine wpAnyH_ready (rs := [3, 16]) (by kernel_rfl) (by simp) ?_
    refine AllReadyH.cons (o := _) rfl (fun K hK => ?_) ?_
    · skip
      go_simp
      refine (dg.out 32 (by rw [hl9'.out]; decide) _ (fl.out _ (b0.out.trans (hHeld.mono b0.out.size))).1).mono ?_
      rintro e y32 ⟨rfl, hB⟩
      try replace e6 := (hB.block _ (block_lt e6)).trans e6
      go_wp2_with fail
      refine hK.out _ _ ?_ (fun hHeld => ?_)
      · exact hHeld.trans (hB.mono hHeld.size)
      clear hK K
      try simp only [Act.put, sQa, sQb, sQc, gQa, gQb, gQc]
      refine wpAnyH_ready (rs := [6, 16]) (by kernel_rfl) (by simp) ?_
      refine AllReadyH.cons (o := _) rfl (fun K hK => ?_) ?_
      · skip
        go_simp
        refine (Number_any _ 8 _ _ _ (fl.out _ (b0.out.trans (hHeld.mono b0.out.size))).2.1 (nl.out 64 (by decide)).symm (Nat.le_of_eq (nl.out 64 (by decide)))).mono ?_
        rintro e y64 ⟨rfl, rfl⟩
        go_wp2_with fail
        refine hK.out _ _ ?_ (fun hHeld => ?_)
        · exact hHeld
        clear hK K
        try simp only [Act.put, sQa, sQb, sQc, gQa, gQb, gQc]
        refine wpAnyH_ready (rs := [9, 16]) (by kernel_rfl) (by simp) ?_
        refine AllReadyH.cons (o := _) rfl (fun K hK => ?_) ?_
        · skip
          go_simp
          refine (Number_any _ 8 _ _ _ (fl.out _ (b0.out.trans (hHeld.mono b0.out.size))).2.2.1 (nl.out 72 (by decide)).symm (Nat.le_of_eq (nl.out 72 (by decide)))).mono ?_
          rintro e y72 ⟨rfl, rfl⟩
          go_wp2_with fail
          refine hK.out _ _ ?_ (fun hHeld => ?_)
          · exact hHeld
          clear hK K
          try simp only [Act.put, sQa, sQb, sQc, gQa, gQb, gQc]
          refine wpAnyH_ready (rs := [12, 16]) (by kernel_rfl) (by simp) ?_
          refine AllReadyH.cons (o := _) rfl (fun K hK => ?_) ?_
          · skip
            go_simp
            refine (Number_any _ 8 _ _ _ (fl.out _ (b0.out.trans (hHeld.mono b0.out.size))).2.2.2 (nl.out 80 (by decide)).symm (Nat.le_of_eq (nl.out 80 (by decide)))).mono ?_
            rintro e y80 ⟨rfl, rfl⟩
            go_wp2_with fail
            refine hK.out _ _ ?_ (fun hHeld => ?_)
            · exact hHeld
            clear hK K
            try simp only [Act.put, sQa, sQb, sQc, gQa, gQb, gQc]
            refine wpAnyH_ready (rs := [14, 16]) (by kernel_rfl) (by simp) ?_
            refine AllReadyH.cons (o := _) rfl (fun K hK => ?_) ?_
            · skip
              go_simp
              refine (dg.out 88 (by rw [hl9'.out]; decide) _ (fl.out _ (b0.out.trans (hHeld.mono b0.out.size))).1).mono ?_
              rintro e y88 ⟨rfl, hB⟩
              try replace e6 := (hB.block _ (block_lt e6)).trans e6
              go_wp2_with fail
              refine hK.out _ _ ?_ (fun hHeld => ?_)
              · exact hHeld.trans (hB.mono hHeld.size)
              clear hK K
              try simp only [Act.put, sQa, sQb, sQc, gQa, gQb, gQc]
              refine' wpAnyH_take (i := 15) (oi := _) (v := _) rfl (by kernel_rfl) (by kernel_rfl) (by kernel_rfl) (fun _ _ _ h => h) (yieldsIf_build (by rfl) _ _ rfl _ _ (bl2.out) rfl) (by assumption) ?_
              try simp only [Act.put, sQa, sQb, sQc, gQa, gQb, gQc]
              refine wpAnyH_ready (rs := [16]) (by kernel_rfl) (by simp) ?_
              refine AllReadyH.cons (o := _) rfl (fun K hK => ?_) AllReadyH.nil
              refine step_alloc_rowT rfl 26 rfl zTxC zInfoTx ?_
              intro g6 w8 b6 e6 hB
              have m6 := Nat.le_trans hHeld.size b6
              refine hK.out _ _ ?_ (fun hHeld => ?_)
              · exact hHeld.trans (hB.mono hHeld.size)
              clear hK K
              try simp only [Act.put, sQa, sQb, sQc, gQa, gQb, gQc]
              refine wpAnyH_ready (rs := [17]) (by kernel_rfl) (by simp) ?_
              refine AllReadyH.cons (o := _) rfl (fun K hK => ?_) AllReadyH.nil
              refine step_store_rowT rfl 26 (.tmp 4) (.tmp 28) rfl g6 _ rfl rfl 26 zTxC e6 (sizeTxA x) (zSizeTx x) (one_tx x) ?_
              intro w9 d6 hG
              refine hK.out _ _ ?_ (fun hHeld => ?_)
              · exact hHeld.grown hG hHeld.size (by intro k hk; injection hk with hk; omega)
              clear hK K
              try simp only [Act.put, sQa, sQb, sQc, gQa, gQb, gQc]
              refine wpAnyH_done (by kernel_rfl) ?_ _
              refine NoPanic.normal ?_
              have h9 := hid ((hHeld.block _ (block_lt h0.out)).trans h0.out)
              have W9 := hid (b0.out.trans (hHeld.mono b0.out.size))
              have q7 := hid (rangeOf d6)
              clear hHeld d6
              go_wp2_with (first
                | ((with_reducible refine wpList_load_rng rfl 26 (.tmp 4) rfl g6 0 rfl (txC x) _ ?_ hux rfl jx.out ?_); exact q7.out))
              refine (hCk.out _).mono ?_
              rintro e v9 ⟨rfl, hb9⟩
              have h10 := hid ((hb9.block _ (block_lt h9.out)).trans h9.out)
              have W10 := hid (W9.out.trans (hb9.mono W9.out.size))
              have q8 := hid (rangeBel2 hb9 q7.out)
              clear hb9
              cases cb
              · go_wp2_with (first
                  | ((with_reducible refine wpList_built rfl 26 _ rfl zTxC [] ?_ ?_ ?_); exact built_tx0; rfl)
                  | ((with_reducible refine wpList_store_row rfl 26 (.tmp 2) (.tmp 32) rfl w.heap.size _ rfl rfl 26 zTxC ?_ ?_ ?_ ?_ ?_); exact h10.out; exact sizeTxA zX; rfl; exact one_tx zX; intro w5 hg5 hb5 hs5))
                exact bodyPost_ret (res_tx rfl _ _ w.heap.size zX rfl hg5) rfl ⟨rfl, W10.out.grown hb5 W10.out.size (fun g e => by injection e with e; omega)⟩
              · go_wp2_with (first
                  | ((with_reducible refine wpList_load_rng rfl 26 (.tmp 4) rfl g6 0 rfl (txC x) _ ?_ hux rfl jx.out ?_); exact q8.out)
                  | ((with_reducible refine wpList_store_row rfl 26 (.tmp 2) (.tmp 33) rfl w.heap.size _ rfl rfl 26 zTxC ?_ ?_ ?_ ?_ ?_); exact h10.out; exact sizeTxA x; exact zSizeTx x; exact one_tx x; intro w5 hg5 hb5 hs5))
                exact bodyPost_ret (res_tx rfl _ _ w.heap.size x rfl hg5) rfl ⟨rfl, W10.out.grown hb5 W10.out.size (fun g e => by injection e with e; omega)⟩
            refine AllReadyH.cons (o := _) rfl (fun K hK => ?_) ?_
            · skip
              refine step_alloc_rowT rfl 26 rfl zTxC zInfoTx ?_
              intro g6 w8 b6 e6 hB
              have m6 := Nat.le_trans hHeld.size b6
              refine hK.out _ _ ?_ (fun hHeld => ?_)
              · exact hHeld.trans (hB.mono hHeld.size)
              clear hK K
              try simp only [Act.put, sQa, sQb, sQc, gQa, gQb, gQc]
              refine wpAnyH_ready (rs := [14]) (by kernel_rfl) (by simp) ?_
              refine AllReadyH.cons (o := _) rfl (fun K hK => ?_) AllReadyH.nil
              go_simp
              refine (dg.out 88 (by rw [hl9'.out]; decide) _ (fl.out _ (b0.out.trans (hHeld.mono b0.out.size))).1).mono ?_
              rintro e y88 ⟨rfl, hB⟩
              try replace e6 := (hB.block _ (block_lt e6)).trans e6
              go_wp2_with fail
              refine hK.out _ _ ?_ (fun hHeld => ?_)
              · exact hHeld.trans (hB.mono hHeld.size)
              clear hK K
              try simp only [Act.put, sQa, sQb, sQc, gQa, gQb, gQc]
              refine' wpAnyH_take (i := 15) (oi := _) (v := _) rfl (by kernel_rfl) (by kernel_rfl) (by kernel_rfl) (fun _ _ _ h => h) (yieldsIf_build (by rfl) _ _ rfl _ _ (bl2.out) rfl) (by assumption) ?_
              try simp only [Act.put, sQa, sQb, sQc, gQa, gQb, gQc]
              refine wpAnyH_ready (rs := [17]) (by kernel_rfl) (by simp) ?_
              refine AllReadyH.cons (o := _) rfl (fun K hK => ?_) AllReadyH.nil
              refine step_store_rowT rfl 26 (.tmp 4) (.tmp 28) rfl g6 _ rfl rfl 26 zTxC e6 (sizeTxA x) (zSizeTx x) (one_tx x) ?_
              intro w9 d6 hG
              refine hK.out _ _ ?_ (fun hHeld => ?_)
              · exact hHeld.grown hG hHeld.size (by intro k hk; injection hk with hk; omega)
              clear hK K
              try simp only [Act.put, sQa, sQb, sQc, gQa, gQb, gQc]
              refine wpAnyH_done (by kernel_rfl) ?_ _
              refine NoPanic.normal ?_
              have h9 := hid ((hHeld.block _ (block_lt h0.out)).trans h0.out)
              have W9 := hid (b0.out.trans (hHeld.mono b0.out.size))
              have q7 := hid (rangeOf d6)
              clear hHeld d6
              go_wp2_with (first
                | ((with_reducible refine wpList_load_rng rfl 26 (.tmp 4) rfl g6 0 rfl (txC x) _ ?_ hux rfl jx.out ?_); exact q7.out))
              refine (hCk.out _).mono ?_
              rintro e v9 ⟨rfl, hb9⟩
              have h10 := hid ((hb9.block _ (block_lt h9.out)).trans h9.out)
              have W10 := hid (W9.out.trans (hb9.mono W9.out.size))
              have q8 := hid (rangeBel2 hb9 q7.out)
              clear hb9
              cases cb
              · go_wp2_with (first
                  | ((with_reducible refine wpList_built rfl 26 _ rfl zTxC [] ?_ ?_ ?_); exact built_tx0; rfl)
                  | ((with_reducible refine wpList_store_row rfl 26 (.tmp 2) (.tmp 32) rfl w.heap.size _ rfl rfl 26 zTxC ?_ ?_ ?_ ?_ ?_); exact h10.out; exact sizeTxA zX; rfl; exact one_tx zX; intro w5 hg5 hb5 hs5))
                exact bodyPost_ret (res_tx rfl _ _ w.heap.size zX rfl hg5) rfl ⟨rfl, W10.out.grown hb5 W10.out.size (fun g e => by injection e with e; omega)⟩
              · go_wp2_with (first
                  | ((with_reducible refine wpList_load_rng rfl 26 (.tmp 4) rfl g6 0 rfl (txC x) _ ?_ hux rfl jx.out ?_); exact q8.out)
                  | ((with_reducible refine wpList_store_row rfl 26 (.tmp 2) (.tmp 33) rfl w.heap.size _ rfl rfl 26 zTxC ?_ ?_ ?_ ?_ ?_); exact h10.out; exact sizeTxA x; exact zSizeTx x; exact one_tx x; intro w5 hg5 hb5 hs5))
                exact bodyPost_ret (res_tx rfl _ _ w.heap.size x rfl hg5) rfl ⟨rfl, W10.out.grown hb5 W10.out.size (fun g e => by injection e with e; omega)⟩
            exact AllReadyH.nil
          refine AllReadyH.cons (o := _) rfl (fun K hK => ?_) ?_
          · skip
            refine step_alloc_rowT rfl 26 rfl zTxC zInfoTx ?_
            intro g6 w8 b6 e6 hB
            have m6 := Nat.le_trans hHeld.size b6
            refine hK.out _ _ ?_ (fun hHeld => ?_)
            · exact hHeld.trans (hB.mono hHeld.size)
            clear hK K
            try simp only [Act.put, sQa, sQb, sQc, gQa, gQb, gQc]
            refine wpAnyH_ready (rs := [12]) (by kernel_rfl) (by simp) ?_
            refine AllReadyH.cons (o := _) rfl (fun K hK => ?_) AllReadyH.nil
            go_simp
            refine (Number_any _ 8 _ _ _ (fl.out _ (b0.out.trans (hHeld.mono b0.out.size))).2.2.2 (nl.out 80 (by decide)).symm (Nat.le_of_eq (nl.out 80 (by decide)))).mono ?_
            rintro e y80 ⟨rfl, rfl⟩
            go_wp2_with fail
            refine hK.out _ _ ?_ (fun hHeld => ?_)
            · exact hHeld
            clear hK K
            try simp only [Act.put, sQa, sQb, sQc, gQa, gQb, gQc]
            refine wpAnyH_ready (rs := [14]) (by kernel_rfl) (by simp) ?_
            refine AllReadyH.cons (o := _) rfl (fun K hK => ?_) AllReadyH.nil
            go_simp
            refine (dg.out 88 (by rw [hl9'.out]; decide) _ (fl.out _ (b0.out.trans (hHeld.mono b0.out.size))).1).mono ?_
            rintro e y88 ⟨rfl, hB⟩
            try replace e6 := (hB.block _ (block_lt e6)).trans e6
            go_wp2_with fail
            refine hK.out _ _ ?_ (fun hHeld => ?_)
            · exact hHeld.trans (hB.mono hHeld.size)
            clear hK K
            try simp only [Act.put, sQa, sQb, sQc, gQa, gQb, gQc]
            refine' wpAnyH_take (i := 15) (oi := _) (v := _) rfl (by kernel_rfl) (by kernel_rfl) (by kernel_rfl) (fun _ _ _ h => h) (yieldsIf_build (by rfl) _ _ rfl _ _ (bl2.out) rfl) (by assumption) ?_
            try simp only [Act.put, sQa, sQb, sQc, gQa, gQb, gQc]
            refine wpAnyH_ready (rs := [17]) (by kernel_rfl) (by simp) ?_
            refine AllReadyH.cons (o := _) rfl (fun K hK => ?_) AllReadyH.nil
            refine step_store_rowT rfl 26 (.tmp 4) (.tmp 28) rfl g6 _ rfl rfl 26 zTxC e6 (sizeTxA x) (zSizeTx x) (one_tx x) ?_
            intro w9 d6 hG
            refine hK.out _ _ ?_ (fun hHeld => ?_)
            · exact hHeld.grown hG hHeld.size (by intro k hk; injection hk with hk; omega)
            clear hK K
            try simp only [Act.put, sQa, sQb, sQc, gQa, gQb, gQc]
            refine wpAnyH_done (by kernel_rfl) ?_ _
            refine NoPanic.normal ?_
            have h9 := hid ((hHeld.block _ (block_lt h0.out)).trans h0.out)
            have W9 := hid (b0.out.trans (hHeld.mono b0.out.size))
            have q7 := hid (rangeOf d6)
            clear hHeld d6
            go_wp2_with (first
              | ((with_reducible refine wpList_load_rng rfl 26 (.tmp 4) rfl g6 0 rfl (txC x) _ ?_ hux rfl jx.out ?_); exact q7.out))
            refine (hCk.out _).mono ?_
            rintro e v9 ⟨rfl, hb9⟩
            have h10 := hid ((hb9.block _ (block_lt h9.out)).trans h9.out)
            have W10 := hid (W9.out.trans (hb9.mono W9.out.size))
            have q8 := hid (rangeBel2 hb9 q7.out)
            clear hb9
            cases cb
            · go_wp2_with (first
                | ((with_reducible refine wpList_built rfl 26 _ rfl zTxC [] ?_ ?_ ?_); exact built_tx0; rfl)
                | ((with_reducible refine wpList_store_row rfl 26 (.tmp 2) (.tmp 32) rfl w.heap.size _ rfl rfl 26 zTxC ?_ ?_ ?_ ?_ ?_); exact h10.out; exact sizeTxA zX; rfl; exact one_tx zX; intro w5 hg5 hb5 hs5))
              exact bodyPost_ret (res_tx rfl _ _ w.heap.size zX rfl hg5) rfl ⟨rfl, W10.out.grown hb5 W10.out.size (fun g e => by injection e with e; omega)⟩
            · go_wp2_with (first
                | ((with_reducible refine wpList_load_rng rfl 26 (.tmp 4) rfl g6 0 rfl (txC x) _ ?_ hux rfl jx.out ?_); exact q8.out)
                | ((with_reducible refine wpList_store_row rfl 26 (.tmp 2) (.tmp 33) rfl w.heap.size _ rfl rfl 26 zTxC ?_ ?_ ?_ ?_ ?_); exact h10.out; exact sizeTxA x; exact zSizeTx x; exact one_tx x; intro w5 hg5 hb5 hs5))
              exact bodyPost_ret (res_tx rfl _ _ w.heap.size x rfl hg5) rfl ⟨rfl, W10.out.grown hb5 W10.out.size (fun g e => by injection e with e; omega)⟩
          exact AllReadyH.nil
        refine AllReadyH.cons (o := _) rfl (fun K hK => ?_) ?_
        · skip
          refine step_alloc_rowT rfl 26 rfl zTxC zInfoTx ?_
          intro g6 w8 b6 e6 hB
          have m6 := Nat.le_trans hHeld.size b6
          refine hK.out _ _ ?_ (fun hHeld => ?_)
          · exact hHeld.trans (hB.mono hHeld.size)
          clear hK K
          try simp only [Act.put, sQa, sQb, sQc, gQa, gQb, gQc]
          refine wpAnyH_ready (rs := [9]) (by kernel_rfl) (by simp) ?_
          refine AllReadyH.cons (o := _) rfl (fun K hK => ?_) AllReadyH.nil
          go_simp
          refine (Number_any _ 8 _ _ _ (fl.out _ (b0.out.trans (hHeld.mono b0.out.size))).2.2.1 (nl.out 72 (by decide)).symm (Nat.le_of_eq (nl.out 72 (by decide)))).mono ?_
          rintro e y72 ⟨rfl, rfl⟩
          go_wp2_with fail
          refine hK.out _ _ ?_ (fun hHeld => ?_)
          · exact hHeld
          clear hK K
          try simp only [Act.put, sQa, sQb, sQc, gQa, gQb, gQc]
          refine wpAnyH_ready (rs := [12]) (by kernel_rfl) (by simp) ?_
          refine AllReadyH.cons (o := _) rfl (fun K hK => ?_) AllReadyH.nil
          go_simp
          refine (Number_any _ 8 _ _ _ (fl.out _ (b0.out.trans (hHeld.mono b0.out.size))).2.2.2 (nl.out 80 (by decide)).symm (Nat.le_of_eq (nl.out 80 (by decide)))).mono ?_
          rintro e y80 ⟨rfl, rfl⟩
          go_wp2_with fail
          refine hK.out _ _ ?_ (fun hHeld => ?_)
          · exact hHeld
          clear hK K
          try simp only [Act.put, sQa, sQb, sQc, gQa, gQb, gQc]
          refine wpAnyH_ready (rs := [14]) (by kernel_rfl) (by simp) ?_
          refine AllReadyH.cons (o := _) rfl (fun K hK => ?_) AllReadyH.nil
          go_simp
          refine (dg.out 88 (by rw [hl9'.out]; decide) _ (fl.out _ (b0.out.trans (hHeld.mono b0.out.size))).1).mono ?_
          rintro e y88 ⟨rfl, hB⟩
          try replace e6 := (hB.block _ (block_lt e6)).trans e6
          go_wp2_with fail
          refine hK.out _ _ ?_ (fun hHeld => ?_)
          · exact hHeld.trans (hB.mono hHeld.size)
          clear hK K
          try simp only [Act.put, sQa, sQb, sQc, gQa, gQb, gQc]
          refine' wpAnyH_take (i := 15) (oi := _) (v := _) rfl (by kernel_rfl) (by kernel_rfl) (by kernel_rfl) (fun _ _ _ h => h) (yieldsIf_build (by rfl) _ _ rfl _ _ (bl2.out) rfl) (by assumption) ?_
          try simp only [Act.put, sQa, sQb, sQc, gQa, gQb, gQc]
          refine wpAnyH_ready (rs := [17]) (by kernel_rfl) (by simp) ?_
          refine AllReadyH.cons (o := _) rfl (fun K hK => ?_) AllReadyH.nil
          refine step_store_rowT rfl 26 (.tmp 4) (.tmp 28) rfl g6 _ rfl rfl 26 zTxC e6 (sizeTxA x) (zSizeTx x) (one_tx x) ?_
          intro w9 d6 hG
          refine hK.out _ _ ?_ (fun hHeld => ?_)
          · exact hHeld.grown hG hHeld.size (by intro k hk; injection hk with hk; omega)
          clear hK K
          try simp only [Act.put, sQa, sQb, sQc, gQa, gQb, gQc]
          refine wpAnyH_done (by kernel_rfl) ?_ _
          refine NoPanic.normal ?_
          have h9 := hid ((hHeld.block _ (block_lt h0.out)).trans h0.out)
          have W9 := hid (b0.out.trans (hHeld.mono b0.out.size))
          have q7 := hid (rangeOf d6)
          clear hHeld d6
          go_wp2_with (first
            | ((with_reducible refine wpList_load_rng rfl 26 (.tmp 4) rfl g6 0 rfl (txC x) _ ?_ hux rfl jx.out ?_); exact q7.out))
          refine (hCk.out _).mono ?_
          rintro e v9 ⟨rfl, hb9⟩
          have h10 := hid ((hb9.block _ (block_lt h9.out)).trans h9.out)
          have W10 := hid (W9.out.trans (hb9.mono W9.out.size))
          have q8 := hid (rangeBel2 hb9 q7.out)
          clear hb9
          cases cb
          · go_wp2_with (first
              | ((with_reducible refine wpList_built rfl 26 _ rfl zTxC [] ?_ ?_ ?_); exact built_tx0; rfl)
              | ((with_reducible refine wpList_store_row rfl 26 (.tmp 2) (.tmp 32) rfl w.heap.size _ rfl rfl 26 zTxC ?_ ?_ ?_ ?_ ?_); exact h10.out; exact sizeTxA zX; rfl; exact one_tx zX; intro w5 hg5 hb5 hs5))
            exact bodyPost_ret (res_tx rfl _ _ w.heap.size zX rfl hg5) rfl ⟨rfl, W10.out.grown hb5 W10.out.size (fun g e => by injection e with e; omega)⟩
          · go_wp2_with (first
              | ((with_reducible refine wpList_load_rng rfl 26 (.tmp 4) rfl g6 0 rfl (txC x) _ ?_ hux rfl jx.out ?_); exact q8.out)
              | ((with_reducible refine wpList_store_row rfl 26 (.tmp 2) (.tmp 33) rfl w.heap.size _ rfl rfl 26 zTxC ?_ ?_ ?_ ?_ ?_); exact h10.out; exact sizeTxA x; exact zSizeTx x; exact one_tx x; intro w5 hg5 hb5 hs5))
            exact bodyPost_ret (res_tx rfl _ _ w.heap.size x rfl hg5) rfl ⟨rfl, W10.out.grown hb5 W10.out.size (fun g e => by injection e with e; omega)⟩
        exact AllReadyH.nil
      refine AllReadyH.cons (o := _) rfl (fun K hK => ?_) ?_
      · skip
        refine step_alloc_rowT rfl 26 rfl zTxC zInfoTx ?_
        intro g6 w8 b6 e6 hB
        have m6 := Nat.le_trans hHeld.size b6
        refine hK.out _ _ ?_ (fun hHeld => ?_)
        · exact hHeld.trans (hB.mono hHeld.size)
        clear hK K
        try simp only [Act.put, sQa, sQb, sQc, gQa, gQb, gQc]
        refine wpAnyH_ready (rs := [6]) (by kernel_rfl) (by simp) ?_
        refine AllReadyH.cons (o := _) rfl (fun K hK => ?_) AllReadyH.nil
        go_simp
        refine (Number_any _ 8 _ _ _ (fl.out _ (b0.out.trans (hHeld.mono b0.out.size))).2.1 (nl.out 64 (by decide)).symm (Nat.le_of_eq (nl.out 64 (by decide)))).mono ?_
        rintro e y64 ⟨rfl, rfl⟩
        go_wp2_with fail
        refine hK.out _ _ ?_ (fun hHeld => ?_)
        · exact hHeld
        clear hK K
        try simp only [Act.put, sQa, sQb, sQc, gQa, gQb, gQc]
        refine wpAnyH_ready (rs := [9]) (by kernel_rfl) (by simp) ?_
        refine AllReadyH.cons (o := _) rfl (fun K hK => ?_) AllReadyH.nil
        go_simp
        refine (Number_any _ 8 _ _ _ (fl.out _ (b0.out.trans (hHeld.mono b0.out.size))).2.2.1 (nl.out 72 (by decide)).symm (Nat.le_of_eq (nl.out 72 (by decide)))).mono ?_
        rintro e y72 ⟨rfl, rfl⟩
        go_wp2_with fail
        refine hK.out _ _ ?_ (fun hHeld => ?_)
        · exact hHeld
        clear hK K
        try simp only [Act.put, sQa, sQb, sQc, gQa, gQb, gQc]
        refine wpAnyH_ready (rs := [12]) (by kernel_rfl) (by simp) ?_
        refine AllReadyH.cons (o := _) rfl (fun K hK => ?_) AllReadyH.nil
        go_simp
        refine (Number_any _ 8 _ _ _ (fl.out _ (b0.out.trans (hHeld.mono b0.out.size))).2.2.2 (nl.out 80 (by decide)).symm (Nat.le_of_eq (nl.out 80 (by decide)))).mono ?_
        rintro e y80 ⟨rfl, rfl⟩
        go_wp2_with fail
        refine hK.out _ _ ?_ (fun hHeld => ?_)
        · exact hHeld
        clear hK K
        try simp only [Act.put, sQa, sQb, sQc, gQa, gQb, gQc]
        refine wpAnyH_ready (rs := [14]) (by kernel_rfl) (by simp) ?_
        refine AllReadyH.cons (o := _) rfl (fun K hK => ?_) AllReadyH.nil
        go_simp
        refine (dg.out 88 (by rw [hl9'.out]; decide) _ (fl.out _ (b0.out.trans (hHeld.mono b0.out.size))).1).mono ?_
        rintro e y88 ⟨rfl, hB⟩
        try replace e6 := (hB.block _ (block_lt e6)).trans e6
        go_wp2_with fail
        refine hK.out _ _ ?_ (fun hHeld => ?_)
        · exact hHeld.trans (hB.mono hHeld.size)
        clear hK K
        try simp only [Act.put, sQa, sQb, sQc, gQa, gQb, gQc]
        refine' wpAnyH_take (i := 15) (oi := _) (v := _) rfl (by kernel_rfl) (by kernel_rfl) (by kernel_rfl) (fun _ _ _ h => h) (yieldsIf_build (by rfl) _ _ rfl _ _ (bl2.out) rfl) (by assumption) ?_
        try simp only [Act.put, sQa, sQb, sQc, gQa, gQb, gQc]
        refine wpAnyH_ready (rs := [17]) (by kernel_rfl) (by simp) ?_
        refine AllReadyH.cons (o := _) rfl (fun K hK => ?_) AllReadyH.nil
        refine step_store_rowT rfl 26 (.tmp 4) (.tmp 28) rfl g6 _ rfl rfl 26 zTxC e6 (sizeTxA x) (zSizeTx x) (one_tx x) ?_
        intro w9 d6 hG
        refine hK.out _ _ ?_ (fun hHeld => ?_)
        · exact hHeld.grown hG hHeld.size (by intro k hk; injection hk with hk; omega)
        clear hK K
        try simp only [Act.put, sQa, sQb, sQc, gQa, gQb, gQc]
        refine wpAnyH_done (by kernel_rfl) ?_ _
        refine NoPanic.normal ?_
        have h9 := hid ((hHeld.block _ (block_lt h0.out)).trans h0.out)
        have W9 := hid (b0.out.trans (hHeld.mono b0.out.size))
        have q7 := hid (rangeOf d6)
        clear hHeld d6
        go_wp2_with (first
          | ((with_reducible refine wpList_load_rng rfl 26 (.tmp 4) rfl g6 0 rfl (txC x) _ ?_ hux rfl jx.out ?_); exact q7.out))
        refine (hCk.out _).mono ?_
        rintro e v9 ⟨rfl, hb9⟩
        have h10 := hid ((hb9.block _ (block_lt h9.out)).trans h9.out)
        have W10 := hid (W9.out.trans (hb9.mono W9.out.size))
        have q8 := hid (rangeBel2 hb9 q7.out)
        clear hb9
        cases cb
        · go_wp2_with (first
            | ((with_reducible refine wpList_built rfl 26 _ rfl zTxC [] ?_ ?_ ?_); exact built_tx0; rfl)
            | ((with_reducible refine wpList_store_row rfl 26 (.tmp 2) (.tmp 32) rfl w.heap.size _ rfl rfl 26 zTxC ?_ ?_ ?_ ?_ ?_); exact h10.out; exact sizeTxA zX; rfl; exact one_tx zX; intro w5 hg5 hb5 hs5))
          exact bodyPost_ret (res_tx rfl _ _ w.heap.size zX rfl hg5) rfl ⟨rfl, W10.out.grown hb5 W10.out.size (fun g e => by injection e with e; omega)⟩
        · go_wp2_with (first
            | ((with_reducible refine wpList_load_rng rfl 26 (.tmp 4) rfl g6 0 rfl (txC x) _ ?_ hux rfl jx.out ?_); exact q8.out)
            | ((with_reducible refine wpList_store_row rfl 26 (.tmp 2) (.tmp 33) rfl w.heap.size _ rfl rfl 26 zTxC ?_ ?_ ?_ ?_ ?_); exact h10.out; exact sizeTxA x; exact zSizeTx x; exact one_tx x; intro w5 hg5 hb5 hs5))
          exact bodyPost_ret (res_tx rfl _ _ w.heap.size x rfl hg5) rfl ⟨rfl, W10.out.grown hb5 W10.out.size (fun g e => by injection e with e; omega)⟩
      exact AllReadyH.nil
    refine AllReadyH.cons (o := _) rfl (fun K hK => ?_) ?_
    · skip
      refine step_alloc_rowT rfl 26 rfl zTxC zInfoTx ?_
      intro g6 w8 b6 e6 hB
      have m6 := Nat.le_trans hHeld.size b6
      refine hK.out _ _ ?_ (fun hHeld => ?_)
      · exact hHeld.trans (hB.mono hHeld.size)
      clear hK K
      try simp only [Act.put, sQa, sQb, sQc, gQa, gQb, gQc]
      refine wpAnyH_ready (rs := [3]) (by kernel_rfl) (by simp) ?_
      refine AllReadyH.cons (o := _) rfl (fun K hK => ?_) AllReadyH.nil
      go_simp
      refine (dg.out 32 (by rw [hl9'.out]; decide) _ (fl.out _ (b0.out.trans (hHeld.mono b0.out.size))).1).mono ?_
      rintro e y32 ⟨rfl, hB⟩
      try replace e6 := (hB.block _ (block_lt e6)).trans e6
      go_wp2_with fail
      refine hK.out _ _ ?_ (fun hHeld => ?_)
      · exact hHeld.trans (hB.mono hHeld.size)
      clear hK K
      try simp only [Act.put, sQa, sQb, sQc, gQa, gQb, gQc]
      refine wpAnyH_ready (rs := [6]) (by kernel_rfl) (by simp) ?_
      refine AllReadyH.cons (o := _) rfl (fun K hK => ?_) AllReadyH.nil
      go_simp
      refine (Number_any _ 8 _ _ _ (fl.out _ (b0.out.trans (hHeld.mono b0.out.size))).2.1 (nl.out 64 (by decide)).symm (Nat.le_of_eq (nl.out 64 (by decide)))).mono ?_
      rintro e y64 ⟨rfl, rfl⟩
      go_wp2_with fail
      refine hK.out _ _ ?_ (fun hHeld => ?_)
      · exact hHeld
      clear hK K
      try simp only [Act.put, sQa, sQb, sQc, gQa, gQb, gQc]
      refine wpAnyH_ready (rs := [9]) (by kernel_rfl) (by simp) ?_
      refine AllReadyH.cons (o := _) rfl (fun K hK => ?_) AllReadyH.nil
      go_simp
      refine (Number_any _ 8 _ _ _ (fl.out _ (b0.out.trans (hHeld.mono b0.out.size))).2.2.1 (nl.out 72 (by decide)).symm (Nat.le_of_eq (nl.out 72 (by decide)))).mono ?_
      rintro e y72 ⟨rfl, rfl⟩
      go_wp2_with fail
      refine hK.out _ _ ?_ (fun hHeld => ?_)
      · exact hHeld
      clear hK K
      try simp only [Act.put, sQa, sQb, sQc, gQa, gQb, gQc]
      refine wpAnyH_ready (rs := [12]) (by kernel_rfl) (by simp) ?_
      refine AllReadyH.cons (o := _) rfl (fun K hK => ?_) AllReadyH.nil
      go_simp
      refine (Number_any _ 8 _ _ _ (fl.out _ (b0.out.trans (hHeld.mono b0.out.size))).2.2.2 (nl.out 80 (by decide)).symm (Nat.le_of_eq (nl.out 80 (by decide)))).mono ?_
      rintro e y80 ⟨rfl, rfl⟩
      go_wp2_with fail
      refine hK.out _ _ ?_ (fun hHeld => ?_)
      · exact hHeld
      clear hK K
      try simp only [Act.put, sQa, sQb, sQc, gQa, gQb, gQc]
      refine wpAnyH_ready (rs := [14]) (by kernel_rfl) (by simp) ?_
      refine AllReadyH.cons (o := _) rfl (fun K hK => ?_) AllReadyH.nil
      go_simp
      refine (dg.out 88 (by rw [hl9'.out]; decide) _ (fl.out _ (b0.out.trans (hHeld.mono b0.out.size))).1).mono ?_
      rintro e y88 ⟨rfl, hB⟩
      try replace e6 := (hB.block _ (block_lt e6)).trans e6
      go_wp2_with fail
      refine hK.out _ _ ?_ (fun hHeld => ?_)
      · exact hHeld.trans (hB.mono hHeld.size)
      clear hK K
      try simp only [Act.put, sQa, sQb, sQc, gQa, gQb, gQc]
      refine' wpAnyH_take (i := 15) (oi := _) (v := _) rfl (by kernel_rfl) (by kernel_rfl) (by kernel_rfl) (fun _ _ _ h => h) (yieldsIf_build (by rfl) _ _ rfl _ _ (bl2.out) rfl) (by assumption) ?_
      try simp only [Act.put, sQa, sQb, sQc, gQa, gQb, gQc]
      refine wpAnyH_ready (rs := [17]) (by kernel_rfl) (by simp) ?_
      refine AllReadyH.cons (o := _) rfl (fun K hK => ?_) AllReadyH.nil
      refine step_store_rowT rfl 26 (.tmp 4) (.tmp 28) rfl g6 _ rfl rfl 26 zTxC e6 (sizeTxA x) (zSizeTx x) (one_tx x) ?_
      intro w9 d6 hG
      refine hK.out _ _ ?_ (fun hHeld => ?_)
      · exact hHeld.grown hG hHeld.size (by intro k hk; injection hk with hk; omega)
      clear hK K
      try simp only [Act.put, sQa, sQb, sQc, gQa, gQb, gQc]
      refine wpAnyH_done (by kernel_rfl) ?_ _
      refine NoPanic.normal ?_
      have h9 := hid ((hHeld.block _ (block_lt h0.out)).trans h0.out)
      have W9 := hid (b0.out.trans (hHeld.mono b0.out.size))
      have q7 := hid (rangeOf d6)
      clear hHeld d6
      go_wp2_with (first
        | ((with_reducible refine wpList_load_rng rfl 26 (.tmp 4) rfl g6 0 rfl (txC x) _ ?_ hux rfl jx.out ?_); exact q7.out))
      refine (hCk.out _).mono ?_
      rintro e v9 ⟨rfl, hb9⟩
      have h10 := hid ((hb9.block _ (block_lt h9.out)).trans h9.out)
      have W10 := hid (W9.out.trans (hb9.mono W9.out.size))
      have q8 := hid (rangeBel2 hb9 q7.out)
      clear hb9
      cases cb
      · go_wp2_with (first
          | ((with_reducible refine wpList_built rfl 26 _ rfl zTxC [] ?_ ?_ ?_); exact built_tx0; rfl)
          | ((with_reducible refine wpList_store_row rfl 26 (.tmp 2) (.tmp 32) rfl w.heap.size _ rfl rfl 26 zTxC ?_ ?_ ?_ ?_ ?_); exact h10.out; exact sizeTxA zX; rfl; exact one_tx zX; intro w5 hg5 hb5 hs5))
        exact bodyPost_ret (res_tx rfl _ _ w.heap.size zX rfl hg5) rfl ⟨rfl, W10.out.grown hb5 W10.out.size (fun g e => by injection e with e; omega)⟩
      · go_wp2_with (first
          | ((with_reducible refine wpList_load_rng rfl 26 (.tmp 4) rfl g6 0 rfl (txC x) _ ?_ hux rfl jx.out ?_); exact q8.out)
          | ((with_reducible refine wpList_store_row rfl 26 (.tmp 2) (.tmp 33) rfl w.heap.size _ rfl rfl 26 zTxC ?_ ?_ ?_ ?_ ?_); exact h10.out; exact sizeTxA x; exact zSizeTx x; exact one_tx x; intro w5 hg5 hb5 hs5))
        exact bodyPost_ret (res_tx rfl _ _ w.heap.size x rfl hg5) rfl ⟨rfl, W10.out.grown hb5 W10.out.size (fun g e => by injection e with e; omega)⟩
    exact AllReadyH.nil
  refine AllReadyH.cons (o := _) rfl (fun K hK => ?_) ?_
  · skip
    refine step_alloc_rowT rfl 26 rfl zTxC zInfoTx ?_
    intro g6 w8 b6 e6 hB
    have m6 := Nat.le_trans hHeld.size b6
    refine hK.out _ _ ?_ (fun hHeld => ?_)
    · exact hHeld.trans (hB.mono hHeld.size)
    clear hK K
    try simp only [Act.put, sQa, sQb, sQc, gQa, gQb, gQc]
    refine wpAnyH_ready (rs := [1]) (by kernel_rfl) (by simp) ?_
    refine AllReadyH.cons (o := _) rfl (fun K hK => ?_) AllReadyH.nil
    go_simp
    refine (dg.out 0 (by rw [hl9'.out]; decide) _ (fl.out _ (b0.out.trans (hHeld.mono b0.out.size))).1).mono ?_
    rintro e y0 ⟨rfl, hB⟩
    try replace e6 := (hB.block _ (block_lt e6)).trans e6
    go_wp2_with fail
    refine hK.out _ _ ?_ (fun hHeld => ?_)
    · exact hHeld.trans (hB.mono hHeld.size)
    clear hK K
    try simp only [Act.put, sQa, sQb, sQc, gQa, gQb, gQc]
    refine wpAnyH_ready (rs := [3]) (by kernel_rfl) (by simp) ?_
    refine AllReadyH.cons (o := _) rfl (fun K hK => ?_) AllReadyH.nil
    go_simp
    refine (dg.out 32 (by rw [hl9'.out]; decide) _ (fl.out _ (b0.out.trans (hHeld.mono b0.out.size))).1).mono ?_
    rintro e y32 ⟨rfl, hB⟩
    try replace e6 := (hB.block _ (block_lt e6)).trans e6
    go_wp2_with fail
    refine hK.out _ _ ?_ (fun hHeld => ?_)
    · exact hHeld.trans (hB.mono hHeld.size)
    clear hK K
    try simp only [Act.put, sQa, sQb, sQc, gQa, gQb, gQc]
    refine wpAnyH_ready (rs := [6]) (by kernel_rfl) (by simp) ?_
    refine AllReadyH.cons (o := _) rfl (fun K hK => ?_) AllReadyH.nil
    go_simp
    refine (Number_any _ 8 _ _ _ (fl.out _ (b0.out.trans (hHeld.mono b0.out.size))).2.1 (nl.out 64 (by decide)).symm (Nat.le_of_eq (nl.out 64 (by decide)))).mono ?_
    rintro e y64 ⟨rfl, rfl⟩
    go_wp2_with fail
    refine hK.out _ _ ?_ (fun hHeld => ?_)
    · exact hHeld
    clear hK K
    try simp only [Act.put, sQa, sQb, sQc, gQa, gQb, gQc]
    refine wpAnyH_ready (rs := [9]) (by kernel_rfl) (by simp) ?_
    refine AllReadyH.cons (o := _) rfl (fun K hK => ?_) AllReadyH.nil
    go_simp
    refine (Number_any _ 8 _ _ _ (fl.out _ (b0.out.trans (hHeld.mono b0.out.size))).2.2.1 (nl.out 72 (by decide)).symm (Nat.le_of_eq (nl.out 72 (by decide)))).mono ?_
    rintro e y72 ⟨rfl, rfl⟩
    go_wp2_with fail
    refine hK.out _ _ ?_ (fun hHeld => ?_)
    · exact hHeld
    clear hK K
    try simp only [Act.put, sQa, sQb, sQc, gQa, gQb, gQc]
    refine wpAnyH_ready (rs := [12]) (by kernel_rfl) (by simp) ?_
    refine AllReadyH.cons (o := _) rfl (fun K hK => ?_) AllReadyH.nil
    go_simp
    refine (Number_any _ 8 _ _ _ (fl.out _ (b0.out.trans (hHeld.mono b0.out.size))).2.2.2 (nl.out 80 (by decide)).symm (Nat.le_of_eq (nl.out 80 (by decide)))).mono ?_
    rintro e y80 ⟨rfl, rfl⟩
    go_wp2_with fail
    refine hK.out _ _ ?_ (fun hHeld => ?_)
    · exact hHeld
    clear hK K
    try simp only [Act.put, sQa, sQb, sQc, gQa, gQb, gQc]
    refine wpAnyH_ready (rs := [14]) (by kernel_rfl) (by simp) ?_
    refine AllReadyH.cons (o := _) rfl (fun K hK => ?_) AllReadyH.nil
    go_simp
    refine (dg.out 88 (by rw [hl9'.out]; decide) _ (fl.out _ (b0.out.trans (hHeld.mono b0.out.size))).1).mono ?_
    rintro e y88 ⟨rfl, hB⟩
    try replace e6 := (hB.block _ (block_lt e6)).trans e6
    go_wp2_with fail
    refine hK.out _ _ ?_ (fun hHeld => ?_)
    · exact hHeld.trans (hB.mono hHeld.size)
    clear hK K
    try simp only [Act.put, sQa, sQb, sQc, gQa, gQb, gQc]
    refine' wpAnyH_take (i := 15) (oi := _) (v := _) rfl (by kernel_rfl) (by kernel_rfl) (by kernel_rfl) (fun _ _ _ h => h) (yieldsIf_build (by rfl) _ _ rfl _ _ (bl2.out) rfl) (by assumption) ?_
    try simp only [Act.put, sQa, sQb, sQc, gQa, gQb, gQc]
    refine wpAnyH_ready (rs := [17]) (by kernel_rfl) (by simp) ?_
    refine AllReadyH.cons (o := _) rfl (fun K hK => ?_) AllReadyH.nil
    refine step_store_rowT rfl 26 (.tmp 4) (.tmp 28) rfl g6 _ rfl rfl 26 zTxC e6 (sizeTxA x) (zSizeTx x) (one_tx x) ?_
    intro w9 d6 hG
    refine hK.out _ _ ?_ (fun hHeld => ?_)
    · exact hHeld.grown hG hHeld.size (by intro k hk; injection hk with hk; omega)
    clear hK K
    try simp only [Act.put, sQa, sQb, sQc, gQa, gQb, gQc]
    refine wpAnyH_done (by kernel_rfl) ?_ _
    refine NoPanic.normal ?_
    have h9 := hid ((hHeld.block _ (block_lt h0.out)).trans h0.out)
    have W9 := hid (b0.out.trans (hHeld.mono b0.out.size))
    have q7 := hid (rangeOf d6)
    clear hHeld d6
    go_wp2_with (first
      | ((with_reducible refine wpList_load_rng rfl 26 (.tmp 4) rfl g6 0 rfl (txC x) _ ?_ hux rfl jx.out ?_); exact q7.out))
    refine (hCk.out _).mono ?_
    rintro e v9 ⟨rfl, hb9⟩
    have h10 := hid ((hb9.block _ (block_lt h9.out)).trans h9.out)
    have W10 := hid (W9.out.trans (hb9.mono W9.out.size))
    have q8 := hid (rangeBel2 hb9 q7.out)
    clear hb9
    cases cb
    · go_wp2_with (first
        | ((with_reducible refine wpList_built rfl 26 _ rfl zTxC [] ?_ ?_ ?_); exact built_tx0; rfl)
        | ((with_reducible refine wpList_store_row rfl 26 (.tmp 2) (.tmp 32) rfl w.heap.size _ rfl rfl 26 zTxC ?_ ?_ ?_ ?_ ?_); exact h10.out; exact sizeTxA zX; rfl; exact one_tx zX; intro w5 hg5 hb5 hs5))
      exact bodyPost_ret (res_tx rfl _ _ w.heap.size zX rfl hg5) rfl ⟨rfl, W10.out.grown hb5 W10.out.size (fun g e => by injection e with e; omega)⟩
    · go_wp2_with (first
        | ((with_reducible refine wpList_load_rng rfl 26 (.tmp 4) rfl g6 0 rfl (txC x) _ ?_ hux rfl jx.out ?_); exact q8.out)
        | ((with_reducible refine wpList_store_row rfl 26 (.tmp 2) (.tmp 33) rfl w.heap.size _ rfl rfl 26 zTxC ?_ ?_ ?_ ?_ ?_); exact h10.out; exact sizeTxA x; exact zSizeTx x; exact one_tx x; intro w5 hg5 hb5 hs5))
      exact bodyPost_ret (res_tx rfl _ _ w.heap.size x rfl hg5) rfl ⟨rfl, W10.out.grown hb5 W10.out.size (fun g e => by injection e with e; omega)⟩
  exact AllReadyH.nil
end Go.Proofs.YtaegdiggmgifiaaDoor
