/-
  The document's answers of layer 14: digest, Read.
-/
import Derived.Test.YtpfglincdlmfhaaHd
import Derived.Test.YtpfglincdlmfhaaRef10a
import Derived.Test.YtpfglincdlmfhaaCutsB
import Derived.Test.YtpfglincdlmfhaaDgF
namespace Go.Proofs.Ytpfglincdlmfhaa
open Go.RowKit
set_option linter.unusedVariables false
set_option linter.unusedSimpArgs false
set_option maxRecDepth 100000

set_option maxHeartbeats 2000000 in
theorem RDigH_any (A : Option Addr) (c : Nat) (l : List UInt8) (a : Nat) (w : World) (hr : Rd w A l) (ha : a + 32 ≤ l.length) (hl : l.length ≤ 1000000) :
    Calls Try.prog 17 #[.slice A l.length c, .int .i64 (a : Int)] w fun e w' => e = .returned (.agg ((dgAt l a).1.map bv).toArray) ∧ Below w.heap.size w w' := by
  have hu := Try.underlying25
  have hd := dgAt_val ha
  have ls : (dgAt l a).1.length = 32 := (dgAt l a).2
  obtain ⟨s, hs⟩ : ∃ s, (dgAt l a).1 = s := ⟨_, rfl⟩
  rw [hs] at hd ls ⊢
  have hget : ∀ j (h : j < s.length), s[j] = l[a + j]'(by omega) := fun j h => by simp [hd]
  have b0 := ext_alloc w (.cells z32 25)
  have h0 := heap_alloc_new w (.cells z32 25)
  have h1 := heap_alloc_new (w.alloc (.cells z32 25)) (.cells z32 25)
  have b1 := ext_alloc (w.alloc (.cells z32 25)) (.cells z32 25)
  rw [World.size_alloc] at h1
  replace h0 := hid ((b1.block _ (block_lt h0)).trans h0)
  have W1 := hid (b0.trans (b1.mono b0.size))
  have sz1 := hid (show ((w.alloc (.cells z32 25)).alloc (.cells z32 25)).heap.size = w.heap.size + 1 + 1 by rw [World.size_alloc, World.size_alloc])
  replace h1 := hid h1
  have hz32 := hid (show z32 = ((dgF s 0).map bv).toArray by rw [dgF_zero]; rfl)
  have zs : ((s.map bv).toArray).size = 32 := by simp [ls]
  have oz := hid (bvs_all s)
  have jd := hid (show (Try.prog.info? 25).map (·.size) = some (s.map bv).length from by rw [List.length_map, ls]; exact size32)
  clear hd hs b0 b1
  go_enter Try.func17, Try.ntmps17
  go_wp2_with (first
    | (with_reducible refine wpList_alloc_row rfl 25 rfl z32 info32 ?_))
  generalize (w.alloc (.cells z32 25)).alloc (.cells z32 25) = w1 at *
  rw [hz32.out] at h1
  go_loopw [6] (fun i wr => ∃ j : Nat, j ≤ 32 ∧ i = .int .i64 j ∧ wr.heap[w.heap.size + 1]? = some (.cells ((dgF s j).map bv).toArray 25 (0, 0)) ∧ Below (w.heap.size + 1) w1 wr) (fun i _ => 32 - (intOf i).toNat)
  case atStart => exact ⟨0, Nat.zero_le _, rfl, h1.out, Below.refl _ _⟩
  case round =>
    obtain ⟨j, hj, rfl, hg, hb⟩ := hrel
    by_cases hlt : j < 32
    · have hrw := hr.bel (W1.out.trans (hb.mono (Nat.le_trans (Nat.le_succ _) (Nat.le_refl _))))
      obtain ⟨b, o, rfl, hc⟩ := rd_cell hrw (by omega)
      have hcell := hc (a + j) (by omega)
      have hcb := block_bcell hg j (by rw [dgF_len ls (by omega)]; exact hlt)
      have hf := block_frozen hg j
      have e4 := hid (dgF_step ls (j := j) (by omega))
      have e5 := hid (hget j (by omega))
      have hwr : IntKind.i64.wrap ((a : Int) + (j : Int)) = ((a + j : Nat) : Int) := by rw [IntKind.wrap_i64]; omega
      have i1 : ((a + j : Nat) : Int).toNat = a + j := Int.toNat_natCast _
      have i2 : (0 : Int) ≤ ((a + j : Nat) : Int) := Int.natCast_nonneg _
      have i3 : ((a + j : Nat) : Int) < (l.length : Int) := by omega
      clear hc
      go_wp2
      go_roundw
      case rel =>
        refine ⟨j + 1, by omega, by go_num, ?_, hb.setCell (Nat.le_refl _) _⟩
        rw [← e4.out, e5.out]
        exact block_bset hg _ _
      case measure => simp [intOf]; omega
    · obtain rfl : j = 32 := by omega
      rw [dgF_all ls] at hg
      have h9 := hid ((hb.block _ (Nat.lt_succ_self _)).trans h0.out)
      have W9 := hid (W1.out.trans (hb.mono (Nat.le_succ _)))
      have Y9 := hid (rangeOf hg)
      clear hg hb h0 h1
      go_wp2_with (first
        | ((with_reducible refine wpList_load_rng rfl 25 (.tmp 5) rfl (w.heap.size + 1) 0 rfl (s.map bv) _ ?_ hu rfl jd.out ?_); exact Y9.out)
        | ((with_reducible refine wpList_store_row rfl 25 (.tmp 4) (.tmp 19) rfl w.heap.size _ rfl rfl 25 z32 ?_ ?_ ?_ ?_ ?_); exact h9.out; (rw [zs]; exact size32); (rw [zs]; exact z32_size); exact oz.out; intro w6 hg6 hb6 hs6))
      refine bodyPost_ret (v := .agg (s.map bv).toArray) ?_ rfl ⟨rfl, ?_⟩
      · exact results_cell_row Try.results17 _ _ w.heap.size 25 _ (0, 0) _ rfl hg6 hu rfl (by rw [zs]; exact size32)
      · exact W9.out.grown hb6 W9.out.size (fun g e => by injection e with e; omega)
theorem res_hd {fn : Func} {p u : Tmp} (h : fn.results = #[.cell p 27, .tmp u]) (tmps : Array Value) (w : World) (g : Nat) (x : Hd) (e1 : tmps.getD p undef = .pointer (some ⟨g, 0, none⟩))
    (hg : w.heap[g]? = some (.cells (hdC x).toArray 27 (0, 0))) : (results fn tmps).run Try.prog w = .ok (.tuple #[.agg (hdC x).toArray, tmps.getD u undef]) w := by
  have h2 := run_loadVar_mid (P := Try.prog) w g 0 27 (hdC x) _ (rangeOf hg) Try.underlying27 rfl (sizeHd x)
  rw [results_cell_tmp h, e1]
  simp only [asAddr, Sem.run_pure, Result.andThen_ok, h2]
set_option maxHeartbeats 4000000 in
theorem RHdRead_any (A : Option Addr) (c : Nat) (l : List UInt8) (w : World) (hr : Rd w A l) (hc : l.length ≤ c) (hm : c ≤ maxLen) (hl : l.length ≤ 1000000) :
    Calls Try.prog 7 #[.slice A l.length c] w fun e w' => e = .returned (.tuple #[.agg (hdC (readH l)).toArray, .int .i64 (readHE l)]) ∧ Below w.heap.size w w' := by
  have hux := Try.underlying27
  have h0 := hid (heap_alloc_new w (.cells zHdC 27))
  have b0 := hid (ext_alloc w (.cells zHdC 27))
  by_cases h1 : l.length < 108
  · have e1 : readHE l = 10 := by unfold readHE; rw [if_pos h1]
    have e2 : readH l = zH := by unfold readH; rw [if_neg (by rw [e1]; decide)]
    rw [e1, e2]
    have q1 : decide ((l.length : Int) < 108) = true := decide_eq_true (by omega)
    clear e1 e2
    go_enter Try.func7, Try.ntmps7
    go_wp2_with (first
      | (with_reducible refine wpList_alloc_row rfl 27 rfl zHdC zInfoHd ?_)
      | ((with_reducible refine wpList_built rfl 27 _ rfl zHdC [] ?_ ?_ ?_); exact built_hd0; rfl)
      | ((with_reducible refine wpList_store_row rfl 27 (.tmp 2) (.tmp 9) rfl w.heap.size _ rfl rfl 27 zHdC ?_ ?_ ?_ ?_ ?_); exact h0.out; exact sizeHdA zH; rfl; exact one_hd zH; intro w5 hg5 hb5 hs5))
    exact bodyPost_ret (res_hd rfl _ _ w.heap.size zH rfl hg5) rfl ⟨rfl, b0.out.grown hb5 b0.out.size (fun g e => by injection e with e; omega)⟩
  have q1 : decide ((l.length : Int) < 108) = false := decide_eq_false (by omega)
  by_cases h2 : 108 < l.length
  · have e1 : readHE l = 11 := by unfold readHE; rw [if_neg h1, if_pos h2]
    have e2 : readH l = zH := by unfold readH; rw [if_neg (by rw [e1]; decide)]
    rw [e1, e2]
    have q2 : decide (108 < (l.length : Int)) = true := decide_eq_true (by omega)
    clear e1 e2
    go_enter Try.func7, Try.ntmps7
    go_wp2_with (first
      | (with_reducible refine wpList_alloc_row rfl 27 rfl zHdC zInfoHd ?_)
      | ((with_reducible refine wpList_built rfl 27 _ rfl zHdC [] ?_ ?_ ?_); exact built_hd0; rfl)
      | ((with_reducible refine wpList_store_row rfl 27 (.tmp 2) (.tmp 13) rfl w.heap.size _ rfl rfl 27 zHdC ?_ ?_ ?_ ?_ ?_); exact h0.out; exact sizeHdA zH; rfl; exact one_hd zH; intro w5 hg5 hb5 hs5))
    exact bodyPost_ret (res_hd rfl _ _ w.heap.size zH rfl hg5) rfl ⟨rfl, b0.out.grown hb5 b0.out.size (fun g e => by injection e with e; omega)⟩
  have q2 : decide (108 < (l.length : Int)) = false := decide_eq_false (by omega)
  have hl9 : l.length = 108 := by omega
  obtain ⟨x, hx⟩ : ∃ x, takenH l = x := ⟨_, rfl⟩
  obtain ⟨nh, hnh⟩ : ∃ n, num (l.take 8) = n := ⟨_, rfl⟩
  obtain ⟨nm, hnm⟩ : ∃ n, num (l.drop 104) = n := ⟨_, rfl⟩
  have xh : x.h = (nh : Int) := by rw [← hx, ← hnh]; rfl
  have xm : x.m = (nm : Int) := by rw [← hx, ← hnm]; rfl
  obtain ⟨y1, hy1⟩ : ∃ b, decide (1073741824 < (nh : Int)) = b := ⟨_, rfl⟩
  obtain ⟨y2, hy2⟩ : ∃ b, decide (256 < (nm : Int)) = b := ⟨_, rfl⟩
  have hmay : mayH x = (!y1 && !y2) := by
    rw [Bool.eq_iff_iff, mayH_iff, xh, xm, ← hy1, ← hy2]
    simp <;> omega
  have E1 : readHE l = if y1 || y2 then 8 else 0 := by
    unfold readHE hdE
    rw [if_neg h1, if_neg h2, hx, hmay]
    cases y1 <;> cases y2 <;> rfl
  have E2 : readH l = if y1 || y2 then zH else x := by
    unfold readH
    rw [E1, hx]
    cases y1 <;> cases y2 <;> rfl
  rw [E1, E2]
  have w1 : y1 = false → IntKind.i64.wrap (nh : Int) = (nh : Int) := fun h => by
    rw [h] at hy1
    have := of_decide_eq_false hy1
    rw [IntKind.wrap_i64]; omega
  have w2 : y2 = false → IntKind.i64.wrap (nm : Int) = (nm : Int) := fun h => by
    rw [h] at hy2
    have := of_decide_eq_false hy2
    rw [IntKind.wrap_i64]; omega
  have fl := hid (fun W (hb : Below w.heap.size w W) => (show Rd W A l ∧ Rd W A (l.take 8) ∧ Rd W (cutA A c 104 1) (l.drop 104) from ⟨hr.bel hb, (hr.take 8).bel hb, (((hr.row (F := fun _ => True) fun _ _ _ => trivial).cut 104 c (by omega) hc).rd).bel hb⟩))
  have sl1 := hid (fun W => run_upto slotU8k A l.length c 8 (by omega) W)
  have sl2 := hid (fun W => run_from slotU8k A l.length c 104 (by omega) W)
  rw [show l.length - 104 = 4 by omega] at sl2
  have n1 := hid (show (l.take 8).length = 8 by rw [List.length_take]; omega)
  have n2 := hid (show (l.drop 104).length = 4 by rw [List.length_drop]; omega)
  have dg := hid (fun a (ha : a + 32 ≤ l.length) W (h : Rd W A l) => RDigH_any A c l a W h ha hl)
  have nc1 := hid (fun W (h : Rd W A (l.take 8)) => hnh ▸ Number_any A 8 c (l.take 8) W h n1.out.symm (by rw [n1.out]; decide))
  have nc2 := hid (fun W (h : Rd W (cutA A c 104 1) (l.drop 104)) => hnm ▸ Number_any (cutA A c 104 1) 4 (c - 104) (l.drop 104) W h n2.out.symm (by rw [n2.out]; decide))
  have bl := built_hd x
  rw [xh, xm, ← hx] at bl
  have bl2 : Try.prog.built 27 [(0, .int .i64 (nh : Int)), (1, .agg ((dgAt l 8).1.map bv).toArray), (2, .agg ((dgAt l 40).1.map bv).toArray), (3, .agg ((dgAt l 72).1.map bv).toArray), (4, .int .i64 (nm : Int))] = some (hdC x).toArray := by rw [← hx]; exact bl
  replace bl2 := hid bl2
  have hl9' := hid hl9
  have w1' := hid w1
  have w2' := hid w2
  clear bl E1 E2 h1 h2 hl9 hc hm hl hr hx hnh hnm xh xm hmay w1 w2
  go_enter Try.func7, Try.ntmps7
  go_wp2_with (first
    | (with_reducible refine wpList_alloc_row rfl 27 rfl zHdC zInfoHd ?_))
  generalize w.alloc (.cells zHdC 27) = w1 at *
  refine wp_region_noPanic ?_
  refine wp_region_held_drew (S := fun w' => Below w1.heap.size w1 w') (by kernel_rfl) ?_ (fun hHeld => ?_)
  · exact bel_drew w1
  refine' wpAnyH_take (i := 0) (oi := _) (v := ?_) rfl (by kernel_rfl) (by kernel_rfl) (by kernel_rfl) (fun _ _ _ h => h) (Or.inl ⟨by rfl, ?_⟩) (by assumption) ?_
  rotate_left
  · intro W hSw
    go_simp
    first | done | (with_reducible rfl)
  try simp only [Act.put, sQa, sQb, sQc, gQa, gQb, gQc]
  refine' wpAnyH_take (i := 1) (oi := _) (v := _) rfl (by kernel_rfl) (by kernel_rfl) (by kernel_rfl) (fun _ _ _ h => h) (yieldsIf_slice (by rfl) _ _ _ _ _ rfl _ _ _ _ _ (sl1.out) rfl rfl rfl rfl) (by assumption) ?_
  try simp only [Act.put, sQa, sQb, sQc, gQa, gQb, gQc]
  refine' wpAnyH_take (i := 3) (oi := _) (v := ?_) rfl (by kernel_rfl) (by kernel_rfl) (by kernel_rfl) (fun _ _ _ h => h) (Or.inl ⟨by rfl, ?_⟩) (by assumption) ?_
  rotate_left
  · intro W hSw
    go_simp
    first | done | (with_reducible rfl)
  try simp only [Act.put, sQa, sQb, sQc, gQa, gQb, gQc]
  refine' wpAnyH_take (i := 4) (oi := _) (v := _) rfl (by kernel_rfl) (by kernel_rfl) (by kernel_rfl) (fun _ _ _ h => h) (yieldsIf_slice (by rfl) _ _ _ _ _ rfl _ _ _ _ _ (sl2.out) rfl rfl rfl rfl) (by assumption) ?_
  try simp only [Act.put, sQa, sQb, sQc, gQa, gQb, gQc]
  refine wpAnyH_ready (rs := [2]) (by kernel_rfl) (by simp) ?_
  refine AllReadyH.cons (o := _) rfl (fun K hK => ?_) AllReadyH.nil
  go_simp
  refine (nc1.out _ (fl.out _ (b0.out.trans (hHeld.mono b0.out.size))).2.1).mono ?_
  rintro e z2 ⟨rfl, rfl⟩
  go_wp2_with fail
  refine hK.out _ _ ?_ (fun hHeld => ?_)
  · exact hHeld
  clear hK K
  try simp only [Act.put, sQa, sQb, sQc, gQa, gQb, gQc]
  refine wpAnyH_ready (rs := [5]) (by kernel_rfl) (by simp) ?_
  refine AllReadyH.cons (o := _) rfl (fun K hK => ?_) AllReadyH.nil
  go_simp
  refine (nc2.out _ (fl.out _ (b0.out.trans (hHeld.mono b0.out.size))).2.2).mono ?_
  rintro e z3 ⟨rfl, rfl⟩
  go_wp2_with fail
  refine hK.out _ _ ?_ (fun hHeld => ?_)
  · exact hHeld
  clear hK K
  try simp only [Act.put, sQa, sQb, sQc, gQa, gQb, gQc]
  refine' wpAnyH_take (i := 6) (oi := _) (v := ?_) rfl (by kernel_rfl) (by kernel_rfl) (by kernel_rfl) (fun _ _ _ h => h) (Or.inl ⟨by rfl, ?_⟩) (by assumption) ?_
  rotate_left
  · intro W hSw
    go_simp
    first | done | (with_reducible rfl)
  try simp only [Act.put, sQa, sQb, sQc, gQa, gQb, gQc]
  refine' wpAnyH_take (i := 7) (oi := _) (v := ?_) rfl (by kernel_rfl) (by kernel_rfl) (by kernel_rfl) (fun _ _ _ h => h) (Or.inl ⟨by rfl, ?_⟩) (by assumption) ?_
  rotate_left
  · intro W hSw
    go_simp
    first | done | (with_reducible rfl)
  try simp only [Act.put, sQa, sQb, sQc, gQa, gQb, gQc]
  refine wpAnyH_done (by kernel_rfl) ?_ _
  refine NoPanic.normal ?_
  have h9 := hid ((hHeld.block _ (block_lt h0.out)).trans h0.out)
  have W9 := hid (b0.out.trans (hHeld.mono b0.out.size))
  clear hHeld
  rcases y1 with _ | _
  rcases y2 with _ | _
  · have v1 := w1'.out rfl
    have v2 := w2'.out rfl
    clear w1' w2'
    go_wp2_with fail
    refine (dg.out 8 (by rw [hl9'.out]; decide) _ (fl.out _ W9.out).1).mono ?_
    rintro e v3 ⟨rfl, hb⟩
    have W3 := hid (W9.out.trans (hb.mono W9.out.size))
    have h3 := hid ((hb.block _ (block_lt h9.out)).trans h9.out)
    clear hb
    go_wp2_with fail
    refine (dg.out 40 (by rw [hl9'.out]; decide) _ (fl.out _ W3.out).1).mono ?_
    rintro e v4 ⟨rfl, hb⟩
    have W4 := hid (W3.out.trans (hb.mono W3.out.size))
    have h4 := hid ((hb.block _ (block_lt h3.out)).trans h3.out)
    clear hb
    go_wp2_with fail
    refine (dg.out 72 (by rw [hl9'.out]; decide) _ (fl.out _ W4.out).1).mono ?_
    rintro e v5 ⟨rfl, hb⟩
    have W5 := hid (W4.out.trans (hb.mono W4.out.size))
    have h5 := hid ((hb.block _ (block_lt h4.out)).trans h4.out)
    clear hb
    go_wp2_with (first
      | ((with_reducible refine wpList_built rfl 27 _ rfl (hdC x).toArray [(0, .int .i64 (nh : Int)), (1, .agg ((dgAt l 8).1.map bv).toArray), (2, .agg ((dgAt l 40).1.map bv).toArray), (3, .agg ((dgAt l 72).1.map bv).toArray), (4, .int .i64 (nm : Int))] ?_ ?_ ?_); exact bl2.out; rfl)
      | ((with_reducible refine wpList_store_row rfl 27 (.tmp 2) (.tmp 37) rfl w.heap.size _ rfl rfl 27 zHdC ?_ ?_ ?_ ?_ ?_); exact h5.out; exact sizeHdA x; exact zSizeHd x; exact one_hd x; intro w5 hg5 hb5 hs5))
    exact bodyPost_ret (res_hd rfl _ _ w.heap.size x rfl hg5) rfl ⟨rfl, W5.out.grown hb5 W5.out.size (fun g e => by injection e with e; omega)⟩
  all_goals
    go_wp2_with (first
      | ((with_reducible refine wpList_built rfl 27 _ rfl zHdC [] ?_ ?_ ?_); exact built_hd0; rfl)
      | ((with_reducible refine wpList_store_row rfl 27 (.tmp 2) (.tmp 26) rfl w.heap.size _ rfl rfl 27 zHdC ?_ ?_ ?_ ?_ ?_); exact h9.out; exact sizeHdA zH; rfl; exact one_hd zH; intro w5 hg5 hb5 hs5))
    exact bodyPost_ret (res_hd rfl _ _ w.heap.size zH rfl hg5) rfl ⟨rfl, W9.out.grown hb5 W9.out.size (fun g e => by injection e with e; omega)⟩
end Go.Proofs.Ytpfglincdlmfhaa
