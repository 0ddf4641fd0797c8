/-
  Contracts of the landed package tree: Drop.
-/
import Derived.Test.YtcifncmfjlbhjaaDoorTrC
import Derived.Test.YtcifncmfjlbhjaaDoorTreeLn
namespace Go.Proofs.YtcifncmfjlbhjaaDoor
open Go.RowKit
set_option linter.unusedVariables false
set_option linter.unusedSimpArgs false
set_option maxRecDepth 100000

def tdropE (t : Tr) (k : Dg) : Int := if mayT t = true then (if hasP (allT t) k = true then (if 261844 < t.ns.length then 9 else 0) else 6) else 8
def tdropT (t : Tr) (k : Dg) : Tr := if tdropE t k = 0 then ⟨(dropN t.ns k 256 t.root).1, (dropN t.ns k 256 t.root).2⟩ else ⟨[], 0⟩
theorem tdrop_no {t : Tr} {k : Dg} (h : ¬ tdropE t k = 0) : tdropT t k = ⟨[], 0⟩ := by unfold tdropT; rw [if_neg h]
/-- What is dropped from stands for the pairs without it. -/
theorem tdropT_spec {t : Tr} {k : Dg} (h : tdropE t k = 0) : (∃ ms, (tdropT t k).ns = t.ns ++ ms ∧ ms.length ≤ 256) ∧ mayT (tdropT t k) = true ∧ allT (tdropT t k) = withoutP (allT t) k := by
  have hT : tdropT t k = ⟨(dropN t.ns k 256 t.root).1, (dropN t.ns k 256 t.root).2⟩ := by unfold tdropT; rw [if_pos h]
  unfold tdropE at h
  by_cases hm : mayT t = true
  · rw [if_pos hm] at h
    by_cases hv : hasP (allT t) k = true
    · rw [if_pos hv] at h
      by_cases hf : 261844 < t.ns.length
      · rw [if_pos hf] at h; cases h
      · obtain ⟨m0, m1, m2, ho, m3⟩ := mayT_iff.1 hm
        obtain ⟨⟨ms, a1, a2⟩, a3, a4, a5, a6, a7⟩ := drop_spec ho 256 t.root z0 (Nat.le_refl _) m1 m2 zr_z0 m3 hv
        rw [hT]
        exact ⟨⟨ms, a1, a2⟩, mayT_iff.2 ⟨by dsimp only; rw [a1, List.length_append]; omega, a4, a5, a3, a6⟩, a7⟩
    · rw [if_neg hv] at h; cases h
  · rw [if_neg hm] at h; cases h
theorem dg_root {t : Tr} {k : Dg} (h : mayT t = true) (hh : hasP (allT t) k = true) : DG t.ns k 256 t.root := by
  obtain ⟨m0, m1, m2, ho, m3⟩ := mayT_iff.1 h
  exact ⟨m1, m2, z0, zr_z0, m3, hh⟩

set_option maxHeartbeats 4000000 in
theorem PTDrop_any (F : Nat → Prop) (A : Option Addr) (c : Nat) (ns : List Nd) (root : Int) (k : Dg) (w : World) (hr : Row F w A ns) (hc : ns.length ≤ 1000000) :
    Calls Tryd.prog 22 #[.agg #[.slice A ns.length c, .int .i64 root], .agg (k.1.map bv).toArray] w fun e w' => ∃ A' c', e = .returned (.tuple #[.agg #[.slice A' (tdropT ⟨ns, root⟩ k).ns.length c', .int .i64 (tdropT ⟨ns, root⟩ k).root], .int .i64 (tdropE ⟨ns, root⟩ k)]) ∧ OwnR 80 w' w.heap.size A' c' (tdropT ⟨ns, root⟩ k).ns ∧ Below w.heap.size w w' := by
  obtain ⟨hb0, hk0, hz0, W0⟩ := boxesPut w A ns.length c root k
  have hr0 := hr.bel W0
  have hu := Tryd.underlying35
  have hut := Tryd.underlying31
  have hiT := hid (show (Tryd.prog.info? 31).map (·.size) = some ([Value.slice A ns.length c, .int .i64 root]).length from sizeTr)
  have hi := hid (sizeDgT k)
  have hb0t := hid built_tr0
  obtain ⟨m, hm⟩ : ∃ m, mayT ⟨ns, root⟩ = m := ⟨_, rfl⟩
  have hC := hid (fun W hW => PTCheck_is F A c ns root m W hW (by omega) hm)
  have hFu := hid (fun W => PTIsFull_any A ns.length c root W)
  have hbt0 := hid (built_trie A ns.length c root)
  replace hz0 := hid hz0
  cases m with
  | false =>
    have hE : tdropE ⟨ns, root⟩ k = 8 := by unfold tdropE; rw [hm]; rfl
    rw [tdrop_no (by rw [hE]; decide), hE]
    generalize k.1.map bv = dk at *
    clear hm
    go_enter Tryd.func22, Tryd.ntmps22
    go_wp2_with (first
      | (with_reducible refine wpList_alloc_row rfl 31 rfl zTrC zInfoTr ?_)
      | ((with_reducible refine wpList_load_rng rfl 31 (.tmp 2) rfl w.heap.size 0 rfl [Value.slice A ns.length c, .int .i64 root] _ ?_ hut rfl hiT.out ?_); exact hb0.all))
    generalize ((w.alloc (.cells #[.slice A ns.length c, .int .i64 root] 31)).alloc (.cells dk.toArray 35)).alloc (.cells zTrC 31) = w0 at *
    refine (hC.out _ hr0).mono ?_
    rintro e w1 ⟨rfl, hb⟩
    have z1 := hid ((hb.block _ (block_lt hz0.out)).trans hz0.out)
    have W1 := hid (W0.trans (hb.mono W0.size))
    go_wp2_with (first
      | ((with_reducible refine wpList_built rfl 31 _ rfl zTrC [] ?_ ?_ ?_); exact hb0t.out; rfl)
      | ((with_reducible refine wpList_store_row rfl 31 (.tmp 4) (.tmp 14) rfl (w.heap.size + 1 + 1) _ rfl rfl 31 zTrC ?_ ?_ ?_ ?_ ?_); exact z1.out; exact sizeTr; rfl; exact one_zTr; intro w9 hg9 hb9 hs9))
    exact bodyPost_ret (res_tr2 Tryd.results22 _ _ (w.heap.size + 1 + 1) none 0 0 0 rfl hg9) rfl ⟨none, 0, rfl, OwnR.nil _ _, W1.out.grown hb9 W1.out.size (fun g e => by injection e with e; omega)⟩
  | true =>
    have hFd := fun W hW => PFindT_any F A c ns root k W hW hc hm
    rw [(find_spec k hm).1] at hFd
    obtain ⟨hh, hhv⟩ : ∃ hh, hasP (allT ⟨ns, root⟩) k = hh := ⟨_, rfl⟩
    rw [hhv] at hFd
    generalize endN ⟨ns, root⟩ k = x at *
    have hiS := fun A2 c2 => hid (show (Tryd.prog.info? 80).map (·.size) = some (ndC x A2 c2).toArray.size by rw [List.size_toArray, len_nd]; exact sizeNd)
    have hzs := fun A2 c2 => hid (show zNdC.size = (ndC x A2 c2).toArray.size by rw [zSizeNd, List.size_toArray, len_nd])
    have hone := fun A2 c2 => hid (one_nd x A2 c2)
    replace hFd := hid hFd
    have hfdE : decide (261844 < ns.length) = decide (261844 < ns.length) := rfl
    cases hh with
    | false =>
      have hE : tdropE ⟨ns, root⟩ k = 6 := by unfold tdropE; rw [hm, hhv]; rfl
      rw [tdrop_no (by rw [hE]; decide), hE]
      generalize k.1.map bv = dk at *
      clear hm hhv hfdE
      go_enter Tryd.func22, Tryd.ntmps22
      go_wp2_with (first
        | (with_reducible refine wpList_alloc_row rfl 31 rfl zTrC zInfoTr ?_)
        | ((with_reducible refine wpList_load_rng rfl 31 (.tmp 2) rfl w.heap.size 0 rfl [Value.slice A ns.length c, .int .i64 root] _ ?_ hut rfl hiT.out ?_); exact hb0.all))
      generalize ((w.alloc (.cells #[.slice A ns.length c, .int .i64 root] 31)).alloc (.cells dk.toArray 35)).alloc (.cells zTrC 31) = w0 at *
      refine (hC.out _ hr0).mono ?_
      rintro e w1 ⟨rfl, hb⟩
      have z1 := hid ((hb.block _ (block_lt hz0.out)).trans hz0.out)
      have t1 := hid (hb0.bel hb)
      have r1 := hid (hr0.bel hb)
      have k1 := hid (rangeBel2 hb hk0)
      have W1 := hid (W0.trans (hb.mono W0.size))
      clear hb hb0 hr0 hk0 hz0 W0
      go_wp2_with (first
        | ((with_reducible refine wpList_load_rng rfl 31 (.tmp 2) rfl w.heap.size 0 rfl [Value.slice A ns.length c, .int .i64 root] _ ?_ hut rfl hiT.out ?_); exact t1.out.all)
        | ((with_reducible refine wpList_built rfl 77 _ rfl #[Value.slice A ns.length c, .int .i64 root] [(0, .agg #[.slice A ns.length c, .int .i64 root])] ?_ ?_ ?_); exact hbt0.out; rfl)
        | ((with_reducible refine wpList_load_rng rfl 35 (.tmp 3) rfl (w.heap.size + 1) 0 rfl dk _ ?_ hu rfl hi.out ?_); exact k1.out))
      refine (hFd.out _ r1.out).mono ?_
      rintro e w2 ⟨A2, c2, rfl, -, hb⟩
      have z2 := hid ((hb.block _ (block_lt z1.out)).trans z1.out)
      have t2 := hid (t1.out.bel hb)
      have r2 := hid (r1.out.bel hb)
      have k2 := hid (rangeBel2 hb k1.out)
      have W2 := hid (W1.out.trans (hb.mono W1.out.size))
      have e2 := hid (heap_alloc_new w2 (.cells zNdC 80))
      clear hb z1 t1 r1 k1 W1
      go_wp2_with (first
        | ((with_reducible refine wpList_built rfl 31 _ rfl zTrC [] ?_ ?_ ?_); exact hb0t.out; rfl)
        | (with_reducible refine wpList_alloc_row rfl 80 rfl zNdC zInfoNd ?_)
        | ((with_reducible refine wpList_store_row rfl 80 (.tmp 7) (.tmp 21) rfl _ _ rfl rfl 80 zNdC ?_ ?_ ?_ ?_ ?_); exact e2.out; exact (hiS A2 c2).out; exact (hzs A2 c2).out; exact (hone A2 c2).out; intro w3 hg3 hb3 hs3; have X3 := hid (xnewP rfl hb3); have z3 := hid ((X3.out.block _ (block_lt z2.out)).trans z2.out); clear hg3 hb3 hs3)
        | ((with_reducible refine wpList_store_row rfl 31 (.tmp 4) (.tmp 25) rfl (w.heap.size + 1 + 1) _ rfl rfl 31 zTrC ?_ ?_ ?_ ?_ ?_); exact z3.out; exact sizeTr; rfl; exact one_zTr; intro w9 hg9 hb9 hs9))
      have W3 := W2.out.trans (X3.out.mono W2.out.size)
      exact bodyPost_ret (res_tr2 Tryd.results22 _ _ (w.heap.size + 1 + 1) none 0 0 0 rfl hg9) rfl ⟨none, 0, rfl, OwnR.nil _ _, W3.grown hb9 W3.size (fun g e => by injection e with e; omega)⟩
    | true =>
      by_cases hfull : 261844 < ns.length
      · have hE : tdropE ⟨ns, root⟩ k = 9 := by unfold tdropE; rw [hm, hhv]; dsimp only; rw [if_pos rfl, if_pos rfl, if_pos hfull]
        rw [tdrop_no (by rw [hE]; decide), hE]
        have hfd := decide_eq_true hfull
        rw [hfd] at hFu
        generalize k.1.map bv = dk at *
        clear hm hhv hfd hfdE
        go_enter Tryd.func22, Tryd.ntmps22
        go_wp2_with (first
          | (with_reducible refine wpList_alloc_row rfl 31 rfl zTrC zInfoTr ?_)
          | ((with_reducible refine wpList_load_rng rfl 31 (.tmp 2) rfl w.heap.size 0 rfl [Value.slice A ns.length c, .int .i64 root] _ ?_ hut rfl hiT.out ?_); exact hb0.all))
        generalize ((w.alloc (.cells #[.slice A ns.length c, .int .i64 root] 31)).alloc (.cells dk.toArray 35)).alloc (.cells zTrC 31) = w0 at *
        refine (hC.out _ hr0).mono ?_
        rintro e w1 ⟨rfl, hb⟩
        have z1 := hid ((hb.block _ (block_lt hz0.out)).trans hz0.out)
        have t1 := hid (hb0.bel hb)
        have r1 := hid (hr0.bel hb)
        have k1 := hid (rangeBel2 hb hk0)
        have W1 := hid (W0.trans (hb.mono W0.size))
        clear hb hb0 hr0 hk0 hz0 W0
        go_wp2_with (first
          | ((with_reducible refine wpList_load_rng rfl 31 (.tmp 2) rfl w.heap.size 0 rfl [Value.slice A ns.length c, .int .i64 root] _ ?_ hut rfl hiT.out ?_); exact t1.out.all)
          | ((with_reducible refine wpList_built rfl 77 _ rfl #[Value.slice A ns.length c, .int .i64 root] [(0, .agg #[.slice A ns.length c, .int .i64 root])] ?_ ?_ ?_); exact hbt0.out; rfl)
          | ((with_reducible refine wpList_load_rng rfl 35 (.tmp 3) rfl (w.heap.size + 1) 0 rfl dk _ ?_ hu rfl hi.out ?_); exact k1.out))
        refine (hFd.out _ r1.out).mono ?_
        rintro e w2 ⟨A2, c2, rfl, -, hb⟩
        have z2 := hid ((hb.block _ (block_lt z1.out)).trans z1.out)
        have t2 := hid (t1.out.bel hb)
        have r2 := hid (r1.out.bel hb)
        have k2 := hid (rangeBel2 hb k1.out)
        have W2 := hid (W1.out.trans (hb.mono W1.out.size))
        have e2 := hid (heap_alloc_new w2 (.cells zNdC 80))
        clear hb z1 t1 r1 k1 W1
        go_wp2_with (first
          | (with_reducible refine wpList_alloc_row rfl 80 rfl zNdC zInfoNd ?_)
          | ((with_reducible refine wpList_store_row rfl 80 (.tmp 7) (.tmp 21) rfl _ _ rfl rfl 80 zNdC ?_ ?_ ?_ ?_ ?_); exact e2.out; exact (hiS A2 c2).out; exact (hzs A2 c2).out; exact (hone A2 c2).out; intro w3 hg3 hb3 hs3; have X3 := hid (xnewP rfl hb3); have z3 := hid ((X3.out.block _ (block_lt z2.out)).trans z2.out); have t3 := hid (t2.out.bel X3.out); have r3 := hid (r2.out.bel X3.out); have k3 := hid (rangeBel2 X3.out k2.out); have W3 := hid (W2.out.trans (X3.out.mono W2.out.size)); clear hg3 hb3 hs3)
          | ((with_reducible refine wpList_load_rng rfl 31 (.tmp 2) rfl w.heap.size 0 rfl [Value.slice A ns.length c, .int .i64 root] _ ?_ hut rfl hiT.out ?_); exact t3.out.all))
        refine (hFu.out _).mono ?_
        rintro e w4 ⟨rfl, hb⟩
        have z4 := hid ((hb.block _ (block_lt z3.out)).trans z3.out)
        have W4 := hid (W3.out.trans (hb.mono W3.out.size))
        go_wp2_with (first
          | ((with_reducible refine wpList_built rfl 31 _ rfl zTrC [] ?_ ?_ ?_); exact hb0t.out; rfl)
          | ((with_reducible refine wpList_store_row rfl 31 (.tmp 4) (.tmp 28) rfl (w.heap.size + 1 + 1) _ rfl rfl 31 zTrC ?_ ?_ ?_ ?_ ?_); exact z4.out; exact sizeTr; rfl; exact one_zTr; intro w9 hg9 hb9 hs9))
        exact bodyPost_ret (res_tr2 Tryd.results22 _ _ (w.heap.size + 1 + 1) none 0 0 0 rfl hg9) rfl ⟨none, 0, rfl, OwnR.nil _ _, W4.out.grown hb9 W4.out.size (fun g e => by injection e with e; omega)⟩
      · have hE : tdropE ⟨ns, root⟩ k = 0 := by unfold tdropE; rw [hm, hhv]; dsimp only; rw [if_pos rfl, if_pos rfl, if_neg hfull]
        have hTr : tdropT ⟨ns, root⟩ k = ⟨(dropN ns k 256 root).1, (dropN ns k 256 root).2⟩ := by unfold tdropT; rw [if_pos hE]
        rw [hTr, hE]
        have hfd : decide (261844 < ns.length) = false := decide_eq_false hfull
        rw [hfd] at hFu
        obtain ⟨-, m1, m2, ho, m3⟩ := mayT_iff.1 hm
        dsimp only at m1 m2 ho m3
        have hTw := hid (fun W hW => PTTwin_any F A c ns root W hW hc (fun x hx => Nat.le_trans (may_vals hm x hx) (by decide)))
        have hDG := dg_root hm hhv
        have hput := fun (g B0 : Nat) (G : Nat → Prop) (W : World) T h1 => (show Calls Tryd.prog 43 #[.pointer (some ⟨g, 0, none⟩), .int .i64 root, .int .i64 0, .agg (k.1.map bv).toArray] W (PutPost g B0 G G root W (dropN ns k 256 root)) from
          PTdrop_any g B0 G k ns root ho (by omega) 256 0 root W G rfl hDG T h1 (fun b hb => hb))
        have hbt := hid (fun A c => built_trie A ns.length c root)
        obtain ⟨rp, hrp⟩ : ∃ rp, dropN ns k 256 root = rp := ⟨_, rfl⟩
        rw [hrp] at hput ⊢
        obtain ⟨ns', M⟩ := rp
        dsimp only
        generalize hdk : k.1.map bv = dk at *
        replace hput := hid hput
        clear hm hhv hrp hTr hE m1 m2 m3 hDG ho hfd hfdE
        go_enter Tryd.func22, Tryd.ntmps22
        go_wp2_with (first
          | (with_reducible refine wpList_alloc_row rfl 31 rfl zTrC zInfoTr ?_)
          | ((with_reducible refine wpList_load_rng rfl 31 (.tmp 2) rfl w.heap.size 0 rfl [Value.slice A ns.length c, .int .i64 root] _ ?_ hut rfl hiT.out ?_); exact hb0.all))
        generalize ((w.alloc (.cells #[.slice A ns.length c, .int .i64 root] 31)).alloc (.cells dk.toArray 35)).alloc (.cells zTrC 31) = w0 at *
        refine (hC.out _ hr0).mono ?_
        rintro e w1 ⟨rfl, hb⟩
        have z1 := hid ((hb.block _ (block_lt hz0.out)).trans hz0.out)
        have t1 := hid (hb0.bel hb)
        have r1 := hid (hr0.bel hb)
        have k1 := hid (rangeBel2 hb hk0)
        have W1 := hid (W0.trans (hb.mono W0.size))
        clear hb hb0 hr0 hk0 hz0 W0
        go_wp2_with (first
          | ((with_reducible refine wpList_load_rng rfl 31 (.tmp 2) rfl w.heap.size 0 rfl [Value.slice A ns.length c, .int .i64 root] _ ?_ hut rfl hiT.out ?_); exact t1.out.all)
          | ((with_reducible refine wpList_built rfl 77 _ rfl #[Value.slice A ns.length c, .int .i64 root] [(0, .agg #[.slice A ns.length c, .int .i64 root])] ?_ ?_ ?_); exact hbt0.out; rfl)
          | ((with_reducible refine wpList_load_rng rfl 35 (.tmp 3) rfl (w.heap.size + 1) 0 rfl dk _ ?_ hu rfl hi.out ?_); exact k1.out))
        refine (hFd.out _ r1.out).mono ?_
        rintro e w2 ⟨A2, c2, rfl, -, hb⟩
        have z2 := hid ((hb.block _ (block_lt z1.out)).trans z1.out)
        have t2 := hid (t1.out.bel hb)
        have r2 := hid (r1.out.bel hb)
        have k2 := hid (rangeBel2 hb k1.out)
        have W2 := hid (W1.out.trans (hb.mono W1.out.size))
        have e2 := hid (heap_alloc_new w2 (.cells zNdC 80))
        clear hb z1 t1 r1 k1 W1
        go_wp2_with (first
          | (with_reducible refine wpList_alloc_row rfl 80 rfl zNdC zInfoNd ?_)
          | ((with_reducible refine wpList_store_row rfl 80 (.tmp 7) (.tmp 21) rfl _ _ rfl rfl 80 zNdC ?_ ?_ ?_ ?_ ?_); exact e2.out; exact (hiS A2 c2).out; exact (hzs A2 c2).out; exact (hone A2 c2).out; intro w3 hg3 hb3 hs3; have X3 := hid (xnewP rfl hb3); have z3 := hid ((X3.out.block _ (block_lt z2.out)).trans z2.out); have t3 := hid (t2.out.bel X3.out); have r3 := hid (r2.out.bel X3.out); have k3 := hid (rangeBel2 X3.out k2.out); have W3 := hid (W2.out.trans (X3.out.mono W2.out.size)); clear hg3 hb3 hs3)
          | ((with_reducible refine wpList_load_rng rfl 31 (.tmp 2) rfl w.heap.size 0 rfl [Value.slice A ns.length c, .int .i64 root] _ ?_ hut rfl hiT.out ?_); exact t3.out.all))
        refine (hFu.out _).mono ?_
        rintro e w4 ⟨rfl, hb⟩
        have z4 := hid ((hb.block _ (block_lt z3.out)).trans z3.out)
        have t4 := hid (t3.out.bel hb)
        have r4 := hid (r3.out.bel hb)
        have k4 := hid (rangeBel2 hb k3.out)
        have W4 := hid (W3.out.trans (hb.mono W3.out.size))
        clear hb z3 t3 r3 k3 W3
        go_wp2_with (first
          | ((with_reducible refine wpList_load_rng rfl 31 (.tmp 2) rfl w.heap.size 0 rfl [Value.slice A ns.length c, .int .i64 root] _ ?_ hut rfl hiT.out ?_); exact t4.out.all))
        refine (hTw.out _ r4.out).mono ?_
        rintro e w5 ⟨A5, c5, rfl, ho5, hb⟩
        have z5 := hid ((hb.block _ (block_lt z4.out)).trans z4.out)
        have k5 := hid (rangeBel2 hb k4.out)
        have W5 := hid (W4.out.trans (hb.mono W4.out.size))
        have o5 := hid ho5
        have s5 := hid hb.size
        have lt4 := hid (block_lt z4.out)
        have e5 := hid (heap_alloc_new w5 (.cells zTrC 77))
        clear hb z4 t4 r4 k4 ho5
        go_wp2_with (first
          | ((with_reducible refine wpList_built rfl 77 _ rfl #[Value.slice A5 ns.length c5, .int .i64 root] [(0, .agg #[.slice A5 ns.length c5, .int .i64 root])] ?_ ?_ ?_); exact hbt.out _ _; rfl)
          | (with_reducible refine wpList_alloc_row rfl 77 rfl zTrC zInfoTrie ?_)
          | ((with_reducible refine wpList_store_row rfl 77 (.tmp 9) (.tmp 31) rfl _ _ rfl rfl 77 zTrC ?_ ?_ ?_ ?_ ?_); exact e5.out; exact sizeTrie; rfl; exact one_trP A5 ns.length c5 root; intro w6 hg6 hb6 hs6; have X6 := hid (xnewP rfl hb6); have g6 := hid hg6; have k6 := hid (rangeBel2 X6.out k5.out); have c2 := block_cell g6.out 1; simp only [List.getElem?_toArray, List.getElem?_cons_zero, List.getElem?_cons_succ] at c2; clear hg6 hb6 hs6)
          | ((with_reducible refine wpList_load_rng rfl 35 (.tmp 3) rfl (w.heap.size + 1) 0 rfl dk _ ?_ hu rfl hi.out ?_); exact k6.out))
        have z6 := hid ((X6.out.block _ (block_lt z5.out)).trans z5.out)
        have W6 := hid (W5.out.trans (X6.out.mono W5.out.size))
        have lt6 := hid (block_lt g6.out)
        clear k5 z5 e5 hTw hFu hC
        generalize hgg : w5.heap.size = g at *
        replace hgg := hid hgg
        obtain ⟨G, T7, hGF⟩ := trie_new (g := g) (w := w5) (w1 := w6) (w2 := w6) (G := fun _ => False) o5.out (by rw [hgg.out]; exact s5.out) (by rw [hgg.out]; exact X6.out) g6.out (by rw [hgg.out]; exact Nat.le_refl _) (Below.refl _ _) (fun b hb => hb.elim)
        refine (hput.out g _ G _ T7 (by have := T7.lt; omega)).mono ?_
        rintro r w8 ⟨rfl, T8, S8, B8⟩
        dsimp only at T8
        obtain ⟨A8, c8, h8, out8⟩ := T8.out_
        have f8 := block_frozen h8 1
        have d8 := block_cell h8 1
        have d80 := block_cell h8 0
        simp only [List.getElem?_toArray, List.getElem?_cons_zero, List.getElem?_cons_succ] at d8 d80
        replace h8 := hid h8
        replace out8 := hid out8
        replace B8 := hid B8
        have lt8 := hid T8.lt
        clear T8 S8 T7 hGF c2
        have g9 := hid (block_set h8.out 1 (.int .i64 M))
        rw [show (#[Value.slice A8 ns'.length c8, .int .i64 root] : Array Value).setIfInBounds 1 (.int .i64 M) = #[.slice A8 ns'.length c8, .int .i64 M] from rfl] at g9
        have W8 := hid (W6.out.trans (B8.out.mono (by have := W6.out.size; have := lt4.out; omega)))
        have z8 := hid ((B8.out.block (w.heap.size + 1 + 1) lt4.out).trans z6.out)
        have z9 := hid ((Below.heap_setCell w8 ⟨g, 1, none⟩ (.int .i64 M) (w.heap.size + 1 + 1) (by have := lt4.out; have := lt8.out.2; show w.heap.size + 1 + 1 ≠ g; omega)).trans z8.out)
        have W9 := hid (W8.out.setCell (p := ⟨g, 1, none⟩) (by have := lt8.out.2; have := lt4.out; show w.heap.size ≤ g; omega) (.int .i64 M))
        have hi9 := hid (show (Tryd.prog.info? 31).map (·.size) = some ([Value.slice A8 ns'.length c8, .int .i64 M]).length from sizeTr)
        have r9 := hid (rangeOf (l := [Value.slice A8 ns'.length c8, .int .i64 M]) g9.out)
        go_wp2_with (first
          | ((with_reducible refine wpList_load_rng rfl 31 (.tmp 39) rfl g 0 rfl [Value.slice A8 ns'.length c8, .int .i64 M] _ ?_ hut rfl hi9.out ?_); exact r9.out)
          | ((with_reducible refine wpList_store_row rfl 31 (.tmp 4) (.tmp 40) rfl (w.heap.size + 1 + 1) _ rfl rfl 31 zTrC ?_ ?_ ?_ ?_ ?_); exact z9.out; exact sizeTr; rfl; exact one_trP A8 ns'.length c8 M; intro w10 hg9 hb9 hs9))
        refine bodyPost_ret (res_tr2 Tryd.results22 _ _ (w.heap.size + 1 + 1) A8 ns'.length c8 M rfl hg9) rfl ⟨A8, c8, rfl, ?_, W9.out.grown hb9 W9.out.size (fun g e => by injection e with e; omega)⟩
        exact OwnR.base (out8.out w10 (fun b hb1 hb2 hb3 => (hb9.block b (by rw [show (w8.setCell ⟨g, 1, none⟩ (.int .i64 M)).heap.size = w8.heap.size by simp [World.setCell]]; exact hb2) (fun e => by injection e with e; have := lt4.out; omega)).trans (Below.heap_setCell _ _ _ b hb3))) (by have := lt4.out; omega)
end Go.Proofs.YtcifncmfjlbhjaaDoor
