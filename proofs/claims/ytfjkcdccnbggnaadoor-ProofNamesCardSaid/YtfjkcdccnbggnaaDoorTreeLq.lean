/-
  Contracts of the landed package tree: Put.
-/
import Derived.Test.YtfjkcdccnbggnaaDoorTreeLp
namespace Go.Proofs.YtfjkcdccnbggnaaDoor
open Go.RowKit
set_option linter.unusedVariables false
set_option linter.unusedSimpArgs false
set_option maxRecDepth 100000

theorem boxesPut (w : World) (A : Option Addr) (n c : Nat) (root : Int) (b : Dg) :
    BoxT (((w.alloc (.cells #[.slice A n c, .int .i64 root] 44)).alloc (.cells (b.1.map bv).toArray 23)).alloc (.cells zTrC 44)) w.heap.size A n c root ∧
    (((w.alloc (.cells #[.slice A n c, .int .i64 root] 44)).alloc (.cells (b.1.map bv).toArray 23)).alloc (.cells zTrC 44)).rangeAt (w.heap.size + 1) 0 (b.1.map bv) ∧
    (((w.alloc (.cells #[.slice A n c, .int .i64 root] 44)).alloc (.cells (b.1.map bv).toArray 23)).alloc (.cells zTrC 44)).heap[w.heap.size + 1 + 1]? = some (.cells zTrC 44) ∧
    Below w.heap.size w (((w.alloc (.cells #[.slice A n c, .int .i64 root] 44)).alloc (.cells (b.1.map bv).toArray 23)).alloc (.cells zTrC 44)) := by
  obtain ⟨h1, h2, h3⟩ := boxesTDp w A n c root b 44 23
  have h4 := heap_alloc_new ((w.alloc (.cells #[.slice A n c, .int .i64 root] 44)).alloc (.cells (b.1.map bv).toArray 23)) (.cells zTrC 44)
  simp only [World.size_alloc] at h4
  exact ⟨h1.bel (ext_alloc _ _), rangeBel2 (ext_alloc _ _) h2, h4, ext_trans h3 (ext_alloc _ _)⟩
theorem zInfoTrie : (Tryd.prog.info? 86).map (fun i => (i.zero, i.size)) = some (some (.agg zTrC), zTrC.size) := by kernel_rfl
theorem tput_no {t : Tr} {k : Dg} {v : List UInt8} (h : ¬ tputE t v = 0) : tputT t k v = ⟨[], 0⟩ := by unfold tputT; rw [if_neg h]
theorem i64_0 : I64 0 := ⟨by decide, by decide⟩
theorem I64.len {n : Nat} (h : n ≤ 1000000) : I64 (n : Int) := ⟨by omega, by omega⟩

set_option maxHeartbeats 4000000 in
theorem PTPut_any (F : Nat → Prop) (A V : Option Addr) (c d : Nat) (ns : List Nd) (root : Int) (k : Dg) (v : List UInt8) (w : World) (hr : Row F w A ns) (hc : ns.length ≤ 1000000) (hrv : Rd w V v) (hvd : v.length ≤ d) (hdm : d ≤ maxLen) :
    Calls Tryd.prog 20 #[.agg #[.slice A ns.length c, .int .i64 root], .agg (k.1.map bv).toArray, .slice V v.length d] w fun e w' => ∃ A' c', e = .returned (.tuple #[.agg #[.slice A' (tputT ⟨ns, root⟩ k v).ns.length c', .int .i64 (tputT ⟨ns, root⟩ k v).root], .int .i64 (tputE ⟨ns, root⟩ v)]) ∧ OwnR 50 w' w.heap.size A' c' (tputT ⟨ns, root⟩ k v).ns ∧ Below w.heap.size w w' := by
  obtain ⟨hb0, hk0, hz0, W0⟩ := boxesPut w A ns.length c root k
  have hr0 := hr.bel W0
  have hv0 := hid (hrv.bel W0)
  have hu := Tryd.underlying23
  have hut := Tryd.underlying44
  have hiT := hid (show (Tryd.prog.info? 44).map (·.size) = some ([Value.slice A ns.length c, .int .i64 root]).length from sizeTr)
  have hi := hid (sizeDgT k)
  have hb0t := hid built_tr0
  obtain ⟨m, hm⟩ : ∃ m, mayT ⟨ns, root⟩ = m := ⟨_, rfl⟩
  have hC := hid (fun W hW => PTCheck_is F A c ns root m W hW (by omega) hm)
  obtain ⟨vb, hvb⟩ : ∃ vb, valB v = vb := ⟨_, rfl⟩
  have hV := hid (fun W hW => PTIsValue_is v V d vb W hW hvd hdm hvb)
  have hFu := hid (fun W => PTIsFull_any A ns.length c root W)
  replace hz0 := hid hz0
  cases m with
  | false =>
    have hE : tputE ⟨ns, root⟩ v = 8 := by unfold tputE; rw [hm]; rfl
    rw [tput_no (by rw [hE]; decide), hE]
    generalize k.1.map bv = dk at *
    clear hm hvb
    go_enter Tryd.func20, Tryd.ntmps20
    go_wp2_with (first
      | (with_reducible refine wpList_alloc_row rfl 44 rfl zTrC zInfoTr ?_)
      | ((with_reducible refine wpList_load_rng rfl 44 (.tmp 3) rfl w.heap.size 0 rfl [Value.slice A ns.length c, .int .i64 root] _ ?_ hut rfl hiT.out ?_); exact hb0.all))
    generalize ((w.alloc (.cells #[.slice A ns.length c, .int .i64 root] 44)).alloc (.cells dk.toArray 23)).alloc (.cells zTrC 44) = w0 at *
    refine (hC.out _ hr0).mono ?_
    rintro e w1 ⟨rfl, hb⟩
    have z1 := hid ((hb.block _ (block_lt hz0.out)).trans hz0.out)
    have W1 := hid (W0.trans (hb.mono W0.size))
    go_wp2_with (first
      | ((with_reducible refine wpList_built rfl 44 _ rfl zTrC [] ?_ ?_ ?_); exact hb0t.out; rfl)
      | ((with_reducible refine wpList_store_row rfl 44 (.tmp 6) (.tmp 14) rfl (w.heap.size + 1 + 1) _ rfl rfl 44 zTrC ?_ ?_ ?_ ?_ ?_); exact z1.out; exact sizeTr; rfl; exact one_zTr; intro w9 hg9 hb9 hs9))
    exact bodyPost_ret (res_tr2 Tryd.results20 _ _ (w.heap.size + 1 + 1) none 0 0 0 rfl hg9) rfl ⟨none, 0, rfl, OwnR.nil _ _, W1.out.grown hb9 W1.out.size (fun g e => by injection e with e; omega)⟩
  | true =>
    cases vb with
    | false =>
      have hE : tputE ⟨ns, root⟩ v = 8 := by unfold tputE; rw [hm, hvb]; rfl
      rw [tput_no (by rw [hE]; decide), hE]
      generalize k.1.map bv = dk at *
      clear hm hvb
      go_enter Tryd.func20, Tryd.ntmps20
      go_wp2_with (first
        | (with_reducible refine wpList_alloc_row rfl 44 rfl zTrC zInfoTr ?_)
        | ((with_reducible refine wpList_load_rng rfl 44 (.tmp 3) rfl w.heap.size 0 rfl [Value.slice A ns.length c, .int .i64 root] _ ?_ hut rfl hiT.out ?_); exact hb0.all))
      generalize ((w.alloc (.cells #[.slice A ns.length c, .int .i64 root] 44)).alloc (.cells dk.toArray 23)).alloc (.cells zTrC 44) = w0 at *
      refine (hC.out _ hr0).mono ?_
      rintro e w1 ⟨rfl, hb⟩
      have z1 := hid ((hb.block _ (block_lt hz0.out)).trans hz0.out)
      have v1 := hid (hv0.out.bel hb)
      have W1 := hid (W0.trans (hb.mono W0.size))
      clear hb
      go_wp2_with fail
      refine (hV.out _ v1.out).mono ?_
      rintro e w2 ⟨rfl, hb⟩
      have z2 := hid ((hb.block _ (block_lt z1.out)).trans z1.out)
      have W2 := hid (W1.out.trans (hb.mono W1.out.size))
      go_wp2_with (first
        | ((with_reducible refine wpList_built rfl 44 _ rfl zTrC [] ?_ ?_ ?_); exact hb0t.out; rfl)
        | ((with_reducible refine wpList_store_row rfl 44 (.tmp 6) (.tmp 19) rfl (w.heap.size + 1 + 1) _ rfl rfl 44 zTrC ?_ ?_ ?_ ?_ ?_); exact z2.out; exact sizeTr; rfl; exact one_zTr; intro w9 hg9 hb9 hs9))
      exact bodyPost_ret (res_tr2 Tryd.results20 _ _ (w.heap.size + 1 + 1) none 0 0 0 rfl hg9) rfl ⟨none, 0, rfl, OwnR.nil _ _, W2.out.grown hb9 W2.out.size (fun g e => by injection e with e; omega)⟩
    | true =>
      by_cases hfull : 261844 < ns.length
      · have hE : tputE ⟨ns, root⟩ v = 9 := by unfold tputE; rw [hm, hvb]; dsimp only; rw [if_pos rfl, if_pos rfl, if_pos hfull]
        rw [tput_no (by rw [hE]; decide), hE]
        have hfd := decide_eq_true hfull
        rw [hfd] at hFu
        generalize k.1.map bv = dk at *
        clear hm hvb hfd
        go_enter Tryd.func20, Tryd.ntmps20
        go_wp2_with (first
          | (with_reducible refine wpList_alloc_row rfl 44 rfl zTrC zInfoTr ?_)
          | ((with_reducible refine wpList_load_rng rfl 44 (.tmp 3) rfl w.heap.size 0 rfl [Value.slice A ns.length c, .int .i64 root] _ ?_ hut rfl hiT.out ?_); exact hb0.all))
        generalize ((w.alloc (.cells #[.slice A ns.length c, .int .i64 root] 44)).alloc (.cells dk.toArray 23)).alloc (.cells zTrC 44) = w0 at *
        refine (hC.out _ hr0).mono ?_
        rintro e w1 ⟨rfl, hb⟩
        have z1 := hid ((hb.block _ (block_lt hz0.out)).trans hz0.out)
        have v1 := hid (hv0.out.bel hb)
        have t1 := hid (hb0.bel hb)
        have W1 := hid (W0.trans (hb.mono W0.size))
        clear hb
        go_wp2_with fail
        refine (hV.out _ v1.out).mono ?_
        rintro e w2 ⟨rfl, hb⟩
        have z2 := hid ((hb.block _ (block_lt z1.out)).trans z1.out)
        have t2 := hid (t1.out.bel hb)
        have W2 := hid (W1.out.trans (hb.mono W1.out.size))
        clear hb
        go_wp2_with (first
          | ((with_reducible refine wpList_load_rng rfl 44 (.tmp 3) rfl w.heap.size 0 rfl [Value.slice A ns.length c, .int .i64 root] _ ?_ hut rfl hiT.out ?_); exact t2.out.all))
        refine (hFu.out _).mono ?_
        rintro e w3 ⟨rfl, hb⟩
        have z3 := hid ((hb.block _ (block_lt z2.out)).trans z2.out)
        have W3 := hid (W2.out.trans (hb.mono W2.out.size))
        go_wp2_with (first
          | ((with_reducible refine wpList_built rfl 44 _ rfl zTrC [] ?_ ?_ ?_); exact hb0t.out; rfl)
          | ((with_reducible refine wpList_store_row rfl 44 (.tmp 6) (.tmp 22) rfl (w.heap.size + 1 + 1) _ rfl rfl 44 zTrC ?_ ?_ ?_ ?_ ?_); exact z3.out; exact sizeTr; rfl; exact one_zTr; intro w9 hg9 hb9 hs9))
        exact bodyPost_ret (res_tr2 Tryd.results20 _ _ (w.heap.size + 1 + 1) none 0 0 0 rfl hg9) rfl ⟨none, 0, rfl, OwnR.nil _ _, W3.out.grown hb9 W3.out.size (fun g e => by injection e with e; omega)⟩
      · have hE : tputE ⟨ns, root⟩ v = 0 := by unfold tputE; rw [hm, hvb]; dsimp only; rw [if_pos rfl, if_pos rfl, if_neg hfull]
        have hTr : tputT ⟨ns, root⟩ k v = ⟨(putN ns k v 256 root).1, (putN ns k v 256 root).2⟩ := by unfold tputT; rw [if_pos hE]
        have hlen := (tputT_spec (k := k) hE).1
        rw [hTr, hE]
        rw [hTr] at hlen
        have hfd : decide (261844 < ns.length) = false := decide_eq_false hfull
        rw [hfd] at hFu
        obtain ⟨-, m1, m2, ho, m3⟩ := mayT_iff.1 hm
        dsimp only at m1 m2 ho m3 hlen
        have hTw := hid (fun W hW => PTTwin_any F A c ns root W hW hc (fun x hx => Nat.le_trans (may_vals hm x hx) (by decide)))
        have hPG := pg_root k hm
        have hput := hid (fun (g B0 : Nat) (G : Nat → Prop) (AV : Option Addr) (cV : Nat) (W : World) T h1 h2 => (show Calls Tryd.prog 52 #[.pointer (some ⟨g, 0, none⟩), .int .i64 root, .int .i64 0, .agg (ndC (leafN k v) AV cV).toArray] W (PutPost g B0 G G root W (putN ns k v 256 root)) from
          PTput_any g B0 G k v AV cV ns root ho hvb (by omega) 256 0 root W G rfl hPG T h1 h2 (fun b hb => hb)))
        have hbl := hid (fun A c => built_leaf k v A c)
        have hbt := hid (fun A c => built_trie A ns.length c root)
        have hv64 : v.length ≤ 64 := by unfold valB at hvb; simp at hvb; omega
        obtain ⟨rp, hrp⟩ : ∃ rp, putN ns k v 256 root = rp := ⟨_, rfl⟩
        rw [hrp] at hput hlen ⊢
        obtain ⟨ns', M⟩ := rp
        dsimp only at hput hlen ⊢
        have hrepL := hid (fun (E : TypeId) (W : World) (B : Nat) (A2 : Option Addr) (c2 : Nat) (h : Own E W B A2 c2 v) => rep_nd_ownP (leafN k v) h i64_0 i64_0)
        generalize hdk : k.1.map bv = dk at *
        clear hm hvb hrp hTr hE m1 m2 m3 hPG ho hfd hlen
        go_enter Tryd.func20, Tryd.ntmps20
        go_wp2_with (first
          | (with_reducible refine wpList_alloc_row rfl 44 rfl zTrC zInfoTr ?_)
          | ((with_reducible refine wpList_load_rng rfl 44 (.tmp 3) rfl w.heap.size 0 rfl [Value.slice A ns.length c, .int .i64 root] _ ?_ hut rfl hiT.out ?_); exact hb0.all))
        generalize ((w.alloc (.cells #[.slice A ns.length c, .int .i64 root] 44)).alloc (.cells dk.toArray 23)).alloc (.cells zTrC 44) = w0 at *
        refine (hC.out _ hr0).mono ?_
        rintro e w1 ⟨rfl, hb⟩
        have z1 := hid ((hb.block _ (block_lt hz0.out)).trans hz0.out)
        have v1 := hid (hv0.out.bel hb)
        have t1 := hid (hb0.bel hb)
        have r1 := hid (hr0.bel hb)
        have k1 := hid (rangeBel2 hb hk0)
        have W1 := hid (W0.trans (hb.mono W0.size))
        clear hb hb0 hr0 hk0 hv0 hz0 W0
        go_wp2_with fail
        refine (hV.out _ v1.out).mono ?_
        rintro e w2 ⟨rfl, hb⟩
        have z2 := hid ((hb.block _ (block_lt z1.out)).trans z1.out)
        have v2 := hid (v1.out.bel hb)
        have t2 := hid (t1.out.bel hb)
        have r2 := hid (r1.out.bel hb)
        have k2 := hid (rangeBel2 hb k1.out)
        have W2 := hid (W1.out.trans (hb.mono W1.out.size))
        clear hb z1 v1 t1 r1 k1 W1
        go_wp2_with (first
          | ((with_reducible refine wpList_load_rng rfl 44 (.tmp 3) rfl w.heap.size 0 rfl [Value.slice A ns.length c, .int .i64 root] _ ?_ hut rfl hiT.out ?_); exact t2.out.all))
        refine (hFu.out _).mono ?_
        rintro e w3 ⟨rfl, hb⟩
        have z3 := hid ((hb.block _ (block_lt z2.out)).trans z2.out)
        have v3 := hid (v2.out.bel hb)
        have t3 := hid (t2.out.bel hb)
        have r3 := hid (r2.out.bel hb)
        have k3 := hid (rangeBel2 hb k2.out)
        have W3 := hid (W2.out.trans (hb.mono W2.out.size))
        clear hb z2 v2 t2 r2 k2 W2
        go_wp2_with (first
          | ((with_reducible refine wpList_load_rng rfl 44 (.tmp 3) rfl w.heap.size 0 rfl [Value.slice A ns.length c, .int .i64 root] _ ?_ hut rfl hiT.out ?_); exact t3.out.all))
        refine (hTw.out _ r3.out).mono ?_
        rintro e w5 ⟨A5, c5, rfl, ho5, hb⟩
        have z5 := hid ((hb.block _ (block_lt z3.out)).trans z3.out)
        have v5 := hid (v3.out.bel hb)
        have k5 := hid (rangeBel2 hb k3.out)
        have W5 := hid (W3.out.trans (hb.mono W3.out.size))
        have o5 := hid ho5
        have s5 := hid hb.size
        have lt3 := hid (block_lt z3.out)
        have e5 := hid (heap_alloc_new w5 (.cells zTrC 86))
        clear hb z3 v3 t3 r3 k3 ho5
        go_wp2_with (first
          | ((with_reducible refine wpList_built rfl 86 _ rfl #[Value.slice A5 ns.length c5, .int .i64 root] [(0, .agg #[.slice A5 ns.length c5, .int .i64 root])] ?_ ?_ ?_); exact hbt.out _ _; rfl)
          | (with_reducible refine wpList_alloc_row rfl 86 rfl zTrC zInfoTrie ?_)
          | ((with_reducible refine wpList_store_row rfl 86 (.tmp 9) (.tmp 25) rfl _ _ rfl rfl 86 zTrC ?_ ?_ ?_ ?_ ?_); exact e5.out; exact sizeTrie; rfl; exact one_trP A5 ns.length c5 root; intro w6 hg6 hb6 hs6; have X6 := hid (xnewP rfl hb6); have g6 := hid hg6; clear hg6 hb6 hs6))
        have k6 := hid (rangeBel2 X6.out k5.out)
        have z6 := hid ((X6.out.block _ (block_lt z5.out)).trans z5.out)
        have v6 := hid (v5.out.bel X6.out)
        have W6 := hid (W5.out.trans (X6.out.mono W5.out.size))
        have c2 := block_cell g6.out 1
        simp only [List.getElem?_toArray, List.getElem?_cons_zero, List.getElem?_cons_succ] at c2
        have lt6 := hid (block_lt g6.out)
        have hB0 := hid (Nat.le_trans (Nat.le_trans s5.out X6.out.size) (Nat.le_refl _))
        clear k5 z5 v5 e5 hTw hFu hV hC
        generalize hgg : w5.heap.size = g at *
        have hgg := hid hgg
        refine wp_region_noPanic ?_
        refine wp_region_held_drew (S := fun w' => w'.rangeAt (w.heap.size + 1) 0 dk) (by kernel_rfl) ?_ (fun hHeld => ?_)
        · exact k6.out
        refine' wpAnyH_take (i := 0) (oi := _) (v := ?_) rfl (by kernel_rfl) (by kernel_rfl) (by kernel_rfl) (fun _ _ _ h => h) (Or.inl ⟨by rfl, ?_⟩) (by assumption) ?_
        rotate_left
        · intro W hSw
          go_simp
          first | done | (with_reducible rfl)
        try simp only [Act.put, sQa, sQb, sQc, gQa, gQb, gQc]
        refine' wpAnyH_take (i := 1) (oi := _) (v := ?_) rfl (by kernel_rfl) (by kernel_rfl) (by kernel_rfl) (fun _ _ _ h => h) (Or.inl ⟨by rfl, ?_⟩) (by assumption) ?_
        rotate_left
        · intro W hSw
          go_simp
          first | done | (with_reducible rfl)
        try simp only [Act.put, sQa, sQb, sQc, gQa, gQb, gQc]
        refine' wpAnyH_take (i := 3) (oi := _) (v := _) rfl (by kernel_rfl) (by kernel_rfl) (by kernel_rfl) (fun _ _ _ h => h) (yieldsIf_load_mid (by rfl) _ _ rfl _ _ rfl _ _ (fun _ h => h) hu rfl hi.out) (by assumption) ?_
        try simp only [Act.put, sQa, sQb, sQc, gQa, gQb, gQc]
        refine' wpAnyH_take (i := 4) (oi := _) (v := ?_) rfl (by kernel_rfl) (by kernel_rfl) (by kernel_rfl) (fun _ _ _ h => h) (Or.inl ⟨by rfl, ?_⟩) (by assumption) ?_
        rotate_left
        · intro W hSw
          go_simp
          first | done | (with_reducible rfl)
        try simp only [Act.put, sQa, sQb, sQc, gQa, gQb, gQc]
        refine wpAnyH_ready (rs := [2, 5]) (by kernel_rfl) (by simp) ?_
        refine AllReadyH.cons (o := _) rfl (fun K hK => ?_) ?_
        · skip
          go_simp
          refine hK.out _ _ ?_ (fun hHeld => ?_)
          · exact hHeld
          clear hK K
          try simp only [Act.put, sQa, sQb, sQc, gQa, gQb, gQc]
          refine wpAnyH_ready (rs := [5]) (by kernel_rfl) (by simp) ?_
          refine AllReadyH.cons (o := _) rfl (fun K hK => ?_) AllReadyH.nil
          go_simp
          refine (Clone_any V v.length d v _ (v6.out.bel (bel_drew w6)) rfl (by omega)).mono ?_
          rintro e7 w7 ⟨A7, c7, rfl, ho7, hB⟩
          try replace c2 := (hB.cell (p := ⟨g, 1, none⟩) lt6.out).trans c2
          have o7 := hid ho7
          have B7 := hid (undrew hB)
          go_wp2_with fail
          refine hK.out _ _ ?_ (fun hHeld => ?_)
          · exact rangeBel2 hB hHeld
          clear hK K
          try simp only [Act.put, sQa, sQb, sQc, gQa, gQb, gQc]
          refine' wpAnyH_take (i := 6) (oi := _) (v := _) rfl (by kernel_rfl) (by kernel_rfl) (by kernel_rfl) (fun _ _ _ h => h) (yieldsIf_build (by rfl) _ _ rfl _ _ (hbl.out A7 c7) rfl) (by assumption) ?_
          try simp only [Act.put, sQa, sQb, sQc, gQa, gQb, gQc]
          refine wpAnyH_ready (rs := [7]) (by kernel_rfl) (by simp) ?_
          refine AllReadyH.cons (o := _) rfl (fun K hK => ?_) AllReadyH.nil
          go_simp
          obtain ⟨G, T7, hGF⟩ := trie_new (g := g) (w := w5) (w1 := w6) (G := fun b => ∃ a, A7 = some a ∧ b = a.block) o5.out (by rw [hgg.out]; exact s5.out) (by rw [hgg.out]; exact X6.out) g6.out (by rw [hgg.out]; exact Nat.le_refl _) B7.out (fun b hb => by obtain ⟨a, ha, rfl⟩ := hb; exact ⟨(o7.out.blk a ha).1, (o7.out.soft a ha).2⟩)
          refine (hput.out g _ G A7 c7 _ T7 (by have := T7.lt; omega) (Enc.mono (hrepL.out _ _ _ A7 c7 o7.out) (fun b hb _ => hGF b hb))).mono ?_
          rintro r w8 ⟨rfl, T8, S8, B8⟩
          dsimp only at T8
          obtain ⟨A8, c8, h8, out8⟩ := T8.out_
          have f8 := block_frozen h8 1
          have d8 := block_cell h8 1
          simp only [List.getElem?_toArray, List.getElem?_cons_zero, List.getElem?_cons_succ] at d8
          replace h8 := hid h8
          replace out8 := hid out8
          replace B8 := hid B8
          have lt8 := hid T8.lt
          clear T8 S8 T7
          go_wp2_with fail
          refine hK.out _ _ ?_ (fun hHeld => ?_)
          · exact rangeAt_kept hHeld (fun _ => B8.out.block _ (by have := lt3.out; omega))
          clear hK K
          try simp only [Act.put, sQa, sQb, sQc, gQa, gQb, gQc]
          refine' wpAnyH_take (i := 8) (oi := _) (v := ?_) rfl (by kernel_rfl) (by kernel_rfl) (by kernel_rfl) (fun _ _ _ h => h) (Or.inl ⟨by rfl, ?_⟩) (by assumption) ?_
          rotate_left
          · intro W hSw
            go_simp
            first | done | (with_reducible rfl)
          try simp only [Act.put, sQa, sQb, sQc, gQa, gQb, gQc]
          refine' wpAnyH_take (i := 9) (oi := _) (v := ?_) rfl (by kernel_rfl) (by kernel_rfl) (by kernel_rfl) (fun _ _ _ h => h) (Or.inl ⟨by rfl, ?_⟩) (by assumption) ?_
          rotate_left
          · intro W hSw
            go_simp
            first | done | (with_reducible rfl)
          try simp only [Act.put, sQa, sQb, sQc, gQa, gQb, gQc]
          refine wpAnyH_ready (rs := [10]) (by kernel_rfl) (by simp) ?_
          refine AllReadyH.cons (o := _) rfl (fun K hK => ?_) AllReadyH.nil
          go_simp
          refine hK.out _ _ ?_ (fun hHeld => ?_)
          · exact rangeAt_kept hHeld (fun _ => Below.heap_setCell _ _ _ _ (by have := lt3.out; have := lt8.out.2; show w.heap.size + 1 ≠ g; omega))
          clear hK K
          try simp only [Act.put, sQa, sQb, sQc, gQa, gQb, gQc]
          refine wpAnyH_done (by kernel_rfl) ?_ _
          refine NoPanic.normal ?_
          have g9 := hid (block_set h8.out 1 (.int .i64 M))
          rw [show (#[Value.slice A8 ns'.length c8, .int .i64 root] : Array Value).setIfInBounds 1 (.int .i64 M) = #[.slice A8 ns'.length c8, .int .i64 M] from rfl] at g9
          have W8 := hid ((W6.out.trans (B7.out.mono W6.out.size)).trans (B8.out.mono (by have := W6.out.size; have := lt3.out; omega)))
          have z8 := hid ((B8.out.block (w.heap.size + 1 + 1) lt3.out).trans ((B7.out.block _ (block_lt z6.out)).trans z6.out))
          have z9 := hid ((Below.heap_setCell w8 ⟨g, 1, none⟩ (.int .i64 M) (w.heap.size + 1 + 1) (by have := lt3.out; have := lt8.out.2; show w.heap.size + 1 + 1 ≠ g; omega)).trans z8.out)
          have W9 := hid (W8.out.setCell (p := ⟨g, 1, none⟩) (by have := lt8.out.2; have := lt3.out; show w.heap.size ≤ g; omega) (.int .i64 M))
          have hi9 := hid (show (Tryd.prog.info? 44).map (·.size) = some ([Value.slice A8 ns'.length c8, .int .i64 M]).length from sizeTr)
          have r9 := hid (rangeOf (l := [Value.slice A8 ns'.length c8, .int .i64 M]) g9.out)
          go_wp2_with (first
            | ((with_reducible refine wpList_load_rng rfl 44 (.tmp 36) rfl g 0 rfl [Value.slice A8 ns'.length c8, .int .i64 M] _ ?_ hut rfl hi9.out ?_); exact r9.out)
            | ((with_reducible refine wpList_store_row rfl 44 (.tmp 6) (.tmp 37) rfl (w.heap.size + 1 + 1) _ rfl rfl 44 zTrC ?_ ?_ ?_ ?_ ?_); exact z9.out; exact sizeTr; rfl; exact one_trP A8 ns'.length c8 M; intro w10 hg9 hb9 hs9))
          refine bodyPost_ret (res_tr2 Tryd.results20 _ _ (w.heap.size + 1 + 1) A8 ns'.length c8 M rfl hg9) rfl ⟨A8, c8, rfl, ?_, W9.out.grown hb9 W9.out.size (fun g e => by injection e with e; omega)⟩
          exact OwnR.base (out8.out w10 (fun b hb1 hb2 hb3 => (hb9.block b (by rw [show (w8.setCell ⟨g, 1, none⟩ (.int .i64 M)).heap.size = w8.heap.size by simp [World.setCell]]; exact hb2) (fun e => by injection e with e; have := lt3.out; omega)).trans (Below.heap_setCell _ _ _ b hb3))) (by have := lt3.out; omega)
        refine AllReadyH.cons (o := _) rfl (fun K hK => ?_) ?_
        · skip
          go_simp
          refine (Clone_any V v.length d v _ (v6.out.bel (bel_drew w6)) rfl (by omega)).mono ?_
          rintro e7 w7 ⟨A7, c7, rfl, ho7, hB⟩
          try replace c2 := (hB.cell (p := ⟨g, 1, none⟩) lt6.out).trans c2
          have o7 := hid ho7
          have B7 := hid (undrew hB)
          go_wp2_with fail
          refine hK.out _ _ ?_ (fun hHeld => ?_)
          · exact rangeBel2 hB hHeld
          clear hK K
          try simp only [Act.put, sQa, sQb, sQc, gQa, gQb, gQc]
          refine' wpAnyH_take (i := 6) (oi := _) (v := _) rfl (by kernel_rfl) (by kernel_rfl) (by kernel_rfl) (fun _ _ _ h => h) (yieldsIf_build (by rfl) _ _ rfl _ _ (hbl.out A7 c7) rfl) (by assumption) ?_
          try simp only [Act.put, sQa, sQb, sQc, gQa, gQb, gQc]
          refine wpAnyH_ready (rs := [2]) (by kernel_rfl) (by simp) ?_
          refine AllReadyH.cons (o := _) rfl (fun K hK => ?_) AllReadyH.nil
          go_simp
          refine hK.out _ _ ?_ (fun hHeld => ?_)
          · exact hHeld
          clear hK K
          try simp only [Act.put, sQa, sQb, sQc, gQa, gQb, gQc]
          refine wpAnyH_ready (rs := [7]) (by kernel_rfl) (by simp) ?_
          refine AllReadyH.cons (o := _) rfl (fun K hK => ?_) AllReadyH.nil
          go_simp
          obtain ⟨G, T7, hGF⟩ := trie_new (g := g) (w := w5) (w1 := w6) (G := fun b => ∃ a, A7 = some a ∧ b = a.block) o5.out (by rw [hgg.out]; exact s5.out) (by rw [hgg.out]; exact X6.out) g6.out (by rw [hgg.out]; exact Nat.le_refl _) B7.out (fun b hb => by obtain ⟨a, ha, rfl⟩ := hb; exact ⟨(o7.out.blk a ha).1, (o7.out.soft a ha).2⟩)
          refine (hput.out g _ G A7 c7 _ T7 (by have := T7.lt; omega) (Enc.mono (hrepL.out _ _ _ A7 c7 o7.out) (fun b hb _ => hGF b hb))).mono ?_
          rintro r w8 ⟨rfl, T8, S8, B8⟩
          dsimp only at T8
          obtain ⟨A8, c8, h8, out8⟩ := T8.out_
          have f8 := block_frozen h8 1
          have d8 := block_cell h8 1
          simp only [List.getElem?_toArray, List.getElem?_cons_zero, List.getElem?_cons_succ] at d8
          replace h8 := hid h8
          replace out8 := hid out8
          replace B8 := hid B8
          have lt8 := hid T8.lt
          clear T8 S8 T7
          go_wp2_with fail
          refine hK.out _ _ ?_ (fun hHeld => ?_)
          · exact rangeAt_kept hHeld (fun _ => B8.out.block _ (by have := lt3.out; omega))
          clear hK K
          try simp only [Act.put, sQa, sQb, sQc, gQa, gQb, gQc]
          refine' wpAnyH_take (i := 8) (oi := _) (v := ?_) rfl (by kernel_rfl) (by kernel_rfl) (by kernel_rfl) (fun _ _ _ h => h) (Or.inl ⟨by rfl, ?_⟩) (by assumption) ?_
          rotate_left
          · intro W hSw
            go_simp
            first | done | (with_reducible rfl)
          try simp only [Act.put, sQa, sQb, sQc, gQa, gQb, gQc]
          refine' wpAnyH_take (i := 9) (oi := _) (v := ?_) rfl (by kernel_rfl) (by kernel_rfl) (by kernel_rfl) (fun _ _ _ h => h) (Or.inl ⟨by rfl, ?_⟩) (by assumption) ?_
          rotate_left
          · intro W hSw
            go_simp
            first | done | (with_reducible rfl)
          try simp only [Act.put, sQa, sQb, sQc, gQa, gQb, gQc]
          refine wpAnyH_ready (rs := [10]) (by kernel_rfl) (by simp) ?_
          refine AllReadyH.cons (o := _) rfl (fun K hK => ?_) AllReadyH.nil
          go_simp
          refine hK.out _ _ ?_ (fun hHeld => ?_)
          · exact rangeAt_kept hHeld (fun _ => Below.heap_setCell _ _ _ _ (by have := lt3.out; have := lt8.out.2; show w.heap.size + 1 ≠ g; omega))
          clear hK K
          try simp only [Act.put, sQa, sQb, sQc, gQa, gQb, gQc]
          refine wpAnyH_done (by kernel_rfl) ?_ _
          refine NoPanic.normal ?_
          have g9 := hid (block_set h8.out 1 (.int .i64 M))
          rw [show (#[Value.slice A8 ns'.length c8, .int .i64 root] : Array Value).setIfInBounds 1 (.int .i64 M) = #[.slice A8 ns'.length c8, .int .i64 M] from rfl] at g9
          have W8 := hid ((W6.out.trans (B7.out.mono W6.out.size)).trans (B8.out.mono (by have := W6.out.size; have := lt3.out; omega)))
          have z8 := hid ((B8.out.block (w.heap.size + 1 + 1) lt3.out).trans ((B7.out.block _ (block_lt z6.out)).trans z6.out))
          have z9 := hid ((Below.heap_setCell w8 ⟨g, 1, none⟩ (.int .i64 M) (w.heap.size + 1 + 1) (by have := lt3.out; have := lt8.out.2; show w.heap.size + 1 + 1 ≠ g; omega)).trans z8.out)
          have W9 := hid (W8.out.setCell (p := ⟨g, 1, none⟩) (by have := lt8.out.2; have := lt3.out; show w.heap.size ≤ g; omega) (.int .i64 M))
          have hi9 := hid (show (Tryd.prog.info? 44).map (·.size) = some ([Value.slice A8 ns'.length c8, .int .i64 M]).length from sizeTr)
          have r9 := hid (rangeOf (l := [Value.slice A8 ns'.length c8, .int .i64 M]) g9.out)
          go_wp2_with (first
            | ((with_reducible refine wpList_load_rng rfl 44 (.tmp 36) rfl g 0 rfl [Value.slice A8 ns'.length c8, .int .i64 M] _ ?_ hut rfl hi9.out ?_); exact r9.out)
            | ((with_reducible refine wpList_store_row rfl 44 (.tmp 6) (.tmp 37) rfl (w.heap.size + 1 + 1) _ rfl rfl 44 zTrC ?_ ?_ ?_ ?_ ?_); exact z9.out; exact sizeTr; rfl; exact one_trP A8 ns'.length c8 M; intro w10 hg9 hb9 hs9))
          refine bodyPost_ret (res_tr2 Tryd.results20 _ _ (w.heap.size + 1 + 1) A8 ns'.length c8 M rfl hg9) rfl ⟨A8, c8, rfl, ?_, W9.out.grown hb9 W9.out.size (fun g e => by injection e with e; omega)⟩
          exact OwnR.base (out8.out w10 (fun b hb1 hb2 hb3 => (hb9.block b (by rw [show (w8.setCell ⟨g, 1, none⟩ (.int .i64 M)).heap.size = w8.heap.size by simp [World.setCell]]; exact hb2) (fun e => by injection e with e; have := lt3.out; omega)).trans (Below.heap_setCell _ _ _ b hb3))) (by have := lt3.out; omega)
        exact AllReadyH.nil
end Go.Proofs.YtfjkcdccnbggnaaDoor
