/-
  Contracts of the landed package tree: find.
-/
import Derived.Test.YtcifncmfjlbhjaaDoorTrB
import Derived.Test.YtcifncmfjlbhjaaDoorTrA
import Derived.Test.YtcifncmfjlbhjaaDoorTrN
namespace Go.Proofs.YtcifncmfjlbhjaaDoor
open Go.RowKit
set_option linter.unusedVariables false
set_option linter.unusedSimpArgs false
set_option maxRecDepth 100000

theorem res_nd2 {fn : Func} {p u : Tmp} (h : fn.results = #[.cell p 80, .tmp u]) (tmps : Array Value) (w : World) (g : Nat) (cs : Array Value) (e1 : tmps.getD p undef = .pointer (some ⟨g, 0, none⟩))
    (hg : w.heap[g]? = some (.cells cs 80 (0, 0))) (hs : cs.size = 36) : (results fn tmps).run Tryd.prog w = .ok (.tuple #[.agg cs, tmps.getD u undef]) w := by
  have h2 := run_loadVar_mid (P := Tryd.prog) w g 0 80 cs.toList _ (rangeOf hg) Tryd.underlying80 rfl (by rw [Array.length_toList, hs]; exact sizeNd)
  have e2 : tmps[p]?.getD undef = .pointer (some ⟨g, 0, none⟩) := by simpa using e1
  simp only [results, h]
  simp [Sem.run_bind, Result.andThen, e2, asAddr, Sem.run_pure, h2]
theorem boxes3T (w : World) (A : Option Addr) (n c : Nat) (root : Int) (b : Dg) (t : TypeId) :
    BoxT (((w.alloc (.cells #[.slice A n c, .int .i64 root] t)).alloc (.cells (b.1.map bv).toArray 35)).alloc (.cells zNdC 80)) w.heap.size A n c root ∧
    (((w.alloc (.cells #[.slice A n c, .int .i64 root] t)).alloc (.cells (b.1.map bv).toArray 35)).alloc (.cells zNdC 80)).rangeAt (w.heap.size + 1) 0 (b.1.map bv) ∧
    (((w.alloc (.cells #[.slice A n c, .int .i64 root] t)).alloc (.cells (b.1.map bv).toArray 35)).alloc (.cells zNdC 80)).heap[w.heap.size + 1 + 1]? = some (.cells zNdC 80) ∧
    Below w.heap.size w (((w.alloc (.cells #[.slice A n c, .int .i64 root] t)).alloc (.cells (b.1.map bv).toArray 35)).alloc (.cells zNdC 80)) := by
  obtain ⟨h1, h2, h3⟩ := boxesTDp w A n c root b t 35
  have h4 := heap_alloc_new ((w.alloc (.cells #[.slice A n c, .int .i64 root] t)).alloc (.cells (b.1.map bv).toArray 35)) (.cells zNdC 80)
  simp only [World.size_alloc] at h4
  exact ⟨h1.bel (ext_alloc _ _), rangeBel2 (ext_alloc _ _) h2, h4, ext_trans h3 (ext_alloc _ _)⟩
/-- The node at which a key's road ends, asked of the trie. -/
theorem end_node (F : Nat → Prop) (A : Option Addr) (c : Nat) (ns : List Nd) (root : Int) (k : Dg) (hc : ns.length ≤ 1000000) (hm : mayT ⟨ns, root⟩ = true) (W : World) (hW : Row F W A ns) : ∃ A' c', Calls Tryd.prog 59 #[.agg #[.slice A ns.length c, .int .i64 root], .int .i64 (wayP ns k 256 root).1] W (fun e w' => e = .returned (.agg (ndC (endN ⟨ns, root⟩ k) A' c').toArray) ∧ Below W.heap.size W w') ∧ Row F W A' (endN ⟨ns, root⟩ k).v := by
  obtain ⟨-, m1, m2, ho, m3⟩ := mayT_iff.1 hm
  dsimp only at m1 m2 ho m3
  obtain ⟨⟨w1, w2, w3⟩, _⟩ := way_spec (k := k) ho 256 root z0 (Nat.le_refl _) m1 m2 m3 zr_z0
  have hendv : endN ⟨ns, root⟩ k = if (wayP ns k 256 root).1 = 0 then nd0 else ndAt ns (wayP ns k 256 root).1 := by unfold endN; rw [hm]; rfl
  rw [hendv]
  by_cases hz : (wayP ns k 256 root).1 = 0
  · rw [if_pos hz, hz]
    exact ⟨none, 0, PNode_zero A ns.length c root W, Row.nil _ _ _⟩
  · rw [if_neg hz]
    obtain ⟨j, hj, hje, hx, _⟩ := ones_at ho (by omega) w2
    rw [hx, hje]
    obtain ⟨q, o, rfl, A', c', hR, _, _, hv3, _⟩ := row_nd hW hj
    exact ⟨A', c', PNode_at q o j ns.length c root ns[j] A' c' W hR hj (by omega), hv3⟩

set_option maxHeartbeats 2000000 in
theorem PFindT_any (F : Nat → Prop) (A : Option Addr) (c : Nat) (ns : List Nd) (root : Int) (k : Dg) (w : World) (hr : Row F w A ns) (hc : ns.length ≤ 1000000) (hm : mayT ⟨ns, root⟩ = true) :
    Calls Tryd.prog 42 #[.agg #[.slice A ns.length c, .int .i64 root], .agg (k.1.map bv).toArray] w fun e w' => ∃ A1 c1, e = .returned (.tuple #[.agg (ndC (endN ⟨ns, root⟩ k) A1 c1).toArray, .bool (hasE (endN ⟨ns, root⟩ k) k)]) ∧ Rd w' A1 (endN ⟨ns, root⟩ k).v ∧ Below w.heap.size w w' := by
  obtain ⟨hb0, hk0, hz0, W0⟩ := boxes3T w A ns.length c root k 77
  have hr0 := (hr.mono (G := fun b => b < w.heap.size) fun b _ h => h).bel W0
  have hu := Tryd.underlying35
  have hutr := Tryd.underlying77
  have hun := Tryd.underlying80
  have hiTr := hid (show (Tryd.prog.info? 77).map (·.size) = some ([Value.slice A ns.length c, .int .i64 root]).length from sizeTrie)
  have hi := hid (sizeDgT k)
  have hRd := fun W hW => PRoadT_any (fun b => b < w.heap.size) A c ns root k W hW hc hm
  have hend := fun W hW => end_node (fun b => b < w.heap.size) A c ns root k hc hm W hW
  generalize (wayP ns k 256 root).2 = os at *
  generalize (wayP ns k 256 root).1 = en at *
  generalize endN ⟨ns, root⟩ k = x at *
  have hiN := fun A2 c2 => hid (show (Tryd.prog.info? 80).map (·.size) = some (ndC x A2 c2).length by rw [len_nd]; exact sizeNd)
  have hiS := fun A2 c2 => hid (show (Tryd.prog.info? 80).map (·.size) = some (ndC x A2 c2).toArray.size by rw [List.size_toArray, len_nd]; exact sizeNd)
  have hzs := fun A2 c2 => hid (show zNdC.size = (ndC x A2 c2).toArray.size by rw [zSizeNd, List.size_toArray, len_nd])
  have hzn := fun A2 c2 => hid (show (ndC x A2 c2).toArray.size = (ndC x A2 c2).toArray.size from rfl)
  have hone := fun A2 c2 => hid (one_nd x A2 c2)
  have hik := hid (sizeDgT x.k)
  have hlN := fun A2 c2 => hid (len_nd x A2 c2)
  obtain ⟨kb, hkb⟩ : ∃ kb, decide (x.k = k) = kb := ⟨_, rfl⟩
  have hE : ∀ W, (Op.equalIn 10000 35 (.agg (x.k.1.map bv).toArray) (.agg (k.1.map bv).toArray)).run Tryd.prog W = .ok kb W := fun W => eqd_is x.k k kb hkb W
  have hans : hasE x k = (x.leaf && kb) := by rw [← hkb]; rfl
  rw [hans]
  replace hz0 := hid hz0
  replace hRd := hid hRd
  replace hend := hid hend
  replace hE := hid hE
  clear hr hm hkb hans
  generalize hdk : k.1.map bv = dk at *
  clear hdk
  go_enter Tryd.func42, Tryd.ntmps42
  go_wp2_with (first
    | (with_reducible refine wpList_alloc_row rfl 80 rfl zNdC zInfoNd ?_)
    | ((with_reducible refine wpList_load_rng rfl 77 (.tmp 2) rfl w.heap.size 0 rfl [Value.slice A ns.length c, .int .i64 root] _ ?_ hutr rfl hiTr.out ?_); exact hb0.all)
    | ((with_reducible refine wpList_load_rng rfl 35 (.tmp 3) rfl (w.heap.size + 1) 0 rfl dk _ ?_ hu rfl hi.out ?_); exact hk0))
  generalize ((w.alloc (.cells #[.slice A ns.length c, .int .i64 root] 77)).alloc (.cells dk.toArray 35)).alloc (.cells zNdC 80) = w0 at *
  refine (hRd.out _ hr0).mono ?_
  rintro e w1 ⟨A5, c5, rfl, ho5, hb⟩
  have T1 := hb0.bel hb
  have k1 := hid (rangeBel2 hb hk0)
  have r1 := hid (hr0.bel hb)
  have z1 := hid ((hb.block _ (block_lt hz0.out)).trans hz0.out)
  have W1 := hid (W0.trans (hb.mono W0.size))
  clear hb0 hk0 hr0 hz0 hb ho5 hRd W0
  go_wp2_with (first
    | ((with_reducible refine wpList_load_rng rfl 77 (.tmp 2) rfl w.heap.size 0 rfl [Value.slice A ns.length c, .int .i64 root] _ ?_ hutr rfl hiTr.out ?_); exact T1.all))
  obtain ⟨A', c', hNd, hrd⟩ := hend.out _ r1.out
  refine hNd.mono ?_
  rintro e w2 ⟨rfl, hb⟩
  have rd2 := hid (hrd.bel hb)
  have k2 := hid (rangeBel2 hb k1.out)
  have z2 := hid ((hb.block _ (block_lt z1.out)).trans z1.out)
  have W2 := hid (W1.out.trans (hb.mono W1.out.size))
  have hBN := hid (fun (W : World) (g : Nat) (tt : TypeId) (h : W.heap[g]? = some (.cells (ndC x A' c').toArray tt (0, 0))) => BoxN.heap h)
  clear hNd hrd hb T1 k1 r1 z1 W1 hend
  go_wp2_with (first
    | ((with_reducible refine wpList_store_row rfl 80 (.tmp 4) (.tmp 16) rfl (w.heap.size + 1 + 1) _ rfl rfl 80 zNdC ?_ ?_ ?_ ?_ ?_); exact z2.out; exact (hiS A' c').out; exact (hzs A' c').out; exact (hone A' c').out; intro w3 hg3 hb3 hs3))
  have W3 := hid (W2.out.grown hb3 W2.out.size (fun g e => by injection e with e; omega))
  have k3 := hid (rangeAt_kept k2.out (w' := w3) (fun hl => hb3.block _ hl (fun e => by injection e with e; omega)))
  have rd3 := hid (rd2.out.kept (w' := w3) (fun b hb hl => hb3.block b hl (fun e => by injection e with e; omega)) hb3.size)
  have g3 := hid hg3
  have lt3 := hid (block_lt hg3)
  have E1 := hE.out
  clear hb3 hs3 hg3 z2 k2 rd2 W2 hE
  cases hl : x.leaf with
  | false =>
    have hlf := hid (fun (W : World) (h : W.heap[w.heap.size + 1 + 1]? = some (.cells (ndC x A' c').toArray 80 (0, 0))) => by have e := (hBN.out _ _ _ h).leaf; rw [hl] at e; exact e)
    have ha := hid (show (x.leaf && kb) = false by rw [hl]; rfl)
    clear hl
    go_wp2
    refine wp_region_noPanic ?_
    refine wp_region_held_drew (S := fun w' => Below (w.heap.size + 1 + 1) w3 w' ∧ w'.heap[w.heap.size + 1 + 1]? = some (.cells (ndC x A' c').toArray 80 (0, 0))) (by kernel_rfl) ?_ (fun hHeld => ?_)
    · exact ⟨(bel_drew w3).mono (Nat.le_of_lt lt3.out), g3.out⟩
    refine' wpAnyH_take (i := 0) (oi := _) (v := _) rfl (by kernel_rfl) (by kernel_rfl) (by kernel_rfl) (fun _ _ _ h => h) (yieldsIf_load_mid (by rfl) _ _ rfl _ _ rfl _ _ (fun _ h => (hBN.out _ _ _ h.2).all) hun rfl (hiN A' c').out) (by assumption) ?_
    try simp only [Act.put, sQa, sQb, sQc, gQa, gQb, gQc]
    refine' wpAnyH_take (i := 1) (oi := _) (v := ?_) rfl (by kernel_rfl) (by kernel_rfl) (by kernel_rfl) (fun _ _ _ h => h) (Or.inl ⟨by rfl, ?_⟩) (by assumption) ?_
    rotate_left
    · intro W hSw
      go_simp
      first | done | (with_reducible rfl)
    try simp only [Act.put, sQa, sQb, sQc, gQa, gQb, gQc]
    refine' wpAnyH_take (i := 2) (oi := _) (v := ?_) rfl (by kernel_rfl) (by kernel_rfl) (by kernel_rfl) (fun _ _ _ h => h) (Or.inl ⟨by rfl, ?_⟩) (by assumption) ?_
    rotate_left
    · intro W hSw
      have hCell := (hlf.out _ hSw.2)
      go_simp
      first | done | (with_reducible rfl)
    try simp only [Act.put, sQa, sQb, sQc, gQa, gQb, gQc]
    refine' wpAnyH_take (i := 3) (oi := _) (v := ?_) rfl (by kernel_rfl) (by kernel_rfl) (by kernel_rfl) (fun _ _ _ h => h) (Or.inl ⟨by rfl, ?_⟩) (by assumption) ?_
    rotate_left
    · intro W hSw
      go_simp
      first | done | (with_reducible rfl)
    try simp only [Act.put, sQa, sQb, sQc, gQa, gQb, gQc]
    refine' wpAnyH_take (i := 4) (oi := _) (v := _) rfl (by kernel_rfl) (by kernel_rfl) (by kernel_rfl) (fun _ _ _ h => h) (Or.inr ⟨by rfl, rfl⟩) (by assumption) ?_
    try simp only [Act.put, sQa, sQb, sQc, gQa, gQb, gQc]
    refine' wpAnyH_take (i := 5) (oi := _) (v := _) rfl (by kernel_rfl) (by kernel_rfl) (by kernel_rfl) (fun _ _ _ h => h) (Or.inr ⟨by rfl, rfl⟩) (by assumption) ?_
    try simp only [Act.put, sQa, sQb, sQc, gQa, gQb, gQc]
    refine' wpAnyH_take (i := 6) (oi := _) (v := _) rfl (by kernel_rfl) (by kernel_rfl) (by kernel_rfl) (fun _ _ _ h => h) (Or.inr ⟨by rfl, rfl⟩) (by assumption) ?_
    try simp only [Act.put, sQa, sQb, sQc, gQa, gQb, gQc]
    refine' wpAnyH_take (i := 7) (oi := _) (v := _) rfl (by kernel_rfl) (by kernel_rfl) (by kernel_rfl) (fun _ _ _ h => h) (Or.inr ⟨by rfl, rfl⟩) (by assumption) ?_
    try simp only [Act.put, sQa, sQb, sQc, gQa, gQb, gQc]
    refine' wpAnyH_take (i := 8) (oi := _) (v := ?_) rfl (by kernel_rfl) (by kernel_rfl) (by kernel_rfl) (fun _ _ _ h => h) (Or.inl ⟨by rfl, ?_⟩) (by assumption) ?_
    rotate_left
    · intro W hSw
      go_simp
      first | done | (with_reducible rfl)
    try simp only [Act.put, sQa, sQb, sQc, gQa, gQb, gQc]
    refine wpAnyH_ready (rs := [9]) (by kernel_rfl) (by simp) ?_
    refine AllReadyH.cons (o := _) rfl (fun K hK => ?_) AllReadyH.nil
    refine step_store_rowT rfl 80 (.tmp 4) (.tmp 17) rfl (w.heap.size + 1 + 1) _ rfl rfl 80 (ndC x A' c').toArray hHeld.2 (hiS A' c').out rfl (hone A' c').out ?_
    intro w4 d4 hG
    refine hK.out _ _ ?_ (fun hHeld => ?_)
    · exact ⟨hHeld.1.grown hG (Nat.le_trans (Nat.le_of_lt lt3.out) hHeld.1.size) (fun g e => by injection e with e; omega), d4⟩
    clear hK K
    try simp only [Act.put, sQa, sQb, sQc, gQa, gQb, gQc]
    refine' wpAnyH_take (i := 10) (oi := _) (v := ?_) rfl (by kernel_rfl) (by kernel_rfl) (by kernel_rfl) (fun _ _ _ h => h) (Or.inl ⟨by rfl, ?_⟩) (by assumption) ?_
    rotate_left
    · intro W hSw
      go_simp
      first | done | (with_reducible rfl)
    try simp only [Act.put, sQa, sQb, sQc, gQa, gQb, gQc]
    refine wpAnyH_done (by kernel_rfl) ?_ _
    refine NoPanic.normal ?_
    go_wp2
    refine bodyPost_ret (res_nd2 Tryd.results42 _ _ (w.heap.size + 1 + 1) _ rfl hHeld.2 (by rw [List.size_toArray]; exact (hlN A' c').out)) rfl ⟨A', c', (by rw [ha.out]; rfl), (rd3.out.kept (fun b hb hl => hHeld.1.block b (by omega)) hHeld.1.size).rd, W3.out.trans (hHeld.1.mono (by omega))⟩
  | true =>
    have hlf := hid (fun (W : World) (h : W.heap[w.heap.size + 1 + 1]? = some (.cells (ndC x A' c').toArray 80 (0, 0))) => by have e := (hBN.out _ _ _ h).leaf; rw [hl] at e; exact e)
    have ha := hid (show (x.leaf && kb) = kb by rw [hl]; rfl)
    clear hl
    go_wp2
    refine wp_region_noPanic ?_
    refine wp_region_held_drew (S := fun w' => Below (w.heap.size + 1 + 1) w3 w' ∧ w'.heap[w.heap.size + 1 + 1]? = some (.cells (ndC x A' c').toArray 80 (0, 0))) (by kernel_rfl) ?_ (fun hHeld => ?_)
    · exact ⟨(bel_drew w3).mono (Nat.le_of_lt lt3.out), g3.out⟩
    refine' wpAnyH_take (i := 0) (oi := _) (v := _) rfl (by kernel_rfl) (by kernel_rfl) (by kernel_rfl) (fun _ _ _ h => h) (yieldsIf_load_mid (by rfl) _ _ rfl _ _ rfl _ _ (fun _ h => (hBN.out _ _ _ h.2).all) hun rfl (hiN A' c').out) (by assumption) ?_
    try simp only [Act.put, sQa, sQb, sQc, gQa, gQb, gQc]
    refine' wpAnyH_take (i := 1) (oi := _) (v := ?_) rfl (by kernel_rfl) (by kernel_rfl) (by kernel_rfl) (fun _ _ _ h => h) (Or.inl ⟨by rfl, ?_⟩) (by assumption) ?_
    rotate_left
    · intro W hSw
      go_simp
      first | done | (with_reducible rfl)
    try simp only [Act.put, sQa, sQb, sQc, gQa, gQb, gQc]
    refine' wpAnyH_take (i := 2) (oi := _) (v := ?_) rfl (by kernel_rfl) (by kernel_rfl) (by kernel_rfl) (fun _ _ _ h => h) (Or.inl ⟨by rfl, ?_⟩) (by assumption) ?_
    rotate_left
    · intro W hSw
      have hCell := (hlf.out _ hSw.2)
      go_simp
      first | done | (with_reducible rfl)
    try simp only [Act.put, sQa, sQb, sQc, gQa, gQb, gQc]
    refine' wpAnyH_take (i := 3) (oi := _) (v := ?_) rfl (by kernel_rfl) (by kernel_rfl) (by kernel_rfl) (fun _ _ _ h => h) (Or.inl ⟨by rfl, ?_⟩) (by assumption) ?_
    rotate_left
    · intro W hSw
      go_simp
      first | done | (with_reducible rfl)
    try simp only [Act.put, sQa, sQb, sQc, gQa, gQb, gQc]
    refine' wpAnyH_take (i := 4) (oi := _) (v := ?_) rfl (by kernel_rfl) (by kernel_rfl) (by kernel_rfl) (fun _ _ _ h => h) (Or.inl ⟨by rfl, ?_⟩) (by assumption) ?_
    rotate_left
    · intro W hSw
      go_simp
      first | done | (with_reducible rfl)
    try simp only [Act.put, sQa, sQb, sQc, gQa, gQb, gQc]
    refine' wpAnyH_take (i := 5) (oi := _) (v := _) rfl (by kernel_rfl) (by kernel_rfl) (by kernel_rfl) (fun _ _ _ h => h) (yieldsIf_load_mid (by rfl) _ _ rfl _ _ rfl _ _ (fun _ h => (hBN.out _ _ _ h.2).key) hu rfl hik.out) (by assumption) ?_
    try simp only [Act.put, sQa, sQb, sQc, gQa, gQb, gQc]
    refine' wpAnyH_take (i := 6) (oi := _) (v := _) rfl (by kernel_rfl) (by kernel_rfl) (by kernel_rfl) (fun _ _ _ h => h) (yieldsIf_load_mid (by rfl) _ _ rfl _ _ rfl _ _ (fun _ h => rangeAt_kept k3.out (fun hl => h.1.block _ (by omega))) hu rfl hi.out) (by assumption) ?_
    try simp only [Act.put, sQa, sQb, sQc, gQa, gQb, gQc]
    refine' wpAnyH_take (i := 7) (oi := _) (v := ?_) rfl (by kernel_rfl) (by kernel_rfl) (by kernel_rfl) (fun _ _ _ h => h) (Or.inl ⟨by rfl, ?_⟩) (by assumption) ?_
    rotate_left
    · intro W hSw
      go_simp
      first | done | (with_reducible rfl)
    try simp only [Act.put, sQa, sQb, sQc, gQa, gQb, gQc]
    refine' wpAnyH_take (i := 8) (oi := _) (v := ?_) rfl (by kernel_rfl) (by kernel_rfl) (by kernel_rfl) (fun _ _ _ h => h) (Or.inl ⟨by rfl, ?_⟩) (by assumption) ?_
    rotate_left
    · intro W hSw
      go_simp
      first | done | (with_reducible rfl)
    try simp only [Act.put, sQa, sQb, sQc, gQa, gQb, gQc]
    refine wpAnyH_ready (rs := [9]) (by kernel_rfl) (by simp) ?_
    refine AllReadyH.cons (o := _) rfl (fun K hK => ?_) AllReadyH.nil
    refine step_store_rowT rfl 80 (.tmp 4) (.tmp 17) rfl (w.heap.size + 1 + 1) _ rfl rfl 80 (ndC x A' c').toArray hHeld.2 (hiS A' c').out rfl (hone A' c').out ?_
    intro w4 d4 hG
    refine hK.out _ _ ?_ (fun hHeld => ?_)
    · exact ⟨hHeld.1.grown hG (Nat.le_trans (Nat.le_of_lt lt3.out) hHeld.1.size) (fun g e => by injection e with e; omega), d4⟩
    clear hK K
    try simp only [Act.put, sQa, sQb, sQc, gQa, gQb, gQc]
    refine' wpAnyH_take (i := 10) (oi := _) (v := ?_) rfl (by kernel_rfl) (by kernel_rfl) (by kernel_rfl) (fun _ _ _ h => h) (Or.inl ⟨by rfl, ?_⟩) (by assumption) ?_
    rotate_left
    · intro W hSw
      go_simp
      first | done | (with_reducible rfl)
    try simp only [Act.put, sQa, sQb, sQc, gQa, gQb, gQc]
    refine wpAnyH_done (by kernel_rfl) ?_ _
    refine NoPanic.normal ?_
    go_wp2
    refine bodyPost_ret (res_nd2 Tryd.results42 _ _ (w.heap.size + 1 + 1) _ rfl hHeld.2 (by rw [List.size_toArray]; exact (hlN A' c').out)) rfl ⟨A', c', (by rw [ha.out]; rfl), (rd3.out.kept (fun b hb hl => hHeld.1.block b (by omega)) hHeld.1.size).rd, W3.out.trans (hHeld.1.mono (by omega))⟩
end Go.Proofs.YtcifncmfjlbhjaaDoor
