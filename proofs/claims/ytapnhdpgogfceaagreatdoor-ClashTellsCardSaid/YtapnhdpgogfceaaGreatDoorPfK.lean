/-
  Contracts of the landed package proof: Make.
-/
import Derived.Test.YtapnhdpgogfceaaGreatDoorPfM
namespace Go.Proofs.YtapnhdpgogfceaaGreatDoor
open Go.RowKit
set_option linter.unusedVariables false
set_option linter.unusedSimpArgs false
set_option maxRecDepth 100000

theorem boxesMk (w : World) (A : Option Addr) (n c : Nat) (root : Int) (b : Dg) :
    BoxT (((w.alloc (.cells #[.slice A n c, .int .i64 root] 24)).alloc (.cells (b.1.map bv).toArray 26)).alloc (.cells zPfC 30)) w.heap.size A n c root ∧
    (((w.alloc (.cells #[.slice A n c, .int .i64 root] 24)).alloc (.cells (b.1.map bv).toArray 26)).alloc (.cells zPfC 30)).rangeAt (w.heap.size + 1) 0 (b.1.map bv) ∧
    (((w.alloc (.cells #[.slice A n c, .int .i64 root] 24)).alloc (.cells (b.1.map bv).toArray 26)).alloc (.cells zPfC 30)).heap[w.heap.size + 1 + 1]? = some (.cells zPfC 30) ∧
    Below w.heap.size w (((w.alloc (.cells #[.slice A n c, .int .i64 root] 24)).alloc (.cells (b.1.map bv).toArray 26)).alloc (.cells zPfC 30)) := by
  obtain ⟨h1, h2, h3⟩ := boxesTDp w A n c root b 24 26
  have h4 := heap_alloc_new ((w.alloc (.cells #[.slice A n c, .int .i64 root] 24)).alloc (.cells (b.1.map bv).toArray 26)) (.cells zPfC 30)
  simp only [World.size_alloc] at h4
  exact ⟨h1.bel (ext_alloc _ _), rangeBel2 (ext_alloc _ _) h2, h4, ext_trans h3 (ext_alloc _ _)⟩
theorem endF_v (x : Nd) (p : Pf) : (endF x p).v = if x.leaf = true then x.v else p.v := by
  unfold endF
  split
  · split <;> rfl
  · rfl
theorem endF_ss (x : Nd) (p : Pf) : (endF x p).ss = p.ss := by
  unfold endF
  split
  · split <;> rfl
  · rfl
set_option maxHeartbeats 2000000 in
theorem PfMake_any (F : Nat → Prop) (A : Option Addr) (c : Nat) (ns : List Nd) (root : Int) (k : Dg) (w : World) (hr : Row F w A ns) (hc : ns.length ≤ 1000000) (hT : Tab w) :
    Calls Tryz.prog 24 #[.agg #[.slice A ns.length c, .int .i64 root], .agg (k.1.map bv).toArray] w fun e w' => ∃ A1 c1 A2 c2, e = .returned (.tuple #[.agg (pfC (makeF ⟨ns, root⟩ k) A1 c1 A2 c2).toArray, .int .i64 (if mayT ⟨ns, root⟩ = true then 0 else 8)]) ∧
      Own 5 w' w.heap.size A1 c1 (makeF ⟨ns, root⟩ k).v ∧ Row (fun b => b < w'.heap.size) w' A2 (makeF ⟨ns, root⟩ k).ss ∧ Below w.heap.size w w' := by
  obtain ⟨T0, K0, Z0, W0⟩ := boxesMk w A ns.length c root k
  have hr0 := hid (hr.bel W0)
  have hT0 := hid (hT.bel W0 hT.low)
  have hu := Tryz.underlying26
  have hut := Tryz.underlying24
  have hup := Tryz.underlying30
  have hun := Tryz.underlying47
  have hi := hid (sizeDgT k)
  have hiT := hid (show (Tryz.prog.info? 24).map (·.size) = some ([Value.slice A ns.length c, .int .i64 root]).length from sizeTr)
  obtain ⟨m, hm⟩ : ∃ m, mayT ⟨ns, root⟩ = m := ⟨_, rfl⟩
  have hRd := fun W (h1 : Row F W A ns) (h2 : Tab W) => PRoad_any F A c ns root k W h1 hc h2
  rw [hm] at hRd ⊢
  have hiS := fun (x : Nd) (A2 : Option Addr) (c2 : Nat) => hid (show (Tryz.prog.info? 47).map (·.size) = some (ndC x A2 c2).toArray.size by rw [List.size_toArray, len_nd]; exact sizeNd)
  have hzs := fun (x : Nd) (A2 : Option Addr) (c2 : Nat) => hid (show zNdC.size = (ndC x A2 c2).toArray.size by rw [zSizeNd, List.size_toArray, len_nd])
  have hone := fun (x : Nd) (A2 : Option Addr) (c2 : Nat) => hid (one_nd x A2 c2)
  have hlow := hid (show w.heap.size + 1 + 1 < _ from block_lt Z0)
  replace K0 := hid K0
  replace Z0 := hid Z0
  have T0a := hid T0.all
  cases m with
  | false =>
    rw [makeF_no hm]
    simp only [Bool.false_eq_true, ↓reduceIte] at hRd ⊢
    have hb0 := hid (show Tryz.prog.built 30 [] = some zPfC by kernel_rfl)
    replace hRd := hid hRd
    generalize hx : endN ⟨ns, root⟩ k = x at *
    generalize sidesM ⟨ns, root⟩ k = L at *
    clear hx hm T0
    generalize k.1.map bv = dk at *
    go_enter Tryz.func24, Tryz.ntmps24
    go_wp2_with (first
      | (with_reducible refine wpList_alloc_row rfl 30 rfl zPfC zInfoPf ?_)
      | ((with_reducible refine wpList_load_rng rfl 24 (.tmp 2) rfl w.heap.size 0 rfl [Value.slice A ns.length c, .int .i64 root] _ ?_ hut rfl hiT.out ?_); exact T0a.out)
      | ((with_reducible refine wpList_load_rng rfl 26 (.tmp 3) rfl (w.heap.size + 1) 0 rfl dk _ ?_ hu rfl hi.out ?_); exact K0.out))
    generalize ((w.alloc (.cells #[.slice A ns.length c, .int .i64 root] 24)).alloc (.cells dk.toArray 26)).alloc (.cells zPfC 30) = w0 at *
    refine (hRd.out _ hr0.out hT0.out).mono ?_
    rintro e w1 ⟨A1, c1, A2, c2, rfl, ho, hq, hb⟩
    have z1 := hid ((hb.block _ (block_lt Z0.out)).trans Z0.out)
    have W1 := hid (W0.trans (hb.mono W0.size))
    have e1 := hid (heap_alloc_new w1 (.cells zNdC 47))
    clear ho hq hb K0 T0a Z0 hr0 hT0
    go_wp2_with (first
      | (with_reducible refine wpList_alloc_row rfl 47 rfl zNdC zInfoNd ?_)
      | ((with_reducible refine wpList_store_row rfl 47 (.tmp 6) (.tmp 14) rfl _ _ rfl rfl 47 zNdC ?_ ?_ ?_ ?_ ?_); exact e1.out; exact (hiS x A1 c1).out; exact (hzs x A1 c1).out; exact (hone x A1 c1).out; intro w2 hg2 hb2 hs2; have X2 := hid (xnewP rfl hb2); have z2 := hid ((X2.out.block _ (block_lt z1.out)).trans z1.out); have W2 := hid (W1.out.trans (X2.out.mono W1.out.size)); clear hg2 hb2 hs2)
      | ((with_reducible refine wpList_built rfl 30 _ rfl zPfC [] ?_ ?_ ?_); exact hb0.out; rfl)
      | ((with_reducible refine wpList_store_row rfl 30 (.tmp 4) (.tmp 19) rfl (w.heap.size + 1 + 1) _ rfl rfl 30 zPfC ?_ ?_ ?_ ?_ ?_); exact z2.out; exact sizePfS pf0 none 0 none 0; rfl; exact one_pf pf0 none 0 none 0; intro w3 hg3 hb3 hs3))
    exact bodyPost_ret (res_pf Tryz.results24 _ _ (w.heap.size + 1 + 1) (pfC pf0 none 0 none 0) rfl hg3 (len_pf _ _ _ _ _)) rfl ⟨none, 0, none, 0, rfl, Own.nil _ _, Row.nil _ _ _, W2.out.grown hb3 W2.out.size (fun g e => by injection e with e; omega)⟩
  | true =>
    rw [makeF_end hm]
    simp only [↓reduceIte] at hRd ⊢
    replace hRd := hid hRd
    generalize hx : endN ⟨ns, root⟩ k = x at *
    generalize sidesM ⟨ns, root⟩ k = L at *
    clear hx hm T0
    have hbp := fun A2 c2 => hid (built_pf k L A2 c2)
    have hbm := fun A2 c2 => hid (built_mk ⟨k, 0, z0, [], L⟩ none 0 A2 c2)
    have hv := endF_v x ⟨k, 0, z0, [], L⟩
    have hs := endF_ss x ⟨k, 0, z0, [], L⟩
    have hE := fun gb gm A c A2 c2 W => PfEnd_any gb gm x A c ⟨k, 0, z0, [], L⟩ none 0 A2 c2 W
    have hpm := fun A2 c2 => hid (show (Tryz.prog.info? 85).map (·.size) = some (pfC ⟨k, 0, z0, [], L⟩ none 0 A2 c2).toArray.size by rw [List.size_toArray, len_pf]; exact sizeMk)
    have hpz := fun A2 c2 => hid (show zMkC.size = (pfC ⟨k, 0, z0, [], L⟩ none 0 A2 c2).toArray.size by show zPfC.size = _; rw [zSizePf, List.size_toArray, len_pf])
    have hp1 := fun A2 c2 => hid (one_pf ⟨k, 0, z0, [], L⟩ none 0 A2 c2)
    have hfl := fun A c A2 c2 => hid (sizePfC (endF x ⟨k, 0, z0, [], L⟩) A c A2 c2)
    have hfS := fun A c A2 c2 => hid (sizePfS (endF x ⟨k, 0, z0, [], L⟩) A c A2 c2)
    have hfz := fun A c A2 c2 => hid (show zPfC.size = (pfC (endF x ⟨k, 0, z0, [], L⟩) A c A2 c2).toArray.size by rw [zSizePf, List.size_toArray, len_pf])
    have hf1 := fun A c A2 c2 => hid (one_pf (endF x ⟨k, 0, z0, [], L⟩) A c A2 c2)
    have hfn := fun A c A2 c2 => hid (len_pf (endF x ⟨k, 0, z0, [], L⟩) A c A2 c2)
    have hiN := fun (A2 : Option Addr) (c2 : Nat) => hid (show (Tryz.prog.info? 47).map (·.size) = some (ndC x A2 c2).length by rw [len_nd]; exact sizeNd)
    replace hE := hid hE
    replace hv := hid hv
    replace hs := hid hs
    generalize endF x ⟨k, 0, z0, [], L⟩ = y at *
    generalize hdk : k.1.map bv = dk at *
    replace hdk := hid hdk
    go_enter Tryz.func24, Tryz.ntmps24
    go_wp2_with (first
      | (with_reducible refine wpList_alloc_row rfl 30 rfl zPfC zInfoPf ?_)
      | ((with_reducible refine wpList_load_rng rfl 24 (.tmp 2) rfl w.heap.size 0 rfl [Value.slice A ns.length c, .int .i64 root] _ ?_ hut rfl hiT.out ?_); exact T0a.out)
      | ((with_reducible refine wpList_load_rng rfl 26 (.tmp 3) rfl (w.heap.size + 1) 0 rfl dk _ ?_ hu rfl hi.out ?_); exact K0.out))
    generalize ((w.alloc (.cells #[.slice A ns.length c, .int .i64 root] 24)).alloc (.cells dk.toArray 26)).alloc (.cells zPfC 30) = w0 at *
    refine (hRd.out _ hr0.out hT0.out).mono ?_
    rintro e w1 ⟨A1, c1, A2, c2, rfl, ho, hq, hb⟩
    have z1 := hid ((hb.block _ (block_lt Z0.out)).trans Z0.out)
    have k1 := hid (rangeBel2 hb K0.out)
    have W1 := hid (W0.trans (hb.mono W0.size))
    have O1 := hid ho
    have Q1 := hid (OwnR.row hq)
    have e1 := hid (heap_alloc_new w1 (.cells zNdC 47))
    have l01 := hid (Nat.lt_of_lt_of_le hlow.out hb.size)
    clear ho hq hb K0 T0a Z0 hr0 hT0
    go_wp2_with (first
      | (with_reducible refine wpList_alloc_row rfl 47 rfl zNdC zInfoNd ?_)
      | ((with_reducible refine wpList_store_row rfl 47 (.tmp 6) (.tmp 14) rfl _ _ rfl rfl 47 zNdC ?_ ?_ ?_ ?_ ?_); exact e1.out; exact (hiS x A1 c1).out; exact (hzs x A1 c1).out; exact (hone x A1 c1).out; intro w2 hg2 hb2 hs2; have X2 := hid (xnewP rfl hb2); have N2 := hid (rangeOf hg2); have l12 := hid (block_lt hg2); have z2 := hid ((X2.out.block _ (block_lt z1.out)).trans z1.out); have k2 := hid (rangeBel2 X2.out k1.out); have O2 := hid (O1.out.bel X2.out); have Q2 := hid (Q1.out.bel X2.out); have W2 := hid (W1.out.trans (X2.out.mono W1.out.size)); have e2 := hid (heap_alloc_new w2 (.cells zMkC 85)); clear hg2 hb2 hs2 z1 k1 O1 Q1 W1)
      | ((with_reducible refine wpList_load_rng rfl 26 (.tmp 3) rfl (w.heap.size + 1) 0 rfl dk _ ?_ hu rfl hi.out ?_); exact k2.out)
      | ((with_reducible refine wpList_built rfl 30 _ rfl (pfC ⟨k, 0, z0, [], L⟩ none 0 A2 c2).toArray [(0, .agg dk.toArray), (4, .slice A2 L.length c2)] ?_ ?_ ?_); exact (hbp A2 c2).out; rfl)
      | ((with_reducible refine wpList_built rfl 85 _ rfl (pfC ⟨k, 0, z0, [], L⟩ none 0 A2 c2).toArray [(0, .agg (pfC ⟨k, 0, z0, [], L⟩ none 0 A2 c2).toArray)] ?_ ?_ ?_); exact (hbm A2 c2).out; rfl)
      | (with_reducible refine wpList_alloc_row rfl 85 rfl zMkC zInfoMk ?_)
      | ((with_reducible refine wpList_store_row rfl 85 (.tmp 9) (.tmp 24) rfl _ _ rfl rfl 85 zMkC ?_ ?_ ?_ ?_ ?_); exact e2.out; exact (hpm A2 c2).out; exact (hpz A2 c2).out; exact (hp1 A2 c2).out; intro w3 hg3 hb3 hs3; have X3 := hid (xnewP rfl hb3); have M3 := hid hg3; have l23 := hid (block_lt hg3); have N3 := hid (rangeBel2 X3.out N2.out); clear hg3 hb3 hs3 k2 N2))
    have hB0 : Hid ((w3.alloc (.cells #[.pointer (some ⟨w2.heap.size, 0, none⟩)] 114)).drew.cell? ⟨w3.heap.size, 0, none⟩ = some (.pointer (some ⟨w2.heap.size, 0, none⟩))) := hid (block_cell (heap_alloc_new w3 (.cells #[.pointer (some ⟨w2.heap.size, 0, none⟩)] 114)) 0)
    have hM0 : Hid ((w3.alloc (.cells #[.pointer (some ⟨w2.heap.size, 0, none⟩)] 114)).drew.heap[w2.heap.size]? = some (.cells (pfC ⟨k, 0, z0, [], L⟩ none 0 A2 c2).toArray 85 (0, 0))) := hid (((ext_alloc w3 (.cells #[.pointer (some ⟨w2.heap.size, 0, none⟩)] 114)).block _ l23.out).trans M3.out)
    refine wp_region_noPanic ?_
    refine wp_region_held_drew (S := fun w' => Chg (fun b => b = w2.heap.size) w3 w') (by kernel_rfl) ?_ (fun hHeld => ?_)
    · exact (Chg.of_bel (bel_drew w3))
    refine' wpAnyH_take (i := 1) (oi := _) (v := _) rfl (by kernel_rfl) (by kernel_rfl) (by kernel_rfl) (fun _ _ _ h => h) (yieldsIf_load_mid (by rfl) _ _ rfl _ _ rfl _ _ (fun _ h => (rangeAt_kept N3.out fun hl => h.block _ hl (by have := l12.out; omega))) hun rfl (hiN A1 c1).out) (by assumption) ?_
    try simp only [Act.put, sQa, sQb, sQc, gQa, gQb, gQc]
    refine wpAnyH_ready (rs := [0]) (by kernel_rfl) (by simp) ?_
    refine AllReadyH.cons (o := _) rfl (fun K hK => ?_) AllReadyH.nil
    go_simp
    refine (PfEnder_any _ _).mono ?_
    rintro e8 w8 ⟨rfl, rfl⟩
    go_wp2_with fail
    refine hK.out _ _ ?_ (fun hHeld => ?_)
    · exact hHeld.trans (Chg.of_bel (ext_alloc _ _))
    clear hK K
    try simp only [Act.put, sQa, sQb, sQc, gQa, gQb, gQc]
    refine wpAnyH_ready (rs := [2]) (by kernel_rfl) (by simp) ?_
    refine AllReadyH.cons (o := _) rfl (fun K hK => ?_) AllReadyH.nil
    go_simp
    refine (hE.out w3.heap.size w2.heap.size A1 c1 A2 c2 _ hB0.out hM0.out (by have := l23.out; omega)).mono ?_
    rintro e9 w9 ⟨rfl, hG, hB⟩
    go_wp2_with fail
    refine hK.out _ _ ?_ (fun hHeld => ?_)
    · exact hHeld.trans hB
    clear hK K
    try simp only [Act.put, sQa, sQb, sQc, gQa, gQb, gQc]
    refine wpAnyH_done (by kernel_rfl) ?_ _
    refine NoPanic.normal ?_
    have D9 := hid (X3.out.trans (hHeld.below (Nat.le_of_lt l23.out) (fun b hb => by omega)))
    have G9 := hid (rangeOf hG)
    have z9 := hid ((D9.out.block _ (block_lt z2.out)).trans z2.out)
    have O9 := hid (O2.out.bel D9.out)
    have Q9 := hid (Q2.out.bel D9.out)
    have W9 := hid (W2.out.trans (D9.out.mono W2.out.size))
    clear hG hHeld hB0 hM0 D9
    have hfl := hfl (if x.leaf = true then A1 else none) (if x.leaf = true then c1 else 0) A2 c2
    have hfS := hfS (if x.leaf = true then A1 else none) (if x.leaf = true then c1 else 0) A2 c2
    have hfz := hfz (if x.leaf = true then A1 else none) (if x.leaf = true then c1 else 0) A2 c2
    have hf1 := hf1 (if x.leaf = true then A1 else none) (if x.leaf = true then c1 else 0) A2 c2
    have hfn := hfn (if x.leaf = true then A1 else none) (if x.leaf = true then c1 else 0) A2 c2
    have OY := hid (show Own 5 _ w0.heap.size (if x.leaf = true then A1 else none) (if x.leaf = true then c1 else 0) y.v from by
      rw [hv.out]
      cases x.leaf with
      | true => exact O9.out
      | false => exact Own.nil _ _)
    have hSS := hid (show y.ss = L from hs.out)
    generalize (if x.leaf = true then A1 else none) = Ae at *
    generalize (if x.leaf = true then c1 else 0) = ce at *
    generalize hyc : pfC y Ae ce A2 c2 = yc at *
    go_wp2_with (first
      | ((with_reducible refine wpList_load_rng rfl 30 (.tmp 28) rfl w2.heap.size 0 rfl yc _ ?_ hup rfl hfl.out ?_); exact G9.out)
      | ((with_reducible refine wpList_store_row rfl 30 (.tmp 4) (.tmp 29) rfl (w.heap.size + 1 + 1) _ rfl rfl 30 zPfC ?_ ?_ ?_ ?_ ?_); exact z9.out; exact hfS.out; exact hfz.out; exact hf1.out; intro w5 hg5 hb5 hs5))
    refine bodyPost_ret (res_pf Tryz.results24 _ _ (w.heap.size + 1 + 1) yc rfl hg5 hfn.out) rfl ⟨Ae, ce, A2, c2, by rw [hyc]; rfl, ?_, ?_, W9.out.grown hb5 W9.out.size (fun g e => by injection e with e; omega)⟩
    · exact (OY.out.kept hb5 fun a ha e => by have := (OY.out.blk a ha).1; have := hlow.out; injection e with e; omega).base (by have := hlow.out; omega)
    · rw [hSS.out]
      exact (Q9.out.kept (fun b hb hl => hb5.block b hl fun e => by have := hlow.out; injection e with e; omega) hb5.size).mono fun b _ h => h
end Go.Proofs.YtapnhdpgogfceaaGreatDoor
