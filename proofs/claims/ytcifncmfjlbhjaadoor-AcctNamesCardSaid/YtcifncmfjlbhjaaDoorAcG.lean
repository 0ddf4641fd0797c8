/-
  Contracts of the landed package acct: Set.
-/
import Derived.Test.YtcifncmfjlbhjaaDoorAcF
import Derived.Test.YtcifncmfjlbhjaaDoorRef10d
import Derived.Test.YtcifncmfjlbhjaaDoorTrC
import Derived.Test.YtcifncmfjlbhjaaDoorTreeLr
namespace Go.Proofs.YtcifncmfjlbhjaaDoor
open Go.RowKit
set_option linter.unusedVariables false
set_option linter.unusedSimpArgs false
set_option maxRecDepth 100000

/-- What Set answers: the error, the tree. -/
def setE (t : Tr) (k : Dg) (a : Ac) : Int := if mayA t = true then (if a = ac0 then (if hasP (allT t) k = true then tdropE t k else 0) else tputE t (acB a)) else 8
def setT (t : Tr) (k : Dg) (a : Ac) : Tr := if mayA t = true then (if a = ac0 then (if hasP (allT t) k = true then tdropT t k else t) else tputT t k (acB a)) else ⟨[], 0⟩
theorem mayA_T {t : Tr} (h : mayA t = true) : mayT t = true ∧ heldP (allT t) = true := by
  unfold mayA at h
  simpa using h
theorem setE_small {t : Tr} (k : Dg) {a : Ac} (hl : t.ns.length ≤ 100000) : setE t k a = if mayA t = true then 0 else 8 := by
  unfold setE
  split
  · rename_i h
    have hm := (mayA_T h).1
    split
    · split
      · rename_i hh
        unfold tdropE
        rw [if_pos hm, if_pos hh, if_neg (by omega)]
      · rfl
    · unfold tputE
      rw [if_pos hm, if_pos (acB_val a), if_neg (by omega)]
  · rfl
theorem setT_spec {t : Tr} {k : Dg} {a : Ac} (ha : a.ok) (hm : mayA t = true) (hl : t.ns.length ≤ 100000) :
    mayA (setT t k a) = true ∧ mayT (setT t k a) = true ∧ allT (setT t k a) = setP (allT t) k a ∧ (setT t k a).ns.length ≤ t.ns.length + 257 := by
  obtain ⟨h1, h2⟩ := mayA_T hm
  have key : mayT (setT t k a) = true ∧ allT (setT t k a) = setP (allT t) k a ∧ (setT t k a).ns.length ≤ t.ns.length + 257 := by
    unfold setT setP
    rw [if_pos hm]
    by_cases hz : a = ac0
    · rw [if_pos hz, if_pos hz]
      by_cases hh : hasP (allT t) k = true
      · rw [if_pos hh]
        have he : tdropE t k = 0 := by unfold tdropE; rw [if_pos h1, if_pos hh, if_neg (by omega)]
        obtain ⟨⟨ms, e1, e2⟩, e3, e4⟩ := tdropT_spec he
        exact ⟨e3, e4, by rw [e1, List.length_append]; omega⟩
      · rw [if_neg hh]
        exact ⟨h1, (without_no (Bool.eq_false_iff.2 hh)).symm, by omega⟩
    · rw [if_neg hz, if_neg hz]
      have he : tputE t (acB a) = 0 := by unfold tputE; rw [if_pos h1, if_pos (acB_val a), if_neg (by omega)]
      obtain ⟨⟨ms, e1, e2⟩, e3, e4⟩ := tputT_spec (k := k) he
      exact ⟨e3, e4, by rw [e1, List.length_append]; omega⟩
  refine ⟨?_, key⟩
  unfold mayA
  rw [key.1, key.2.1, held_set h2 ha]
  rfl
theorem setT_no {t : Tr} {k : Dg} {a : Ac} (hm : mayA t = false) : setT t k a = ⟨[], 0⟩ := by unfold setT; rw [hm]; rfl
theorem nds_small {t : Tr} (h : mayT t = true) : ∀ x ∈ t.ns, x.v.length ≤ 1000000 := fun x hx => Nat.le_trans (may_vals h x hx) (by decide)
theorem boxesSet (w : World) (A : Option Addr) (n c : Nat) (root : Int) (k : Dg) (a : Ac) (t u v x : TypeId) :
    ((((w.alloc (.cells #[.slice A n c, .int .i64 root] t)).alloc (.cells (k.1.map bv).toArray u)).alloc (.cells (acC a).toArray v)).alloc (.cells zTrC x)).rangeAt w.heap.size 0 [.slice A n c, .int .i64 root] ∧
    ((((w.alloc (.cells #[.slice A n c, .int .i64 root] t)).alloc (.cells (k.1.map bv).toArray u)).alloc (.cells (acC a).toArray v)).alloc (.cells zTrC x)).rangeAt (w.heap.size + 1) 0 (k.1.map bv) ∧
    ((((w.alloc (.cells #[.slice A n c, .int .i64 root] t)).alloc (.cells (k.1.map bv).toArray u)).alloc (.cells (acC a).toArray v)).alloc (.cells zTrC x)).rangeAt (w.heap.size + 1 + 1) 0 (acC a) ∧
    ((((w.alloc (.cells #[.slice A n c, .int .i64 root] t)).alloc (.cells (k.1.map bv).toArray u)).alloc (.cells (acC a).toArray v)).alloc (.cells zTrC x)).heap[w.heap.size + 1 + 1 + 1]? = some (.cells zTrC x (0, 0)) ∧
    Below w.heap.size w ((((w.alloc (.cells #[.slice A n c, .int .i64 root] t)).alloc (.cells (k.1.map bv).toArray u)).alloc (.cells (acC a).toArray v)).alloc (.cells zTrC x)) := by
  obtain ⟨h1, h2, h3⟩ := boxesTDp w A n c root k t u
  have h4 := rangeOf (heap_alloc_new ((w.alloc (.cells #[.slice A n c, .int .i64 root] t)).alloc (.cells (k.1.map bv).toArray u)) (.cells (acC a).toArray v))
  have h5 := heap_alloc_new (((w.alloc (.cells #[.slice A n c, .int .i64 root] t)).alloc (.cells (k.1.map bv).toArray u)).alloc (.cells (acC a).toArray v)) (.cells zTrC x)
  simp only [World.size_alloc] at h4 h5
  exact ⟨rangeBel2 (ext_alloc _ _) (rangeBel2 (ext_alloc _ _) h1.all), rangeBel2 (ext_alloc _ _) (rangeBel2 (ext_alloc _ _) h2), rangeBel2 (ext_alloc _ _) h4, h5, ext_trans (ext_trans h3 (ext_alloc _ _)) (ext_alloc _ _)⟩
theorem retSet {T : Tr} {A : Option Addr} {c : Nat} {w0 w : World} {B : Nat} {e : Int} (ho : OwnR 80 w B A c T.ns) (hB : w0.heap.size ≤ B) (hb : Below w0.heap.size w0 w) :
    ∃ A' c', (Ending.returned (.tuple #[.agg #[.slice A T.ns.length c, .int .i64 T.root], .int .i64 e])) = .returned (.tuple #[.agg #[.slice A' T.ns.length c', .int .i64 T.root], .int .i64 e]) ∧ OwnR 80 w w0.heap.size A' c' T.ns ∧ Below w0.heap.size w0 w := ⟨A, c, rfl, ho.base hB, hb⟩
set_option maxHeartbeats 8000000 in
theorem PAcSet_any (F : Nat → Prop) (A : Option Addr) (c : Nat) (ns : List Nd) (root : Int) (k : Dg) (a : Ac) (w : World) (ha : a.ok) (hr : Row F w A ns) (hc : ns.length ≤ 1000000) :
    Calls Tryd.prog 6 #[.agg #[.slice A ns.length c, .int .i64 root], .agg (k.1.map bv).toArray, .agg (acC a).toArray] w fun e w' => ∃ A' c', e = .returned (.tuple #[.agg #[.slice A' (setT ⟨ns, root⟩ k a).ns.length c', .int .i64 (setT ⟨ns, root⟩ k a).root], .int .i64 (setE ⟨ns, root⟩ k a)]) ∧ OwnR 80 w' w.heap.size A' c' (setT ⟨ns, root⟩ k a).ns ∧ Below w.heap.size w w' := by
  have hut := Tryd.underlying31
  have hu := Tryd.underlying35
  have hua := Tryd.underlying24
  obtain ⟨X0, K0, A0, z0, W0⟩ := boxesSet w A ns.length c root k a 31 35 24 31
  replace X0 := hid X0
  replace K0 := hid K0
  replace A0 := hid A0
  replace z0 := hid z0
  replace W0 := hid W0
  have jT := hid (show (Tryd.prog.info? 31).map (·.size) = some ([Value.slice A ns.length c, .int .i64 root]).length from sizeTr)
  have i1 := hid (sizeDg k)
  have ia := hid (show (Tryd.prog.info? 24).map (·.size) = some (acC a).length from sizeAc)
  have hbt := hid built_tr0
  have r0 := hid (hr.bel W0.out)
  obtain ⟨m, hm⟩ : ∃ m, mayA ⟨ns, root⟩ = m := ⟨_, rfl⟩
  obtain ⟨zb, hzb⟩ : ∃ b, decide (a = ac0) = b := ⟨_, rfl⟩
  have hC := fun W hW => PAcCheck_any F A c ns root W hW hc
  rw [hm] at hC
  have hZ := hid (fun W => PAcZero_is a ha zb hzb W)
  cases m with
  | false =>
    have eE : setE ⟨ns, root⟩ k a = 8 := by unfold setE; rw [hm]; rfl
    rw [setT_no hm, eE]
    simp only [Bool.false_eq_true, if_false] at hC
    replace hC := hid hC
    clear eE hm hzb hr
    generalize k.1.map bv = dk at *
    generalize acC a = ca at *
    go_enter Tryd.func6, Tryd.ntmps6
    go_wp2_with (first
      | (with_reducible refine wpList_alloc_row rfl 31 rfl zTrC zInfoTr ?_)
      | ((with_reducible refine wpList_load_rng ?_ 31 (.tmp 3) rfl w.heap.size 0 rfl [Value.slice A ns.length c, .int .i64 root] _ ?_ hut rfl jT.out ?_); rfl; exact X0.out))
    refine (hC.out _ r0.out).mono ?_
    rintro e w1 ⟨rfl, hB⟩
    have W1 := hid (W0.out.trans (hB.mono W0.out.size))
    have z1 := hid ((hB.block _ (block_lt z0.out)).trans z0.out)
    clear hB
    go_wp2_with (first
      | ((with_reducible refine wpList_built rfl 31 _ rfl zTrC [] ?_ ?_ ?_); exact hbt.out; rfl)
      | ((with_reducible refine wpList_store_row rfl 31 (.tmp 6) (.tmp 15) rfl (w.heap.size + 1 + 1 + 1) _ rfl rfl 31 zTrC ?_ ?_ ?_ ?_ ?_); exact z1.out; exact sizeTr; rfl; exact one_zTr; intro w9 hg9 hb9 hs9))
    exact bodyPost_ret (res_tr2 Tryd.results6 _ _ (w.heap.size + 1 + 1 + 1) none 0 0 0 rfl hg9) rfl ⟨none, 0, rfl, OwnR.nil _ _, W1.out.grown hb9 W1.out.size (fun g e => by injection e with e; omega)⟩
  | true =>
    simp only [if_true] at hC
    replace hC := hid hC
    have hmT := (mayA_T hm).1
    cases zb with
    | false =>
      have hne : a ≠ ac0 := of_decide_eq_false hzb
      have eT : setT ⟨ns, root⟩ k a = tputT ⟨ns, root⟩ k (acB a) := by unfold setT; rw [if_pos hm, if_neg hne]
      have eE : setE ⟨ns, root⟩ k a = tputE ⟨ns, root⟩ (acB a) := by unfold setE; rw [if_pos hm, if_neg hne]
      rw [eT, eE]
      have hBy := hid (fun W => PAcBytes_any a ha W)
      have hP := hid (fun V d W (h1 : Row F W A ns) (h2 : Rd W V (acB a)) (h3 : (acB a).length ≤ d) (h4 : d ≤ maxLen) => PTPut_any F A V c d ns root k (acB a) W h1 hc h2 h3 h4)
      clear eT eE hm hmT hzb hr hne
      generalize tputT ⟨ns, root⟩ k (acB a) = T at *
      generalize tputE ⟨ns, root⟩ (acB a) = ee at *
      generalize acB a = v at *
      generalize k.1.map bv = dk at *
      generalize acC a = ca at *
      go_enter Tryd.func6, Tryd.ntmps6
      go_wp2_with (first
        | (with_reducible refine wpList_alloc_row rfl 31 rfl zTrC zInfoTr ?_)
        | ((with_reducible refine wpList_load_rng ?_ 31 (.tmp 3) rfl w.heap.size 0 rfl [Value.slice A ns.length c, .int .i64 root] _ ?_ hut rfl jT.out ?_); rfl; exact X0.out))
      refine (hC.out _ r0.out).mono ?_
      rintro e w1 ⟨rfl, hB⟩
      have W1 := hid (W0.out.trans (hB.mono W0.out.size))
      have z1 := hid ((hB.block _ (block_lt z0.out)).trans z0.out)
      have X1 := hid (rangeBel2 hB X0.out)
      have K1 := hid (rangeBel2 hB K0.out)
      have A1 := hid (rangeBel2 hB A0.out)
      have r1 := hid (r0.out.bel hB)
      clear hB X0 K0 A0 r0 z0
      go_wp2_with (first
        | ((with_reducible refine wpList_load_rng ?_ 24 (.tmp 5) rfl (w.heap.size + 1 + 1) 0 rfl ca _ ?_ hua rfl ia.out ?_); rfl; exact A1.out))
      refine (hZ.out _).mono ?_
      rintro e w2 ⟨rfl, hB⟩
      have W2 := hid (W1.out.trans (hB.mono W1.out.size))
      have z2 := hid ((hB.block _ (block_lt z1.out)).trans z1.out)
      have X2 := hid (rangeBel2 hB X1.out)
      have K2 := hid (rangeBel2 hB K1.out)
      have A2 := hid (rangeBel2 hB A1.out)
      have r2 := hid (r1.out.bel hB)
      clear hB X1 K1 A1 r1 z1
      go_wp2
      refine wp_region_noPanic ?_
      refine wp_region_held_drew (S := fun W => Below w.heap.size w W ∧ W.rangeAt w.heap.size 0 [Value.slice A ns.length c, .int .i64 root] ∧ W.rangeAt (w.heap.size + 1) 0 dk ∧ W.rangeAt (w.heap.size + 1 + 1) 0 ca) (by kernel_rfl) ?_ (fun hHeld => ?_)
      · exact ⟨W2.out.trans ((bel_drew w2).mono W2.out.size), rangeBel2 (bel_drew w2) X2.out, rangeBel2 (bel_drew w2) K2.out, rangeBel2 (bel_drew w2) A2.out⟩
      refine' wpAnyH_take (i := 0) (oi := _) (v := _) rfl (by kernel_rfl) (by kernel_rfl) (by kernel_rfl) (fun _ _ _ h => h) (yieldsIf_load_mid (by rfl) _ _ rfl _ _ rfl _ _ (fun _ h => h.2.1) hut rfl jT.out) (by assumption) ?_
      try simp only [Act.put, sQa, sQb, sQc, gQa, gQb, gQc]
      refine' wpAnyH_take (i := 1) (oi := _) (v := _) rfl (by kernel_rfl) (by kernel_rfl) (by kernel_rfl) (fun _ _ _ h => h) (yieldsIf_load_mid (by rfl) _ _ rfl _ _ rfl _ _ (fun _ h => h.2.2.1) hu rfl i1.out) (by assumption) ?_
      try simp only [Act.put, sQa, sQb, sQc, gQa, gQb, gQc]
      refine' wpAnyH_take (i := 2) (oi := _) (v := _) rfl (by kernel_rfl) (by kernel_rfl) (by kernel_rfl) (fun _ _ _ h => h) (yieldsIf_load_mid (by rfl) _ _ rfl _ _ rfl _ _ (fun _ h => h.2.2.2) hua rfl ia.out) (by assumption) ?_
      try simp only [Act.put, sQa, sQb, sQc, gQa, gQb, gQc]
      refine wpAnyH_ready (rs := [3]) (by kernel_rfl) (by simp) ?_
      refine AllReadyH.cons (o := _) rfl (fun K hK => ?_) AllReadyH.nil
      go_simp
      refine (hBy.out _).mono ?_
      rintro e v1 ⟨A3, c3, rfl, o3, hB⟩
      have r3 := hid o3.rd
      have p3 := hid o3.cap
      have e6 := hid ((hB.block _ (block_lt (show w2.drew.heap[w.heap.size + 1 + 1 + 1]? = _ from z2.out))).trans z2.out)
      have l6 := hid (block_lt e6.out)
      have q3 := hid ((r2.out.bel (bel_drew w2)).bel hB)
      go_wp2_with fail
      refine hK.out _ _ ?_ (fun hHeld => ?_)
      · exact ⟨hHeld.1.trans (hB.mono hHeld.1.size), rangeBel2 hB hHeld.2.1, rangeBel2 hB hHeld.2.2.1, rangeBel2 hB hHeld.2.2.2⟩
      clear hK K
      try simp only [Act.put, sQa, sQb, sQc, gQa, gQb, gQc]
      refine wpAnyH_ready (rs := [4]) (by kernel_rfl) (by simp) ?_
      refine AllReadyH.cons (o := _) rfl (fun K hK => ?_) AllReadyH.nil
      go_simp
      refine (hP.out _ _ _ q3.out r3.out p3.out.1 p3.out.2).mono ?_
      rintro e v2 ⟨A4, c4, rfl, o4, hB⟩
      have e7 := hid ((hB.block _ (block_lt e6.out)).trans e6.out)
      have m4 := hid hHeld.1.size
      have o4 := hid o4
      go_wp2_with fail
      refine hK.out _ _ ?_ (fun hHeld => ?_)
      · exact ⟨hHeld.1.trans (hB.mono hHeld.1.size), rangeBel2 hB hHeld.2.1, rangeBel2 hB hHeld.2.2.1, rangeBel2 hB hHeld.2.2.2⟩
      clear hK K
      try simp only [Act.put, sQa, sQb, sQc, gQa, gQb, gQc]
      refine' wpAnyH_take (i := 5) (oi := _) (v := ?_) rfl (by kernel_rfl) (by kernel_rfl) (by kernel_rfl) (fun _ _ _ h => h) (Or.inl ⟨by rfl, ?_⟩) (by assumption) ?_
      rotate_left
      · intro W hSw
        go_simp
        first | done | (with_reducible rfl)
      try simp only [Act.put, sQa, sQb, sQc, gQa, gQb, gQc]
      refine' wpAnyH_take (i := 6) (oi := _) (v := ?_) rfl (by kernel_rfl) (by kernel_rfl) (by kernel_rfl) (fun _ _ _ h => h) (Or.inl ⟨by rfl, ?_⟩) (by assumption) ?_
      rotate_left
      · intro W hSw
        go_simp
        first | done | (with_reducible rfl)
      try simp only [Act.put, sQa, sQb, sQc, gQa, gQb, gQc]
      refine wpAnyH_ready (rs := [7]) (by kernel_rfl) (by simp) ?_
      refine AllReadyH.cons (o := _) rfl (fun K hK => ?_) AllReadyH.nil
      refine step_store_rowT rfl 31 (.tmp 6) (.tmp 25) rfl (w.heap.size + 1 + 1 + 1) _ rfl rfl 31 zTrC e7.out sizeTr rfl (one_trP _ _ _ _) ?_
      intro w9 d9 hG9
      refine hK.out _ _ ?_ (fun hHeld => ?_)
      · exact ⟨hHeld.1.grown hG9 hHeld.1.size (fun g e => by injection e with e; omega), rangeAt_kept hHeld.2.1 (fun hb => hG9.block _ hb (by first | (simp; done) | (simp; omega))), rangeAt_kept hHeld.2.2.1 (fun hb => hG9.block _ hb (by first | (simp; done) | (simp; omega))), rangeAt_kept hHeld.2.2.2 (fun hb => hG9.block _ hb (by first | (simp; done) | (simp; omega)))⟩
      clear hK K
      try simp only [Act.put, sQa, sQb, sQc, gQa, gQb, gQc]
      refine' wpAnyH_take (i := 8) (oi := _) (v := ?_) rfl (by kernel_rfl) (by kernel_rfl) (by kernel_rfl) (fun _ _ _ h => h) (Or.inl ⟨by rfl, ?_⟩) (by assumption) ?_
      rotate_left
      · intro W hSw
        go_simp
        first | done | (with_reducible rfl)
      try simp only [Act.put, sQa, sQb, sQc, gQa, gQb, gQc]
      refine wpAnyH_done (by kernel_rfl) ?_ _
      refine NoPanic.normal ?_
      go_wp2
      exact bodyPost_ret (res_tr2 Tryd.results6 _ _ (w.heap.size + 1 + 1 + 1) A4 T.ns.length c4 T.root rfl d9) rfl (retSet (o4.out.keptAtP hG9 l6.out l6.out) m4.out hHeld.1)
    | true =>
      have hz0 : a = ac0 := of_decide_eq_true hzb
      have hW := hid (fun W hW => PTTwin_any F A c ns root W hW hc (nds_small hmT))
      obtain ⟨hs, hhs⟩ : ∃ b, hasP (allT ⟨ns, root⟩) k = b := ⟨_, rfl⟩
      have hD := fun W hW => PTDrop_any F A c ns root k W hW hc
      have eD : tdropE ⟨ns, root⟩ k = if hs = true then (if 261844 < ns.length then 9 else 0) else 6 := by unfold tdropE; rw [if_pos hmT, hhs]
      have eT : setT ⟨ns, root⟩ k a = if hs = true then tdropT ⟨ns, root⟩ k else ⟨ns, root⟩ := by unfold setT; rw [if_pos hm, if_pos hz0, hhs]
      have eE : setE ⟨ns, root⟩ k a = if hs = true then tdropE ⟨ns, root⟩ k else 0 := by unfold setE; rw [if_pos hm, if_pos hz0, hhs]
      rw [eT, eE]
      have hd6 : hs = true → (tdropE ⟨ns, root⟩ k == 6) = false := fun h => by
        rw [eD, if_pos h]
        split <;> rfl
      have hd7 : hs = false → tdropE ⟨ns, root⟩ k = 6 := fun h => by rw [eD, h]; rfl
      clear eT eE hm hmT hzb hr hz0 eD hhs
      generalize tdropE ⟨ns, root⟩ k = de at *
      generalize tdropT ⟨ns, root⟩ k = T at *
      replace hD := hid hD
      generalize k.1.map bv = dk at *
      generalize acC a = ca at *
      replace hd6 := hid hd6
      replace hd7 := hid hd7
      go_enter Tryd.func6, Tryd.ntmps6
      go_wp2_with (first
        | (with_reducible refine wpList_alloc_row rfl 31 rfl zTrC zInfoTr ?_)
        | ((with_reducible refine wpList_load_rng ?_ 31 (.tmp 3) rfl w.heap.size 0 rfl [Value.slice A ns.length c, .int .i64 root] _ ?_ hut rfl jT.out ?_); rfl; exact X0.out))
      refine (hC.out _ r0.out).mono ?_
      rintro e w1 ⟨rfl, hB⟩
      have W1 := hid (W0.out.trans (hB.mono W0.out.size))
      have z1 := hid ((hB.block _ (block_lt z0.out)).trans z0.out)
      have X1 := hid (rangeBel2 hB X0.out)
      have K1 := hid (rangeBel2 hB K0.out)
      have A1 := hid (rangeBel2 hB A0.out)
      have r1 := hid (r0.out.bel hB)
      clear hB X0 K0 A0 r0 z0
      go_wp2_with (first
        | ((with_reducible refine wpList_load_rng ?_ 24 (.tmp 5) rfl (w.heap.size + 1 + 1) 0 rfl ca _ ?_ hua rfl ia.out ?_); rfl; exact A1.out))
      refine (hZ.out _).mono ?_
      rintro e w2 ⟨rfl, hB⟩
      have W2 := hid (W1.out.trans (hB.mono W1.out.size))
      have z2 := hid ((hB.block _ (block_lt z1.out)).trans z1.out)
      have X2 := hid (rangeBel2 hB X1.out)
      have K2 := hid (rangeBel2 hB K1.out)
      have r2 := hid (r1.out.bel hB)
      clear hB X1 K1 A1 r1 z1
      go_wp2_with (first
        | ((with_reducible refine wpList_load_rng rfl 31 (.tmp 3) rfl w.heap.size 0 rfl [Value.slice A ns.length c, .int .i64 root] _ ?_ hut rfl jT.out ?_); exact X2.out)
        | ((with_reducible refine wpList_load_rng rfl 35 (.tmp 4) rfl (w.heap.size + 1) 0 rfl dk _ ?_ hu rfl i1.out ?_); exact K2.out))
      refine (hD.out _ r2.out).mono ?_
      rintro e w3 ⟨A3, c3, rfl, o3, hB⟩
      have W3 := hid (W2.out.trans (hB.mono W2.out.size))
      have z3 := hid ((hB.block _ (block_lt z2.out)).trans z2.out)
      have X3 := hid (rangeBel2 hB X2.out)
      have r3 := hid (r2.out.bel hB)
      have m3 := hid W2.out.size
      replace o3 := hid o3
      have e3 := hid (heap_alloc_new w3 (.cells zTrC 31))
      have j3 := hid (show (Tryd.prog.info? 31).map (·.size) = some ([Value.slice A3 T.ns.length c3, .int .i64 T.root]).length from sizeTr)
      have l2 := hid (block_lt z2.out)
      clear hB X2 K2 r2 z2
      cases hs with
      | false =>
        obtain rfl := hd7.out (by first | trivial | rfl)
        simp only [Bool.false_eq_true, if_false]
        go_wp2_with (first
          | (with_reducible refine wpList_alloc_row rfl 31 rfl zTrC zInfoTr ?_)
          | ((with_reducible refine wpList_store_row rfl 31 (.tmp 9) (.tmp 31) rfl w3.heap.size _ rfl rfl 31 zTrC ?_ ?_ ?_ ?_ ?_); exact e3.out; exact sizeTr; rfl; exact one_trP A3 T.ns.length c3 T.root; intro w4 hgS hbS hsS; have Y4 := hid (xnewP rfl hbS); have X4 := hid (rangeBel2 Y4.out X3.out); have W4 := hid (W3.out.trans (Y4.out.mono W3.out.size)); have z4 := hid ((Y4.out.block _ (block_lt z3.out)).trans z3.out); have r4 := hid (r3.out.bel Y4.out); clear hgS hbS hsS)
          | ((with_reducible refine wpList_load_rng rfl 31 (.tmp 3) rfl w.heap.size 0 rfl [Value.slice A ns.length c, .int .i64 root] _ ?_ hut rfl jT.out ?_); exact X4.out))
        refine (hW.out _ r4.out).mono ?_
        rintro e w5 ⟨A5, c5, rfl, o5, hB⟩
        have W5 := hid (W4.out.trans (hB.mono W4.out.size))
        have z5 := hid ((hB.block _ (block_lt z4.out)).trans z4.out)
        have m5 := hid W4.out.size
        have l4 := hid (block_lt z4.out)
        replace o5 := hid o5
        clear hB
        go_wp2_with (first
          | ((with_reducible refine wpList_store_row rfl 31 (.tmp 6) (.tmp 36) rfl (w.heap.size + 1 + 1 + 1) _ rfl rfl 31 zTrC ?_ ?_ ?_ ?_ ?_); exact z5.out; exact sizeTr; rfl; exact one_trP A5 ns.length c5 root; intro w9 d9 hG9 hs9))
        exact bodyPost_ret (res_tr2 Tryd.results6 _ _ (w.heap.size + 1 + 1 + 1) A5 ns.length c5 root rfl d9) rfl (retSet (T := ⟨ns, root⟩) (o5.out.keptAtP hG9 l4.out l4.out) m5.out (W5.out.grown hG9 W5.out.size (fun g e => by injection e with e; omega)))
      | true =>
        have hd8 := hd6.out (by first | trivial | rfl)
        simp only [if_true]
        go_wp2_with (first
          | (with_reducible refine wpList_alloc_row rfl 31 rfl zTrC zInfoTr ?_)
          | ((with_reducible refine wpList_store_row rfl 31 (.tmp 9) (.tmp 31) rfl w3.heap.size _ rfl rfl 31 zTrC ?_ ?_ ?_ ?_ ?_); exact e3.out; exact sizeTr; rfl; exact one_trP A3 T.ns.length c3 T.root; intro w4 hgS hbS hsS; have Y4 := hid (xnewP rfl hbS); have q4 := hid (rangeOf (l := [Value.slice A3 T.ns.length c3, .int .i64 T.root]) hgS); have W4 := hid (W3.out.trans (Y4.out.mono W3.out.size)); have z4 := hid ((Y4.out.block _ (block_lt z3.out)).trans z3.out); have o4 := hid (o3.out.bel Y4.out); clear hgS hbS hsS)
          | ((with_reducible refine wpList_load_rng rfl 31 (.tmp 9) rfl w3.heap.size 0 rfl [Value.slice A3 T.ns.length c3, .int .i64 T.root] _ ?_ hut rfl j3.out ?_); exact q4.out)
          | ((with_reducible refine wpList_store_row rfl 31 (.tmp 6) (.tmp 37) rfl (w.heap.size + 1 + 1 + 1) _ rfl rfl 31 zTrC ?_ ?_ ?_ ?_ ?_); exact z4.out; exact sizeTr; rfl; exact one_trP A3 T.ns.length c3 T.root; intro w9 d9 hG9 hs9))
        exact bodyPost_ret (res_tr2 Tryd.results6 _ _ (w.heap.size + 1 + 1 + 1) A3 T.ns.length c3 T.root rfl d9) rfl (retSet (o4.out.keptAtP hG9 l2.out l2.out) m3.out (W4.out.grown hG9 W4.out.size (fun g e => by injection e with e; omega)))
end Go.Proofs.YtcifncmfjlbhjaaDoor
