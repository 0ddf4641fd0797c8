/-
  The document's answers of layer 6: At, Get.
-/
import Derived.Test.YtnoglodggchgpaaDoorRef06b
import Derived.Test.YtnoglodggchgpaaDoorRef06e
import Derived.Test.YtnoglodggchgpaaDoorRef06j
import Derived.Test.YtnoglodggchgpaaDoorTreeLt
import Derived.Test.YtnoglodggchgpaaDoorTreeLj
import Derived.Test.YtnoglodggchgpaaDoorRefE
namespace Go.Proofs.YtnoglodggchgpaaDoor
open Go.RowKit
set_option linter.unusedVariables false
set_option linter.unusedSimpArgs false
set_option maxRecDepth 100000

set_option maxHeartbeats 4000000 in
theorem RAtT_any (F : Nat → Prop) (A : Option Addr) (c : Nat) (ns : List Nd) (root r : Int) (w : World) (hr : Row F w A ns) (hc : ns.length ≤ 1000000) :
    Calls Tryd.prog 35 #[.agg #[.slice A ns.length c, .int .i64 root], .int .i64 r] w fun e w' => ∃ A' c', e = .returned (.tuple #[.agg #[.slice A' (atT ⟨ns, root⟩ r).ns.length c', .int .i64 (atT ⟨ns, root⟩ r).root], .int .i64 (atE ⟨ns, root⟩ r)]) ∧ OwnR 50 w' w.heap.size A' c' (atT ⟨ns, root⟩ r).ns ∧ Below w.heap.size w w' := by
  obtain ⟨hb0, hz0, W0⟩ := boxesAt w A ns.length c root
  have hr0 := hr.bel W0
  have hut := Tryd.underlying44
  have hiT := hid (show (Tryd.prog.info? 44).map (·.size) = some ([Value.slice A ns.length c, .int .i64 root]).length from sizeTr)
  have hb0t := hid built_tr0
  obtain ⟨m, hm⟩ : ∃ m, mayT ⟨ns, root⟩ = m := ⟨_, rfl⟩
  have hC := hid (fun W hW => RMayT_is F A c ns root m W hW (by omega) hm)
  obtain ⟨m2, hm2⟩ : ∃ m2, mayT ⟨ns, r⟩ = m2 := ⟨_, rfl⟩
  replace hz0 := hid hz0
  cases m with
  | false =>
    have hE : atE ⟨ns, root⟩ r = 8 := by unfold atE; rw [hm]; rfl
    rw [at_no (by rw [hE]; decide), hE]
    clear hm hm2
    go_enter Tryd.func35, Tryd.ntmps35
    go_wp2_with (first
      | (with_reducible refine wpList_alloc_row rfl 44 rfl zTrC zInfoTr ?_)
      | ((with_reducible refine wpList_load_rng rfl 44 (.tmp 2) rfl w.heap.size 0 rfl [Value.slice A ns.length c, .int .i64 root] _ ?_ hut rfl hiT.out ?_); exact rangeOf (l := [Value.slice A ns.length c, .int .i64 root]) hb0))
    generalize (w.alloc (.cells #[.slice A ns.length c, .int .i64 root] 44)).alloc (.cells zTrC 44) = w0 at *
    refine (hC.out _ hr0).mono ?_
    rintro e w1 ⟨rfl, hb⟩
    have z1 := hid ((hb.block _ (block_lt hz0.out)).trans hz0.out)
    have W1 := hid (W0.trans (hb.mono W0.size))
    go_wp2_with (first
      | ((with_reducible refine wpList_built rfl 44 _ rfl zTrC [] ?_ ?_ ?_); exact hb0t.out; rfl)
      | ((with_reducible refine wpList_store_row rfl 44 (.tmp 4) (.tmp 10) rfl (w.heap.size + 1) _ rfl rfl 44 zTrC ?_ ?_ ?_ ?_ ?_); exact z1.out; exact sizeTr; rfl; exact one_zTr; intro w9 hg9 hb9 hs9))
    exact bodyPost_ret (res_tr2 Tryd.results35 _ _ (w.heap.size + 1) none 0 0 0 rfl hg9) rfl ⟨none, 0, rfl, OwnR.nil _ _, W1.out.grown hb9 W1.out.size (fun g e => by injection e with e; omega)⟩
  | true =>
    have hTw := hid (fun W hW => RTwinT_any F A c ns root W hW hc (fun x hx => Nat.le_trans (may_vals hm x hx) (by decide)))
    have hC2 := hid (fun (G : Nat → Prop) (A5 : Option Addr) (c5 : Nat) W hW => RMayT_is G A5 c5 ns r m2 W hW (by omega) hm2)
    have hE : atE ⟨ns, root⟩ r = if m2 = true then 0 else 2 := by unfold atE; rw [hm, hm2]; rfl
    have hT : atT ⟨ns, root⟩ r = if m2 = true then ⟨ns, r⟩ else ⟨[], 0⟩ := by
      unfold atT
      rw [hE]
      cases m2 <;> simp
    rw [hT, hE]
    clear hm hm2 hT hE
    go_enter Tryd.func35, Tryd.ntmps35
    go_wp2_with (first
      | (with_reducible refine wpList_alloc_row rfl 44 rfl zTrC zInfoTr ?_)
      | ((with_reducible refine wpList_load_rng rfl 44 (.tmp 2) rfl w.heap.size 0 rfl [Value.slice A ns.length c, .int .i64 root] _ ?_ hut rfl hiT.out ?_); exact rangeOf (l := [Value.slice A ns.length c, .int .i64 root]) hb0))
    generalize (w.alloc (.cells #[.slice A ns.length c, .int .i64 root] 44)).alloc (.cells zTrC 44) = w0 at *
    refine (hC.out _ hr0).mono ?_
    rintro e w1 ⟨rfl, hb⟩
    have s1 := hid (rangeOf (l := [Value.slice A ns.length c, .int .i64 root]) ((hb.block _ (block_lt hb0)).trans hb0))
    have z1 := hid ((hb.block _ (block_lt hz0.out)).trans hz0.out)
    have r1 := hid (hr0.bel hb)
    have W1 := hid (W0.trans (hb.mono W0.size))
    clear hb hb0 hz0 W0 hr0 hC
    go_wp2_with (first
      | ((with_reducible refine wpList_load_rng rfl 44 (.tmp 2) rfl w.heap.size 0 rfl [Value.slice A ns.length c, .int .i64 root] _ ?_ hut rfl hiT.out ?_); exact s1.out))
    refine (hTw.out _ r1.out).mono ?_
    rintro e w3 ⟨A3, c3, rfl, ho3, hb⟩
    have z3 := hid ((hb.block _ (block_lt z1.out)).trans z1.out)
    have W3 := hid (W1.out.trans (hb.mono W1.out.size))
    have lt3 := hid (block_lt z3.out)
    have b3 := hid hb.size
    have lt1 := hid (block_lt z1.out)
    have own3 := hid ho3
    have e4 := heap_alloc_new w3 (.cells zTrC 44)
    clear hb z1 s1 r1 W1 hTw ho3
    go_wp2_with (first
      | (with_reducible refine wpList_alloc_row rfl 44 rfl zTrC zInfoTr ?_)
      | ((with_reducible refine wpList_store_row rfl 44 (.tmp 6) (.tmp 12) rfl w3.heap.size _ rfl rfl 44 zTrC ?_ ?_ ?_ ?_ ?_); exact e4; exact sizeTr; rfl; exact one_trP A3 ns.length c3 root; intro w5 g5 hb5 hs5; have X5 := hid (xnewP rfl hb5); have y5 := block_cell g5 1; have f5 := block_frozen g5 1; simp only [List.getElem?_toArray, List.getElem?_cons_zero, List.getElem?_cons_succ] at y5; have g6 := block_set g5 1 (.int .i64 r); rw [show (#[Value.slice A3 ns.length c3, .int .i64 root] : Array Value).setIfInBounds 1 (.int .i64 r) = #[.slice A3 ns.length c3, .int .i64 r] from rfl] at g6; have s6 := hid (rangeOf (l := [Value.slice A3 ns.length c3, .int .i64 r]) g6); clear hb5 hs5 g5 g6)
      | ((with_reducible refine wpList_load_rng rfl 44 (.tmp 6) rfl w3.heap.size 0 rfl [Value.slice A3 ns.length c3, .int .i64 r] _ ?_ hut rfl ?_ ?_); exact s6.out; exact sizeTr))
    have z6 := hid ((Below.heap_setCell w5 ⟨w3.heap.size, 1, none⟩ (.int .i64 r) (w.heap.size + 1) (by have := lt3.out; show w.heap.size + 1 ≠ w3.heap.size; omega)).trans ((X5.out.block _ lt3.out).trans z3.out))
    have W6 := hid ((W3.out.trans (X5.out.mono W3.out.size)).setCell (p := ⟨w3.heap.size, 1, none⟩) W3.out.size (.int .i64 r))
    have o6 : Hid (OwnR 50 (w5.setCell ⟨w3.heap.size, 1, none⟩ (.int .i64 r)) w1.heap.size A3 c3 ns) := hid (by
      have h5 := own3.out.bel X5.out
      obtain ⟨G, k1, k2⟩ := own3.out
      refine ⟨G, (k1.bel X5.out).kept (fun a ha _ => Below.heap_setCell _ _ _ _ (fun e => by have := (k1.blk a ha).2; have e' : a.block = w3.heap.size := e; omega)) (fun b hb _ => Below.heap_setCell _ _ _ _ (fun e => by have := (k2 b hb).2.lt; have e' : b = w3.heap.size := e; omega)), fun b hb => ⟨(k2 b hb).1, ((k2 b hb).2.kept (X5.out.block b (k2 b hb).2.lt)).kept (Below.heap_setCell _ _ _ _ (fun e => by have := (k2 b hb).2.lt; have e' : b = w3.heap.size := e; omega))⟩⟩)
    refine (hC2.out _ A3 c3 _ o6.out.row).mono ?_
    rintro e w7 ⟨rfl, hb⟩
    have z7 := hid ((hb.block _ (block_lt z6.out)).trans z6.out)
    have s7 := hid (rangeBel2 hb s6.out)
    have W7 := hid (W6.out.trans (hb.mono W6.out.size))
    have o7 := hid (o6.out.bel hb)
    clear hb z6 s6 W6 o6 X5 z3 W3 own3
    cases m2 with
    | false =>
      go_wp2_with (first
        | ((with_reducible refine wpList_built rfl 44 _ rfl zTrC [] ?_ ?_ ?_); exact hb0t.out; rfl)
        | ((with_reducible refine wpList_store_row rfl 44 (.tmp 4) (.tmp 18) rfl (w.heap.size + 1) _ rfl rfl 44 zTrC ?_ ?_ ?_ ?_ ?_); exact z7.out; exact sizeTr; rfl; exact one_zTr; intro w9 hg9 hb9 hs9))
      exact bodyPost_ret (res_tr2 Tryd.results35 _ _ (w.heap.size + 1) none 0 0 0 rfl hg9) rfl ⟨none, 0, rfl, OwnR.nil _ _, W7.out.grown hb9 W7.out.size (fun g e => by injection e with e; omega)⟩
    | true =>
      go_wp2_with (first
        | ((with_reducible refine wpList_load_rng rfl 44 (.tmp 6) rfl w3.heap.size 0 rfl [Value.slice A3 ns.length c3, .int .i64 r] _ ?_ hut rfl ?_ ?_); exact s7.out; exact sizeTr)
        | ((with_reducible refine wpList_store_row rfl 44 (.tmp 4) (.tmp 19) rfl (w.heap.size + 1) _ rfl rfl 44 zTrC ?_ ?_ ?_ ?_ ?_); exact z7.out; exact sizeTr; rfl; exact one_trP A3 ns.length c3 r; intro w9 hg9 hb9 hs9))
      exact bodyPost_ret (res_tr2 Tryd.results35 _ _ (w.heap.size + 1) A3 ns.length c3 r rfl hg9) rfl ⟨A3, c3, rfl, OwnR.base (OwnQ.keptAtP o7.out hb9 (by have := lt1.out; omega) (by have := lt1.out; omega)) (by have := lt1.out; omega), W7.out.grown hb9 W7.out.size (fun g e => by injection e with e; omega)⟩

set_option maxHeartbeats 2000000 in
theorem RGetT_any (F : Nat → Prop) (A : Option Addr) (c : Nat) (ns : List Nd) (root : Int) (k : Dg) (w : World) (hr : Row F w A ns) (hc : ns.length ≤ 1000000) :
    Calls Tryd.prog 34 #[.agg #[.slice A ns.length c, .int .i64 root], .agg (k.1.map bv).toArray] w fun e w' => ∃ A1 c1, e = .returned (.tuple #[.slice A1 (getTL ⟨ns, root⟩ k).length c1, .bool (getTB ⟨ns, root⟩ k)]) ∧ Rd w' A1 (getTL ⟨ns, root⟩ k) ∧ Below w.heap.size w w' := by
  obtain ⟨hb0, hk0, W0⟩ := boxesTDp w A ns.length c root k 44 23
  have hr0 := hr.bel W0
  have hu := Tryd.underlying23
  have hut := Tryd.underlying44
  have hiT := hid (show (Tryd.prog.info? 44).map (·.size) = some ([Value.slice A ns.length c, .int .i64 root]).length from sizeTr)
  have hi := hid (sizeDgT k)
  obtain ⟨m, hm⟩ : ∃ m, mayT ⟨ns, root⟩ = m := ⟨_, rfl⟩
  have hC := hid (fun W hW => RMayT_is F A c ns root m W hW (by omega) hm)
  cases m with
  | false =>
    rw [show getTL ⟨ns, root⟩ k = [] by unfold getTL getTB; rw [hm]; rfl, show getTB ⟨ns, root⟩ k = false by unfold getTB; rw [hm]; rfl]
    generalize k.1.map bv = dk at *
    go_enter Tryd.func34, Tryd.ntmps34
    go_wp2_with (first
      | ((with_reducible refine wpList_load_rng rfl 44 (.tmp 2) rfl w.heap.size 0 rfl [Value.slice A ns.length c, .int .i64 root] _ ?_ hut rfl hiT.out ?_); exact hb0.all))
    refine (hC.out _ hr0).mono ?_
    rintro e w2 ⟨rfl, hb⟩
    go_wp2
    go_ret2
    exact ⟨none, 0, rfl, fun h => absurd h (by simp), W0.trans (hb.mono W0.size)⟩
  | true =>
    have hAll := hid (fun W hW => RAllT_any F A c ns root W hW hc hm)
    have hln : (allT ⟨ns, root⟩).length ≤ 1000000 := Nat.le_trans (all_spec hm).2.2.1 hc
    have g1 : getTB ⟨ns, root⟩ k = hasP (allT ⟨ns, root⟩) k := by unfold getTB; rw [hm]; rfl
    have g2 : getTL ⟨ns, root⟩ k = if hasP (allT ⟨ns, root⟩) k = true then getV (allT ⟨ns, root⟩) k else [] := by unfold getTL; rw [g1]
    have hsrt := (all_spec hm).1
    rw [g1, g2]
    clear g1 g2 hm
    generalize allT ⟨ns, root⟩ = ps at *
    have hFd := hid (fun (G : Nat → Prop) (A3 : Option Addr) (c3 : Nat) W hW => RFind_any G A3 c3 ps.length ps k W hW rfl (by omega))
    obtain ⟨hp, hh⟩ : ∃ hp, hasP ps k = hp := ⟨_, rfl⟩
    rw [hh]
    cases hp with
    | false =>
      rw [fndI_no hh] at hFd
      rw [if_neg (by decide)]
      generalize k.1.map bv = dk at *
      clear hh hsrt
      go_enter Tryd.func34, Tryd.ntmps34
      go_wp2_with (first
        | ((with_reducible refine wpList_load_rng rfl 44 (.tmp 2) rfl w.heap.size 0 rfl [Value.slice A ns.length c, .int .i64 root] _ ?_ hut rfl hiT.out ?_); exact hb0.all))
      refine (hC.out _ hr0).mono ?_
      rintro e w1 ⟨rfl, hb⟩
      have t1 := hid (hb0.bel hb)
      have r1 := hid (hr0.bel hb)
      have k1 := hid (rangeBel2 hb hk0)
      have W1 := hid (W0.trans (hb.mono W0.size))
      clear hb hb0 hr0 hk0 W0
      go_wp2_with (first
        | ((with_reducible refine wpList_load_rng rfl 44 (.tmp 2) rfl w.heap.size 0 rfl [Value.slice A ns.length c, .int .i64 root] _ ?_ hut rfl hiT.out ?_); exact t1.out.all))
      refine (hAll.out _ r1.out).mono ?_
      rintro e w2 ⟨A2, c2, rfl, ho2, hb⟩
      have k2 := hid (rangeBel2 hb k1.out)
      have W2 := hid (W1.out.trans (hb.mono W1.out.size))
      have o2 := hid ho2
      clear hb ho2
      go_wp2_with (first
        | ((with_reducible refine wpList_load_rng rfl 23 (.tmp 3) rfl (w.heap.size + 1) 0 rfl dk _ ?_ hu rfl hi.out ?_); exact k2.out))
      refine (hFd.out _ A2 c2 _ o2.out.row).mono ?_
      rintro e w3 ⟨rfl, hb⟩
      have W3 := hid (W2.out.trans (hb.mono W2.out.size))
      clear hb
      go_wp2
      go_ret2
      exact ⟨none, 0, rfl, fun h => absurd h (by simp), W3.out⟩
    | true =>
      obtain ⟨j, hj, hfj, hkj⟩ := fndI_has hh
      rw [hfj] at hFd
      have hv : getV ps k = ps[j].v := by rw [← hkj]; exact getV_mem hsrt (List.getElem_mem hj)
      rw [if_pos rfl, hv]
      generalize k.1.map bv = dk at *
      clear hh hsrt hv hfj hkj
      go_enter Tryd.func34, Tryd.ntmps34
      go_wp2_with (first
        | ((with_reducible refine wpList_load_rng rfl 44 (.tmp 2) rfl w.heap.size 0 rfl [Value.slice A ns.length c, .int .i64 root] _ ?_ hut rfl hiT.out ?_); exact hb0.all))
      refine (hC.out _ hr0).mono ?_
      rintro e w1 ⟨rfl, hb⟩
      have t1 := hid (hb0.bel hb)
      have r1 := hid (hr0.bel hb)
      have k1 := hid (rangeBel2 hb hk0)
      have W1 := hid (W0.trans (hb.mono W0.size))
      clear hb hb0 hr0 hk0 W0
      go_wp2_with (first
        | ((with_reducible refine wpList_load_rng rfl 44 (.tmp 2) rfl w.heap.size 0 rfl [Value.slice A ns.length c, .int .i64 root] _ ?_ hut rfl hiT.out ?_); exact t1.out.all))
      refine (hAll.out _ r1.out).mono ?_
      rintro e w2 ⟨A2, c2, rfl, ho2, hb⟩
      have k2 := hid (rangeBel2 hb k1.out)
      have W2 := hid (W1.out.trans (hb.mono W1.out.size))
      have o2 := hid ho2
      clear hb ho2
      go_wp2_with (first
        | ((with_reducible refine wpList_load_rng rfl 23 (.tmp 3) rfl (w.heap.size + 1) 0 rfl dk _ ?_ hu rfl hi.out ?_); exact k2.out))
      refine (hFd.out _ A2 c2 _ o2.out.row).mono ?_
      rintro e w3 ⟨rfl, hb⟩
      have W3 := hid (W2.out.trans (hb.mono W2.out.size))
      obtain ⟨b, o, hA, hcl, A', c', hcv, rr, h1, h2, h3⟩ := row_pr (OwnR.row (o2.out.bel hb)) hj
      have hrd := hid h3.rd
      subst hA
      clear hb o2 h3
      have hlt : (j : Int) < (ps.length : Int) := by omega
      go_wp2
      go_ret2
      exact ⟨A', c', rfl, hrd.out, W3.out⟩
end Go.Proofs.YtnoglodggchgpaaDoor
