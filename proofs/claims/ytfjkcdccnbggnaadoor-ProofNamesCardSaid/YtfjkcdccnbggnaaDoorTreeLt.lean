/-
  Contracts of the landed package tree: At.
-/
import Derived.Test.YtfjkcdccnbggnaaDoorTreeLz
namespace Go.Proofs.YtfjkcdccnbggnaaDoor
open Go.RowKit
set_option linter.unusedVariables false
set_option linter.unusedSimpArgs false
set_option maxRecDepth 100000

def atE (t : Tr) (r : Int) : Int := if mayT t = true then (if mayT ⟨t.ns, r⟩ = true then 0 else 2) else 8
def atT (t : Tr) (r : Int) : Tr := if atE t r = 0 then ⟨t.ns, r⟩ else ⟨[], 0⟩
theorem at_no {t : Tr} {r : Int} (h : ¬ atE t r = 0) : atT t r = ⟨[], 0⟩ := by unfold atT; rw [if_neg h]
theorem boxesAt (w : World) (A : Option Addr) (n c : Nat) (root : Int) :
    ((w.alloc (.cells #[.slice A n c, .int .i64 root] 44)).alloc (.cells zTrC 44)).heap[w.heap.size]? = some (.cells #[.slice A n c, .int .i64 root] 44) ∧
    ((w.alloc (.cells #[.slice A n c, .int .i64 root] 44)).alloc (.cells zTrC 44)).heap[w.heap.size + 1]? = some (.cells zTrC 44) ∧
    Below w.heap.size w ((w.alloc (.cells #[.slice A n c, .int .i64 root] 44)).alloc (.cells zTrC 44)) := by
  have h1 := heap_alloc_new w (.cells #[.slice A n c, .int .i64 root] 44)
  have h2 := heap_alloc_new (w.alloc (.cells #[.slice A n c, .int .i64 root] 44)) (.cells zTrC 44)
  rw [World.size_alloc] at h2
  exact ⟨((ext_alloc _ _).block _ (block_lt h1)).trans h1, h2, ext_trans (ext_alloc _ _) (ext_alloc _ _)⟩

set_option maxHeartbeats 4000000 in
theorem PTAt_any (F : Nat → Prop) (A : Option Addr) (c : Nat) (ns : List Nd) (root r : Int) (w : World) (hr : Row F w A ns) (hc : ns.length ≤ 1000000) :
    Calls Tryd.prog 24 #[.agg #[.slice A ns.length c, .int .i64 root], .int .i64 r] w fun e w' => ∃ A' c', e = .returned (.tuple #[.agg #[.slice A' (atT ⟨ns, root⟩ r).ns.length c', .int .i64 (atT ⟨ns, root⟩ r).root], .int .i64 (atE ⟨ns, root⟩ r)]) ∧ OwnR 50 w' w.heap.size A' c' (atT ⟨ns, root⟩ r).ns ∧ Below w.heap.size w w' := by
  obtain ⟨hb0, hz0, W0⟩ := boxesAt w A ns.length c root
  have hr0 := hr.bel W0
  have hut := Tryd.underlying44
  have hiT := hid (show (Tryd.prog.info? 44).map (·.size) = some ([Value.slice A ns.length c, .int .i64 root]).length from sizeTr)
  have hiR := hid (show (Tryd.prog.info? 44).map (·.size) = some ([Value.slice A ns.length c, .int .i64 r]).length from sizeTr)
  have hb0t := hid built_tr0
  obtain ⟨m, hm⟩ : ∃ m, mayT ⟨ns, root⟩ = m := ⟨_, rfl⟩
  have hC := hid (fun W hW => PTCheck_is F A c ns root m W hW (by omega) hm)
  obtain ⟨m2, hm2⟩ : ∃ m2, mayT ⟨ns, r⟩ = m2 := ⟨_, rfl⟩
  have hC2 := hid (fun W hW => PTCheck_is F A c ns r m2 W hW (by omega) hm2)
  replace hz0 := hid hz0
  cases m with
  | false =>
    have hE : atE ⟨ns, root⟩ r = 8 := by unfold atE; rw [hm]; rfl
    rw [at_no (by rw [hE]; decide), hE]
    clear hm hm2
    go_enter Tryd.func24, Tryd.ntmps24
    go_wp2_with (first
      | (with_reducible refine wpList_alloc_row rfl 44 rfl zTrC zInfoTr ?_)
      | ((with_reducible refine wpList_load_rng rfl 44 (.tmp 2) rfl w.heap.size 0 rfl [Value.slice A ns.length c, .int .i64 root] _ ?_ hut rfl hiT.out ?_); exact rangeOf (l := [Value.slice A ns.length c, .int .i64 root]) hb0))
    generalize (w.alloc (.cells #[.slice A ns.length c, .int .i64 root] 44)).alloc (.cells zTrC 44) = w0 at *
    refine (hC.out _ hr0).mono ?_
    rintro e w1 ⟨rfl, hb⟩
    have z1 := hid ((hb.block _ (block_lt hz0.out)).trans hz0.out)
    have W1 := hid (W0.trans (hb.mono W0.size))
    go_wp2_with (first
      | ((with_reducible refine wpList_built rfl 44 _ rfl zTrC [] ?_ ?_ ?_); exact hb0t.out; rfl)
      | ((with_reducible refine wpList_store_row rfl 44 (.tmp 4) (.tmp 11) rfl (w.heap.size + 1) _ rfl rfl 44 zTrC ?_ ?_ ?_ ?_ ?_); exact z1.out; exact sizeTr; rfl; exact one_zTr; intro w9 hg9 hb9 hs9))
    exact bodyPost_ret (res_tr2 Tryd.results24 _ _ (w.heap.size + 1) none 0 0 0 rfl hg9) rfl ⟨none, 0, rfl, OwnR.nil _ _, W1.out.grown hb9 W1.out.size (fun g e => by injection e with e; omega)⟩
  | true =>
    have hTw := hid (fun W hW => PTTwin_any F A c ns r W hW hc (fun x hx => Nat.le_trans (may_vals hm x hx) (by decide)))
    have hE : atE ⟨ns, root⟩ r = if m2 = true then 0 else 2 := by unfold atE; rw [hm, hm2]; rfl
    cases m2 with
    | false =>
      rw [if_neg (by decide)] at hE
      rw [at_no (by rw [hE]; decide), hE]
      clear hm hm2 hTw
      go_enter Tryd.func24, Tryd.ntmps24
      go_wp2_with (first
        | (with_reducible refine wpList_alloc_row rfl 44 rfl zTrC zInfoTr ?_)
        | ((with_reducible refine wpList_load_rng rfl 44 (.tmp 2) rfl w.heap.size 0 rfl [Value.slice A ns.length c, .int .i64 root] _ ?_ hut rfl hiT.out ?_); exact rangeOf (l := [Value.slice A ns.length c, .int .i64 root]) hb0))
      generalize (w.alloc (.cells #[.slice A ns.length c, .int .i64 root] 44)).alloc (.cells zTrC 44) = w0 at *
      refine (hC.out _ hr0).mono ?_
      rintro e w1 ⟨rfl, hb⟩
      have h1 := (hb.block _ (block_lt hb0)).trans hb0
      have y1 := block_cell h1 1
      have f1 := block_frozen h1 1
      simp only [List.getElem?_toArray, List.getElem?_cons_zero, List.getElem?_cons_succ] at y1
      have g2 := block_set h1 1 (.int .i64 r)
      rw [show (#[Value.slice A ns.length c, .int .i64 root] : Array Value).setIfInBounds 1 (.int .i64 r) = #[.slice A ns.length c, .int .i64 r] from rfl] at g2
      have s2 := hid (rangeOf (l := [Value.slice A ns.length c, .int .i64 r]) g2)
      have z2 := hid ((Below.heap_setCell w1 ⟨w.heap.size, 1, none⟩ (.int .i64 r) (w.heap.size + 1) (by simp)).trans ((hb.block _ (block_lt hz0.out)).trans hz0.out))
      have W2 := hid ((W0.trans (hb.mono W0.size)).setCell (p := ⟨w.heap.size, 1, none⟩) (Nat.le_refl _) (.int .i64 r))
      have r2 := hid (hr.bel W2.out)
      clear hb hb0 hz0 W0 hr0 h1 g2
      go_wp2_with (first
        | ((with_reducible refine wpList_load_rng rfl 44 (.tmp 2) rfl w.heap.size 0 rfl [Value.slice A ns.length c, .int .i64 r] _ ?_ hut rfl hiR.out ?_); exact s2.out))
      refine (hC2.out _ r2.out).mono ?_
      rintro e w3 ⟨rfl, hb⟩
      have z3 := hid ((hb.block _ (block_lt z2.out)).trans z2.out)
      have W3 := hid (W2.out.trans (hb.mono W2.out.size))
      go_wp2_with (first
        | ((with_reducible refine wpList_built rfl 44 _ rfl zTrC [] ?_ ?_ ?_); exact hb0t.out; rfl)
        | ((with_reducible refine wpList_store_row rfl 44 (.tmp 4) (.tmp 18) rfl (w.heap.size + 1) _ rfl rfl 44 zTrC ?_ ?_ ?_ ?_ ?_); exact z3.out; exact sizeTr; rfl; exact one_zTr; intro w9 hg9 hb9 hs9))
      exact bodyPost_ret (res_tr2 Tryd.results24 _ _ (w.heap.size + 1) none 0 0 0 rfl hg9) rfl ⟨none, 0, rfl, OwnR.nil _ _, W3.out.grown hb9 W3.out.size (fun g e => by injection e with e; omega)⟩
    | true =>
      rw [if_pos rfl] at hE
      have hT : atT ⟨ns, root⟩ r = ⟨ns, r⟩ := by unfold atT; rw [if_pos hE]
      rw [hT, hE]
      dsimp only
      clear hm hm2 hE hT
      go_enter Tryd.func24, Tryd.ntmps24
      go_wp2_with (first
        | (with_reducible refine wpList_alloc_row rfl 44 rfl zTrC zInfoTr ?_)
        | ((with_reducible refine wpList_load_rng rfl 44 (.tmp 2) rfl w.heap.size 0 rfl [Value.slice A ns.length c, .int .i64 root] _ ?_ hut rfl hiT.out ?_); exact rangeOf (l := [Value.slice A ns.length c, .int .i64 root]) hb0))
      generalize (w.alloc (.cells #[.slice A ns.length c, .int .i64 root] 44)).alloc (.cells zTrC 44) = w0 at *
      refine (hC.out _ hr0).mono ?_
      rintro e w1 ⟨rfl, hb⟩
      have h1 := (hb.block _ (block_lt hb0)).trans hb0
      have y1 := block_cell h1 1
      have f1 := block_frozen h1 1
      simp only [List.getElem?_toArray, List.getElem?_cons_zero, List.getElem?_cons_succ] at y1
      have g2 := block_set h1 1 (.int .i64 r)
      rw [show (#[Value.slice A ns.length c, .int .i64 root] : Array Value).setIfInBounds 1 (.int .i64 r) = #[.slice A ns.length c, .int .i64 r] from rfl] at g2
      have s2 := hid (rangeOf (l := [Value.slice A ns.length c, .int .i64 r]) g2)
      have z2 := hid ((Below.heap_setCell w1 ⟨w.heap.size, 1, none⟩ (.int .i64 r) (w.heap.size + 1) (by simp)).trans ((hb.block _ (block_lt hz0.out)).trans hz0.out))
      have W2 := hid ((W0.trans (hb.mono W0.size)).setCell (p := ⟨w.heap.size, 1, none⟩) (Nat.le_refl _) (.int .i64 r))
      have r2 := hid (hr.bel W2.out)
      clear hb hb0 hz0 W0 hr0 h1 g2
      go_wp2_with (first
        | ((with_reducible refine wpList_load_rng rfl 44 (.tmp 2) rfl w.heap.size 0 rfl [Value.slice A ns.length c, .int .i64 r] _ ?_ hut rfl hiR.out ?_); exact s2.out))
      refine (hC2.out _ r2.out).mono ?_
      rintro e w3 ⟨rfl, hb⟩
      have z3 := hid ((hb.block _ (block_lt z2.out)).trans z2.out)
      have s3 := hid (rangeBel2 hb s2.out)
      have r3 := hid (r2.out.bel hb)
      have W3 := hid (W2.out.trans (hb.mono W2.out.size))
      clear hb z2 s2 r2 W2
      go_wp2_with (first
        | ((with_reducible refine wpList_load_rng rfl 44 (.tmp 2) rfl w.heap.size 0 rfl [Value.slice A ns.length c, .int .i64 r] _ ?_ hut rfl hiR.out ?_); exact s3.out))
      refine (hTw.out _ r3.out).mono ?_
      rintro e w5 ⟨A5, c5, rfl, ho5, hb⟩
      have z5 := hid ((hb.block _ (block_lt z3.out)).trans z3.out)
      have W5 := hid (W3.out.trans (hb.mono W3.out.size))
      have s5 := hid (block_lt z3.out)
      clear hb
      go_wp2_with (first
        | ((with_reducible refine wpList_store_row rfl 44 (.tmp 4) (.tmp 20) rfl (w.heap.size + 1) _ rfl rfl 44 zTrC ?_ ?_ ?_ ?_ ?_); exact z5.out; exact sizeTr; rfl; exact one_trP A5 ns.length c5 r; intro w9 hg9 hb9 hs9))
      exact bodyPost_ret (res_tr2 Tryd.results24 _ _ (w.heap.size + 1) A5 ns.length c5 r rfl hg9) rfl ⟨A5, c5, rfl, OwnR.base (OwnQ.keptAtP ho5 hb9 (by have := s5.out; omega) (by have := s5.out; omega)) (by have := s5.out; omega), W5.out.grown hb9 W5.out.size (fun g e => by injection e with e; omega)⟩
end Go.Proofs.YtfjkcdccnbggnaaDoor
