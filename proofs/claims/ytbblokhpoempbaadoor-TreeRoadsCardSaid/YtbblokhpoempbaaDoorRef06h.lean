/-
  The document's answers of layer 6: Road.
-/
import Derived.Test.YtbblokhpoempbaaDoorRef06g
namespace Go.Proofs.YtbblokhpoempbaaDoor
open Go.RowKit
set_option linter.unusedVariables false
set_option linter.unusedSimpArgs false
set_option maxRecDepth 100000

theorem rowUp {α : Type} [Enc α] {w w' : World} {B g : Nat} {A : Option Addr} {xs : List α} (h : Row (fun b => B ≤ b) w A xs) (hg : w.grownBy w' (some g)) (hlt : g < B) : Row (fun b => b < w'.heap.size) w' A xs :=
  (h.kept (fun b hb hl => hg.block b hl fun e => by injection e with e; omega) hg.size).mono fun b _ hl => hl
set_option maxHeartbeats 2000000 in
theorem RRoad_any (F : Nat → Prop) (A : Option Addr) (c : Nat) (ns : List Nd) (root : Int) (k : Dg) (w : World) (hr : Row F w A ns) (hc : ns.length ≤ 1000) (hv : ∀ x ∈ ns, x.v.length ≤ 1000000) :
    Calls Tryd.prog 44 #[.agg #[.slice A ns.length c, .int .i64 root], .agg (k.1.map bv).toArray] w fun e w' => ∃ A1 c1 A2 c2, e = .returned (.tuple #[.agg (ndC (endN ⟨ns, root⟩ k) A1 c1).toArray, .slice A2 (sidesM ⟨ns, root⟩ k).length c2, .int .i64 (if mayT ⟨ns, root⟩ = true then 0 else 8)]) ∧
      Rd w' A1 (endN ⟨ns, root⟩ k).v ∧ Row (fun b => b < w'.heap.size) w' A2 (sidesM ⟨ns, root⟩ k) ∧ (sidesM ⟨ns, root⟩ k).length ≤ c2 ∧ Below w.heap.size w w' := by
  obtain ⟨hb0, hk0, hz0, W0⟩ := boxes3 w A ns.length c root k
  have hr0 := hr.bel W0
  have hu := Tryd.underlying23
  have hut := Tryd.underlying49
  have hun := Tryd.underlying55
  have hiT := hid (show (Tryd.prog.info? 49).map (·.size) = some ([Value.slice A ns.length c, .int .i64 root]).length from sizeTr)
  have hi := hid (sizeDgT k)
  have hbu := hid (show Tryd.prog.built 55 [] = some (ndC nd0 none 0).toArray by kernel_rfl)
  have hiN := fun x A2 c2 => hid (show (Tryd.prog.info? 55).map (·.size) = some (ndC x A2 c2).length by rw [len_nd]; exact sizeNd)
  have hiS := fun x A2 c2 => hid (show (Tryd.prog.info? 55).map (·.size) = some (ndC x A2 c2).toArray.size by rw [List.size_toArray, len_nd]; exact sizeNd)
  have hzs := fun x A2 c2 => hid (show zNdC.size = (ndC x A2 c2).toArray.size by rw [zSizeNd, List.size_toArray, len_nd])
  have hone := fun x A2 c2 => hid (one_nd x A2 c2)
  obtain ⟨m, hm⟩ : ∃ m, mayT ⟨ns, root⟩ = m := ⟨_, rfl⟩
  have hC := fun W hW => RMayT_is F A c ns root m W hW (by omega) hm
  replace hz0 := hid hz0
  replace hC := hid hC
  have hl0 := len_nd nd0 none 0
  have hiz := hiS nd0 none 0
  have hzz := hzs nd0 none 0
  have honez := hone nd0 none 0
  have rd0 : ∀ W, Rd W none nd0.v := fun W hn => absurd hn (by simp [nd0])
  cases m with
  | false =>
    rw [show endN ⟨ns, root⟩ k = nd0 by unfold endN; rw [hm]; rfl, show sidesM ⟨ns, root⟩ k = [] by unfold sidesM; rw [hm]; rfl, hm]
    clear hiS hzs hone hiN
    generalize hnd : nd0 = x0 at *
    generalize hcz : ndC x0 none 0 = cz at *
    generalize hdk : k.1.map bv = dk at *
    go_enter Tryd.func44, Tryd.ntmps44
    go_wp2_with (first
      | (with_reducible refine wpList_alloc_row rfl 55 rfl zNdC zInfoNd ?_)
      | ((with_reducible refine wpList_load_rng rfl 49 (.tmp 2) rfl w.heap.size 0 rfl [Value.slice A ns.length c, .int .i64 root] _ ?_ hut rfl hiT.out ?_); exact hb0.all))
    generalize ((w.alloc (.cells #[.slice A ns.length c, .int .i64 root] 49)).alloc (.cells dk.toArray 23)).alloc (.cells zNdC 55) = w0 at *
    refine (hC.out _ hr0).mono ?_
    rintro e w3 ⟨rfl, hb3⟩
    have z3 := hid ((hb3.block _ (block_lt hz0.out)).trans hz0.out)
    have W3 := hid (W0.trans (hb3.mono W0.size))
    go_wp2_with (first
      | ((with_reducible refine wpList_built rfl 55 _ rfl cz.toArray [] ?_ ?_ ?_); exact hbu.out; rfl)
      | ((with_reducible refine wpList_store_row rfl 55 (.tmp 4) (.tmp 13) rfl (w.heap.size + 1 + 1) _ rfl rfl 55 zNdC ?_ ?_ ?_ ?_ ?_); exact z3.out; exact hiz.out; exact hzz.out; exact honez.out; intro w4 hg4 hb4 hs4))
    exact bodyPost_ret (res_nd Tryd.results44 _ _ (w.heap.size + 1 + 1) _ rfl hg4 (by rw [List.size_toArray]; exact hl0)) rfl ⟨none, 0, none, ⟨0, by rw [hcz]; rfl⟩, rd0 _, Row.nil _ _ _, W3.out.grown hb4 W3.out.size (fun g e => by injection e with e; omega)⟩
  | true =>
    obtain ⟨-, m1, m2, ho, m3⟩ := mayT_iff.1 hm
    dsimp only at m1 m2 ho m3
    obtain ⟨⟨w1, w2, w3⟩, w4, -⟩ := way_spec (k := k) ho 256 root z0 (Nat.le_refl _) m1 m2 m3 zr_z0
    have hWy := fun W hW => RWay_any F A c ns root k W hW hc hm
    have hside : sidesM ⟨ns, root⟩ k = sideL ns (wayP ns k 256 root).2 := by unfold sidesM; rw [hm]; rfl
    have hendv : endN ⟨ns, root⟩ k = if (wayP ns k 256 root).1 = 0 then nd0 else ndAt ns (wayP ns k 256 root).1 := by unfold endN; rw [hm]; rfl
    rw [hside, hm, hendv]
    generalize sideL ns (wayP ns k 256 root).2 = L at *
    generalize (wayP ns k 256 root).1 = en at *
    clear hside hendv w4 m1 m2 m3 hm hr w3
    replace hWy := hid hWy
    by_cases hz : en = 0
    · subst hz
      rw [if_pos rfl]
      generalize hnd : nd0 = x0 at *
      generalize hcz : ndC x0 none 0 = cz at *
      generalize hdk : k.1.map bv = dk at *
      go_enter Tryd.func44, Tryd.ntmps44
      go_wp2_with (first
        | (with_reducible refine wpList_alloc_row rfl 55 rfl zNdC zInfoNd ?_)
        | ((with_reducible refine wpList_load_rng rfl 49 (.tmp 2) rfl w.heap.size 0 rfl [Value.slice A ns.length c, .int .i64 root] _ ?_ hut rfl hiT.out ?_); exact hb0.all))
      generalize ((w.alloc (.cells #[.slice A ns.length c, .int .i64 root] 49)).alloc (.cells dk.toArray 23)).alloc (.cells zNdC 55) = w0 at *
      refine (hC.out _ hr0).mono ?_
      rintro e w3 ⟨rfl, hb3⟩
      have T3 := hb0.bel hb3
      have k3 := rangeBel2 hb3 hk0
      have r3 := hid (hr0.bel hb3)
      have z3 := hid ((hb3.block _ (block_lt hz0.out)).trans hz0.out)
      have W3 := hid (W0.trans (hb3.mono W0.size))
      clear hb0 hk0 hr0 hz0 hb3 hC
      go_wp2_with (first
        | ((with_reducible refine wpList_load_rng rfl 49 (.tmp 2) rfl w.heap.size 0 rfl [Value.slice A ns.length c, .int .i64 root] _ ?_ hut rfl hiT.out ?_); exact T3.all)
        | ((with_reducible refine wpList_load_rng rfl 23 (.tmp 3) rfl (w.heap.size + 1) 0 rfl dk _ ?_ hu rfl hi.out ?_); exact k3))
      refine (hWy.out _ r3.out).mono ?_
      rintro e w4 ⟨A5, c5, rfl, ho5, hb4⟩
      have T4 := T3.bel hb4
      have r4 := hid (r3.out.bel hb4)
      have z4 := hid ((hb4.block _ (block_lt z3.out)).trans z3.out)
      have W4 := hid (W3.out.trans (hb4.mono W3.out.size))
      have o4 := hid ho5.row
      have q4 := hid ho5.cap
      have lt3 := hid (block_lt z3.out)
      have y4 := T4.ns
      clear T3 k3 r3 z3 W3 hb4 hWy ho5
      go_wp2_with (first
        | ((with_reducible refine wpList_built rfl 55 _ rfl cz.toArray [] ?_ ?_ ?_); exact hbu.out; rfl)
        | ((with_reducible refine wpList_store_row rfl 55 (.tmp 4) (.tmp 22) rfl (w.heap.size + 1 + 1) _ rfl rfl 55 zNdC ?_ ?_ ?_ ?_ ?_); exact z4.out; exact hiz.out; exact hzz.out; exact honez.out; intro w5 hg4 hb4 hs4))
      refine bodyPost_ret (res_nd Tryd.results44 _ _ (w.heap.size + 1 + 1) _ rfl hg4 (by rw [List.size_toArray]; exact hl0)) rfl ⟨none, 0, A5, c5, by rw [hcz]; rfl, rd0 _, ?_, q4.out.1, W4.out.grown hb4 W4.out.size (fun g e => by injection e with e; omega)⟩
      exact rowUp o4.out hb4 lt3.out
    · rw [if_neg hz]
      obtain ⟨j, hj, rfl, hx, -⟩ := ones_at ho (by omega) w2
      rw [hx]
      have hvx := hv _ (List.getElem_mem hj)
      generalize hdk : k.1.map bv = dk at *
      go_enter Tryd.func44, Tryd.ntmps44
      go_wp2_with (first
        | (with_reducible refine wpList_alloc_row rfl 55 rfl zNdC zInfoNd ?_)
        | ((with_reducible refine wpList_load_rng rfl 49 (.tmp 2) rfl w.heap.size 0 rfl [Value.slice A ns.length c, .int .i64 root] _ ?_ hut rfl hiT.out ?_); exact hb0.all))
      generalize ((w.alloc (.cells #[.slice A ns.length c, .int .i64 root] 49)).alloc (.cells dk.toArray 23)).alloc (.cells zNdC 55) = w0 at *
      refine (hC.out _ hr0).mono ?_
      rintro e w3 ⟨rfl, hb3⟩
      have T3 := hb0.bel hb3
      have k3 := rangeBel2 hb3 hk0
      have r3 := hid (hr0.bel hb3)
      have z3 := hid ((hb3.block _ (block_lt hz0.out)).trans hz0.out)
      have W3 := hid (W0.trans (hb3.mono W0.size))
      clear hb0 hk0 hr0 hz0 hb3 hC
      go_wp2_with (first
        | ((with_reducible refine wpList_load_rng rfl 49 (.tmp 2) rfl w.heap.size 0 rfl [Value.slice A ns.length c, .int .i64 root] _ ?_ hut rfl hiT.out ?_); exact T3.all)
        | ((with_reducible refine wpList_load_rng rfl 23 (.tmp 3) rfl (w.heap.size + 1) 0 rfl dk _ ?_ hu rfl hi.out ?_); exact k3))
      refine (hWy.out _ r3.out).mono ?_
      rintro e w4 ⟨A5, c5, rfl, ho5, hb4⟩
      have T4 := T3.bel hb4
      have r4 := hid (r3.out.bel hb4)
      have z4 := hid ((hb4.block _ (block_lt z3.out)).trans z3.out)
      have W4 := hid (W3.out.trans (hb4.mono W3.out.size))
      have o4 := hid ho5.row
      have q4 := hid ho5.cap
      have lt3 := hid (block_lt z3.out)
      have y4 := T4.ns
      clear T3 k3 r3 z3 W3 hb4 hWy ho5
      obtain ⟨q, o, hAe, A', c', hR, _, _, hv4, _⟩ := row_nd r4.out hj
      subst hAe
      have hne : ((j : Int) + 1 == 0) = false := beq_eq_false_iff_ne.2 hz
      have hw : IntKind.i64.wrap ((j : Int) + 1 - 1) = j := by rw [IntKind.wrap_i64]; omega
      have hrd := hid hv4.rd
      have hset := fun A2 c2 => nd_setR ns[j] A' A2 c' c2
      have hTw := fun W (hW : Rd W A' ns[j].v) => Twin_any A' ns[j].v.length c' ns[j].v W hW rfl (by omega)
      have hBN := fun (W : World) (g : Nat) (tt : TypeId) (h : W.heap[g]? = some (.cells (ndC ns[j] A' c').toArray tt (0, 0))) => BoxN.heap h
      have hz9 := hid (heap_alloc_new w4 (.cells zNdC 55))
      have hlN := fun A2 c2 => hid (len_nd ns[j] A2 c2)
      replace hiN := fun A2 c2 => hiN ns[j] A2 c2
      replace hiS := fun A2 c2 => hiS ns[j] A2 c2
      replace hzs := fun A2 c2 => hzs ns[j] A2 c2
      replace hone := fun A2 c2 => hone ns[j] A2 c2
      clear hx hl0 hiz hzz honez rd0 hv4
      replace hR := hid hR
      replace hTw := hid hTw
      replace hBN := hid hBN
      replace hset := hid hset
      go_wp2_with (first
        | (with_reducible refine wpList_alloc_row rfl 55 rfl zNdC zInfoNd ?_)
        | ((with_reducible refine wpList_load_rng rfl 55 (.tmp 28) rfl q (o + j * 36) rfl (ndC ns[j] A' c') _ ?_ hun rfl (hiN A' c').out ?_); exact hR.out)
        | ((with_reducible refine wpList_store_row rfl 55 (.tmp 9) (.tmp 29) rfl _ _ rfl rfl 55 zNdC ?_ ?_ ?_ ?_ ?_); exact hz9.out; exact (hiS A' c').out; exact (hzs A' c').out; exact (hone A' c').out; intro w5 hg4 hb4 hs4; have X5 := hid (xnew_ rfl hb4); have N5 := hBN.out _ _ _ hg4; have y5 := N5.val; have G5 := hid hg4; clear hg4 hb4 hs4))
      refine (hTw.out _ (hrd.out.bel X5.out)).mono ?_
      rintro e w6 ⟨A9, c9, rfl, ho6, hb6⟩
      have g6 := (hb6.block _ (block_lt G5.out)).trans G5.out
      have lt5 := hid (block_lt G5.out)
      have f6 := block_frozen g6 33
      have k6 := (hb6.cell (World.block_lt_of_cell? _ _ y5)).trans y5
      have g7 := block_set g6 33 (.slice A9 ns[j].v.length c9)
      rw [hset.out] at g7
      have G7 := hid (rangeOf g7)
      have Wa := hid (X5.out.trans (hb6.mono X5.out.size))
      have B7 := hid (Wa.out.setCell (p := ⟨w4.heap.size, 33, none⟩) (Nat.le_refl _) (.slice A9 ns[j].v.length c9))
      have o7 : Own 5 (w6.setCell ⟨w4.heap.size, 33, none⟩ (.slice A9 ns[j].v.length c9)) w5.heap.size A9 c9 ns[j].v := ownsRow_setCell_below ho6 lt5.out _
      replace o7 := hid o7
      have z7 := hid ((B7.out.block _ (block_lt z4.out)).trans z4.out)
      have row7 := hid (o4.out.bel B7.out)
      have W7 := hid (W4.out.trans (B7.out.mono W4.out.size))
      have lt4 := hid (block_lt z4.out)
      clear y5 N5 g6 g7 G5 ho6 hb6 hset hBN hTw hrd hR z4 W4 Wa X5 y4
      go_wp2_with (first
        | ((with_reducible refine wpList_load_rng rfl 55 (.tmp 9) rfl w4.heap.size 0 rfl (ndC ns[j] A9 c9) _ ?_ hun rfl (hiN A9 c9).out ?_); exact G7.out)
        | ((with_reducible refine wpList_store_row rfl 55 (.tmp 4) (.tmp 34) rfl (w.heap.size + 1 + 1) _ rfl rfl 55 zNdC ?_ ?_ ?_ ?_ ?_); exact z7.out; exact (hiS A9 c9).out; exact (hzs A9 c9).out; exact (hone A9 c9).out; intro w8 hg4 hb4 hs4))
      exact bodyPost_ret (res_nd Tryd.results44 _ _ (w.heap.size + 1 + 1) _ rfl hg4 (by rw [List.size_toArray]; exact (hlN A9 c9).out)) rfl ⟨A9, c9, A5, c5, rfl, (o7.out.kept hb4 fun a ha e => by have h1 := (o7.out.blk a ha).1; injection e with e; have h2 := lt5.out; have h3 := lt4.out; omega).rd, rowUp row7.out hb4 lt3.out, q4.out.1, W7.out.grown hb4 W7.out.size (fun g e => by injection e with e; omega)⟩
end Go.Proofs.YtbblokhpoempbaaDoor
