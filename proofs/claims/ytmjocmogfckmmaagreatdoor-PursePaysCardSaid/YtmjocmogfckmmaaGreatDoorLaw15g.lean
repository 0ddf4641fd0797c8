/-
 The fifteenth law file's 'grown': a tree that goes on with another one's nodes.
-/
import Derived.Test.YtmjocmogfckmmaaGreatDoorRef06k
import Derived.Test.YtmjocmogfckmmaaGreatDoorRef06f
namespace Go.Proofs.YtmjocmogfckmmaaGreatDoor
open Go.RowKit
set_option linter.unusedVariables false
set_option linter.unusedSimpArgs false
set_option maxRecDepth 100000

theorem boxesTwo15 (w : World) (A D : Option Addr) (n c m d : Nat) (root r2 : Int) :
  BoxT ((w.alloc (.cells #[.slice A n c, .int .i64 root] 24)).alloc (.cells #[.slice D m d, .int .i64 r2] 24)) w.heap.size A n c root ∧
  BoxT ((w.alloc (.cells #[.slice A n c, .int .i64 root] 24)).alloc (.cells #[.slice D m d, .int .i64 r2] 24)) (w.heap.size + 1) D m d r2 ∧
  Below w.heap.size w ((w.alloc (.cells #[.slice A n c, .int .i64 root] 24)).alloc (.cells #[.slice D m d, .int .i64 r2] 24)) := by
 have h2 := BoxT.new (w.alloc (.cells #[.slice A n c, .int .i64 root] 24)) D m d r2 24
 rw [World.size_alloc] at h2
 exact ⟨(BoxT.new w A n c root _).bel (ext_alloc _ _), h2, ext_trans (ext_alloc _ _) (ext_alloc _ _)⟩
set_option maxHeartbeats 2000000 in
theorem grown15_true (F G H : Nat → Prop) (A D Q : Option Addr) (c d q : Nat) (xs ts ms : List Nd) (xr tr : Int) (L : List Pr) (w : World) (hx : xs = ts ++ ms) (hm : mayT ⟨xs, xr⟩ = true) (hL : allT ⟨xs, xr⟩ = L)
  (hr : Row F w A xs) (hs : Row G w D ts) (hq : Row H w Q L) (hc : xs.length ≤ c) (hcm : xs.length ≤ 1000000) :
  Calls Tryz.prog 8 #[.agg #[.slice A xs.length c, .int .i64 xr], .agg #[.slice D ts.length d, .int .i64 tr], .slice Q L.length q] w fun e w' => e = .returned (.bool true) ∧ Below w.heap.size w w' := by
 obtain ⟨T0, U0, W0⟩ := boxesTwo15 w A D xs.length c ts.length d xr tr
 have hr0 := hid (hr.bel W0)
 have hs0 := hid (hs.bel W0)
 have hq0 := hid (hq.bel W0)
 have hut := Tryz.underlying24
 have hiX := hid (show (Tryz.prog.info? 24).map (·.size) = some ([Value.slice A xs.length c, .int .i64 xr]).length from sizeTr)
 have hiU := hid (show (Tryz.prog.info? 24).map (·.size) = some ([Value.slice D ts.length d, .int .i64 tr]).length from sizeTr)
 have hiO := hid (show (Tryz.prog.info? 24).map (·.size) = some ([Value.slice A ts.length c, .int .i64 tr]).length from sizeTr)
 have hC := hid (fun W hW => RMayT_is F A c xs xr true W hW (by omega) hm)
 have hA := fun W hW => RAllT_any F A c xs xr W hW hcm hm
 rw [hL] at hA
 have hxl : xs.length = ts.length + ms.length := by rw [hx, List.length_append]
 have htk : xs.take ts.length = ts := by rw [hx, List.take_left]
 have hSm := hid (fun W (hW : Row F W A xs) hV => RSameT_eq F G A D c d ts tr W (by have := hW.take ts.length; rw [htk] at this; exact this) hV (by omega))
 have hLl : L.length ≤ 262144 := by rw [← hL]; exact (all_short hm).2
 have hSp := hid (fun (K : Nat → Prop) A5 c5 W hW hV => RSameP_any K H A5 Q c5 q L.length L.length L L W hW hV rfl rfl (by omega) (by omega))
 have hbl := hid (built_trP A ts.length c tr)
 have hcut := run_upto slotNd A xs.length c ts.length (by omega)
 have q1 : decide ((xs.length : Int) < (ts.length : Int)) = false := decide_eq_false (by omega)
 have q1n : decide (xs.length < ts.length) = false := decide_eq_false (by omega)
 have y0 := T0.ns
 have y1 := U0.ns
 replace hA := hid hA
 have hx1 : ts.length ≤ xs.length := by omega
 clear hr hs hq hm hL hx htk hxl
 generalize hnx : xs.length = nx at *
 generalize hnt : ts.length = nt at *
 generalize hnl : L.length = nl at *
 replace hnx := hid hnx
 replace hnt := hid hnt
 replace hnl := hid hnl
 replace hcut := hid hcut
 go_enter Tryz.func8, Tryz.ntmps8
 go_wp2_with (first
  | ((with_reducible refine wpList_load_rng ?_ 24 (.tmp 3) rfl w.heap.size 0 rfl [Value.slice A nx c, .int .i64 xr] _ ?_ hut rfl hiX.out ?_); rfl; exact T0.all))
 refine (hC.out _ hr0.out).mono ?_
 rintro e w1 ⟨rfl, hb⟩
 have T1 := hid (T0.bel hb)
 have U1 := hid (U0.bel hb)
 have r1 := hid (hr0.out.bel hb)
 have s1 := hid (hs0.out.bel hb)
 have l1 := hid (hq0.out.bel hb)
 have W1 := hid (W0.trans (hb.mono W0.size))
 have z1 := T1.out.ns
 have z2 := U1.out.ns
 have z3 := U1.out.rt
 clear hb T0 U0 hr0 hs0 hq0 W0 y0 y1 hC
 go_wp2
 refine wp_region_noPanic ?_
 refine wp_region_held_drew (S := fun w' => Below w1.heap.size w1 w') (by kernel_rfl) ?_ (fun hHeld => ?_)
 ·exact bel_drew w1
 refine' tkL 0 ?_ rfl ?_ ?_
 rotate_left
 ·intro W hSw
  go_simp
  first | done | (with_reducible rfl)
 try simp only [Act.put, sQ]
 refine' tkL 1 ?_ rfl ?_ ?_
 rotate_left
 ·intro W hSw
  have hCell := (hSw.cell (World.block_lt_of_cell? _ _ z1)).trans z1
  go_simp
  first | done | (with_reducible rfl)
 try simp only [Act.put, sQ]
 refine' tkL 2 ?_ rfl ?_ ?_
 rotate_left
 ·intro W hSw
  go_simp
  first | done | (with_reducible rfl)
 try simp only [Act.put, sQ]
 refine' tkL 3 ?_ rfl ?_ ?_
 rotate_left
 ·intro W hSw
  have hCell := (hSw.cell (World.block_lt_of_cell? _ _ z2)).trans z2
  go_simp
  first | done | (with_reducible rfl)
 try simp only [Act.put, sQ]
 refine' tkL 4 ?_ rfl ?_ ?_
 rotate_left
 ·intro W hSw
  go_simp
  first | done | (with_reducible rfl)
 try simp only [Act.put, sQ]
 refine' tkH 5 rfl (yieldsIf_slice (by rfl) _ _ _ _ _ rfl _ _ _ _ _ (hcut.out) rfl rfl rfl rfl) ?_
 try simp only [Act.put, sQ]
 refine' tkL 6 ?_ rfl ?_ ?_
 rotate_left
 ·intro W hSw
  go_simp
  first | done | (with_reducible rfl)
 try simp only [Act.put, sQ]
 refine' tkL 7 ?_ rfl ?_ ?_
 rotate_left
 ·intro W hSw
  have hCell := (hSw.cell (World.block_lt_of_cell? _ _ z3)).trans z3
  go_simp
  first | done | (with_reducible rfl)
 try simp only [Act.put, sQ]
 refine' tkH 8 rfl (yieldsIf_build (by rfl) _ _ rfl _ _ (hbl.out) rfl) ?_
 try simp only [Act.put, sQ]
 refine wpAnyH_ready (rs := [9]) (by kernel_rfl) (by simp) ?_
 refine AllReadyH.cons (o := _) rfl (fun K hK => ?_) AllReadyH.nil
 refine step_alloc_rowT rfl 24 rfl zTrC zInfoTr ?_
 intro g6 w8 b6 e6 hB
 refine hK.out _ _ ?_ (fun hHeld => ?_)
 ·exact hHeld.trans (hB.mono hHeld.size)
 clear hK K
 try simp only [Act.put, sQ]
 refine wpAnyH_ready (rs := [10]) (by kernel_rfl) (by simp) ?_
 refine AllReadyH.cons (o := _) rfl (fun K hK => ?_) AllReadyH.nil
 refine step_store_rowT rfl 24 (.tmp 7) (.tmp 28) rfl g6 _ rfl rfl 24 zTrC e6 sizeTr rfl (one_trP A nt c tr) ?_
 intro w2 d6 hG
 refine hK.out _ _ ?_ (fun hHeld => ?_)
 ·exact hHeld.grown hG hHeld.size (by intro k hk; injection hk with hk; subst hk; exact b6)
 clear hK K
 try simp only [Act.put, sQ]
 refine wpAnyH_done (by kernel_rfl) ?_ _
 refine NoPanic.normal ?_
 have T2 := hid (T1.out.bel hHeld)
 have U2 := hid (U1.out.bel hHeld)
 have r2 := hid (r1.out.bel hHeld)
 have s2 := hid (s1.out.bel hHeld)
 have l2 := hid (l1.out.bel hHeld)
 have W2 := hid (W1.out.trans (hHeld.mono W1.out.size))
 have O2 := hid (rangeOf (l := [Value.slice A nt c, .int .i64 tr]) d6)
 clear hHeld T1 U1 r1 s1 l1 W1 z1 z2 z3 d6 hG b6
 try clear hB
 try clear e6
 go_wp2_with (first
  | ((with_reducible refine wpList_load_rng rfl 24 (.tmp 7) rfl g6 0 rfl [Value.slice A nt c, .int .i64 tr] _ ?_ hut rfl hiO.out ?_); exact O2.out)
  | ((with_reducible refine wpList_load_rng rfl 24 (.tmp 4) rfl (w.heap.size + 1) 0 rfl [Value.slice D nt d, .int .i64 tr] _ ?_ hut rfl hiU.out ?_); exact U2.out.all))
 refine (hSm.out _ r2.out s2.out).mono ?_
 rintro e w3 ⟨rfl, hb⟩
 have T3 := hid (T2.out.bel hb)
 have r3 := hid (r2.out.bel hb)
 have l3 := hid (l2.out.bel hb)
 have W3 := hid (W2.out.trans (hb.mono W2.out.size))
 clear hb T2 U2 r2 s2 l2 W2 O2
 go_wp2_with (first
  | ((with_reducible refine wpList_load_rng ?_ 24 (.tmp 3) rfl w.heap.size 0 rfl [Value.slice A nx c, .int .i64 xr] _ ?_ hut rfl hiX.out ?_); rfl; exact T3.out.all))
 refine (hA.out _ r3.out).mono ?_
 rintro e w4 ⟨A4, c4, rfl, ho4, hb⟩
 have l4 := hid (l3.out.bel hb)
 have W4 := hid (W3.out.trans (hb.mono W3.out.size))
 have o4 := hid (OwnR.row ho4)
 clear hb T3 r3 l3 W3 ho4
 go_wp2_with fail
 refine (hSp.out _ A4 c4 _ o4.out l4.out).mono ?_
 rintro e w5 ⟨rfl, hb⟩
 go_wp2
 go_ret
 exact ⟨ret_bP (by simp), W4.out.trans (hb.mono W4.out.size)⟩
end Go.Proofs.YtmjocmogfckmmaaGreatDoor
