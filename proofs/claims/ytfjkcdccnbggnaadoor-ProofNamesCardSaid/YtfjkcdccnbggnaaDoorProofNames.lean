/-
  The Go function ProofNames returns true: the ends' numbers, and the chapter's examples.
  Conditions: none. The frame around the walk was written by program (proof-skeleton.mjs).
-/
import Derived.Test.YtfjkcdccnbggnaaDoorRows
import Derived.Test.YtfjkcdccnbggnaaDoorDoor
import Derived.WalkKit
import Derived.ProofKit
import Derived.OpenShut
import Derived.ShutString
import Derived.ChangeOld
import Derived.Below
import Derived.Test.YtfjkcdccnbggnaaDoorPfNm
import Derived.Test.YtfjkcdccnbggnaaDoorTreeB
namespace Go.Proofs.YtfjkcdccnbggnaaDoor.proofNames
open Go.ChangeShapes Go.WideShapes Go.ChangeAt Go.RowKit
open Go.ChangeMaps (open_string shut_string)
set_option linter.unusedVariables false      -- a walk need not use every 'w<i>' (that an integer argument fits its kind)

theorem own : ownKnob Tryd.prog.godebug = none := by kernel_rfl

/-! ### the walk -/
open Go.Proofs.YtfjkcdccnbggnaaDoor
set_option linter.unusedSimpArgs false
set_option maxRecDepth 100000 in
set_option maxHeartbeats 8000000 in
theorem walk  (w : World) (hT : Tab w) :
    Calls Tryd.prog 7 #[] w fun e w' => e = .returned (.bool true) ∧ Below w.heap.size w w' := by
  have hut := Tryd.underlying44
  have hup := Tryd.underlying61
  have hus := Tryd.underlying24
  have hu8 := Tryd.underlying5
  have hlow := hid hT.low
  have hb0 := hid built_tr0
  have hd3 := hid (built_dg1 3)
  have hd4 := hid (built_dg1 4)
  have hd200 := hid (built_dg1 200)
  have hd201 := hid (built_dg1 201)
  have hTw := hid (fun W => two_any W)
  have h2 : twoT.ns.length ≤ 1000000 := Nat.le_trans two_nodes (by decide)
  have hM4 := fun F A c W hW hTW => PfMake_any F A c twoT.ns twoT.root (dfst 4) W hW h2 hTW
  rw [show (⟨twoT.ns, twoT.root⟩ : Tr) = twoT from rfl, two_make4, two_may, if_pos rfl] at hM4
  have hM201 := fun F A c W hW hTW => PfMake_any F A c twoT.ns twoT.root (dfst 201) W hW h2 hTW
  rw [show (⟨twoT.ns, twoT.root⟩ : Tr) = twoT from rfl, two_make201, two_may, if_pos rfl] at hM201
  have hM0 : Hid (∀ W, Tab W → Calls Tryd.prog 30 #[.agg zTrC, .agg ((dfst 3).1.map bv).toArray] W fun e w' => ∃ A1 c1 A2 c2, e = .returned (.tuple #[.agg (pfC pC A1 c1 A2 c2).toArray, .int .i64 0]) ∧ Own 5 w' W.heap.size A1 c1 pC.v ∧ Row (fun b => b < w'.heap.size) w' A2 pC.ss ∧ Below W.heap.size W w') := hid (fun W hTW => by
    have h := PfMake_any (fun _ => False) none 0 [] 0 (dfst 3) W (Row.nil _ _ _) (by decide) hTW
    rw [nil_make3, nil_may, if_pos rfl] at h
    exact h)
  have hT4 := fun A c D d W h1 h2 h3 => PfTold_is pA A c D d false W h1 h2 h3 (by decide) told4
  have hT0 := fun A c D d W h1 h2 h3 => PfTold_is pC A c D d false W h1 h2 h3 (by decide) told0
  simp only [Bool.false_eq_true, if_false, List.length_nil] at hT4 hT0
  have hS4 := fun F G A A2 c c2 D D2 d d2 W h1 h2 h3 h4 => RPfSame_is F G pA pA A A2 c c2 D D2 d d2 true W h1 h2 h3 h4 (by decide) (by decide) (by decide) (by decide) (decide_eq_true rfl)
  have hS201 := fun F G A A2 c c2 D D2 d d2 W h1 h2 h3 h4 => RPfSame_is F G pB pB A A2 c c2 D D2 d d2 true W h1 h2 h3 h4 (by decide) (by decide) (by decide) (by decide) (decide_eq_true rfl)
  have hS0 := fun F A c D d W h1 h3 => RPfSame_is F (fun _ => False) pC pC A none c 0 D none d 0 true W h1 (fun h => absurd h (by decide)) h3 (Row.nil _ _ _) (by decide) (by decide) (by decide) (by decide) (decide_eq_true rfl)
  have hC := fun W => PfCheck_is pE none 0 none 0 false W (fun h => absurd h (by decide)) (by decide) (by decide) may_e1
  simp only [Bool.false_eq_true, if_false] at hC
  have b4 := hid (fun A c D d => show Tryd.prog.built 61 [(0, .agg ((dfst 4).1.map bv).toArray), (1, .int .u8 2), (2, .agg ((dfst 3).1.map bv).toArray), (3, .slice A 1 c), (4, .slice D 1 d)] = some (pfC pA A c D d).toArray from built_pf5 (dfst 4) (dfst 3) 2 [97] A c [leafD 200 98] D d)
  have b201 := hid (fun A c D d => show Tryd.prog.built 61 [(0, .agg ((dfst 201).1.map bv).toArray), (1, .int .u8 2), (2, .agg ((dfst 200).1.map bv).toArray), (3, .slice A 1 c), (4, .slice D 1 d)] = some (pfC pB A c D d).toArray from built_pf5 (dfst 201) (dfst 200) 2 [98] A c [leafD 3 97] D d)
  have bK := hid (show Tryd.prog.built 61 [(0, .agg ((dfst 3).1.map bv).toArray)] = some (pfC pC none 0 none 0).toArray from built_pfK (dfst 3))
  have bE := hid (show Tryd.prog.built 61 [(1, .int .u8 1)] = some (pfC pE none 0 none 0).toArray from built_pfE)
  have hpl := fun p A c D d => hid (sizePfC p A c D d)
  have hps := fun p A c D d => hid (sizePfS p A c D d)
  have hpz := fun p A c D d => hid (show zPfC.size = (pfC p A c D d).toArray.size by rw [zSizePf, List.size_toArray, len_pf])
  have hp1 := fun p A c D d => hid (one_pf p A c D d)
  have hAl := hid (fun W hTW => alive7_any W hTW)
  have H0 := hid hT
  have W0 := hid (Below.refl w.heap.size w)
  generalize twoT.ns = ns at *
  generalize twoT.root = root at *
  generalize (dfst 3).1.map bv = d3 at *
  generalize (dfst 4).1.map bv = d4 at *
  generalize (dfst 200).1.map bv = d200 at *
  generalize (dfst 201).1.map bv = d201 at *
  replace hM4 := hid hM4
  replace hM201 := hid hM201
  replace hT4 := hid hT4
  replace hT0 := hid hT0
  replace hS4 := hid hS4
  replace hS201 := hid hS201
  replace hS0 := hid hS0
  replace hC := hid hC
  clear hT
  go_enter Tryd.func7, Tryd.ntmps7
  go_wp2_with fail
  refine (hTw.out _).mono ?_
  rintro e w1 ⟨ad1, c1, rfl, hR, hb⟩
  have H1 := hid (H0.out.bel hb (Nat.lt_of_lt_of_le hlow.out W0.out.size))
  have W1 := hid (W0.out.trans (hb.mono W0.out.size))
  clear H0 W0
  have r1 := hid hR
  clear hb hR
  go_wp2_with (first
    | ((with_reducible refine wpList_built ?_ 23 _ rfl d4.toArray [(0, .int .u8 4)] ?_ ?_ ?_); rfl; exact hd4.out; rfl))
  refine (hM4.out _ ad1 c1 _ r1.out H1.out).mono ?_
  rintro e w2 ⟨ad2, c2, de2, d2, rfl, ho, hq, hb⟩
  have H2 := hid (H1.out.bel hb (Nat.lt_of_lt_of_le hlow.out W1.out.size))
  have W2 := hid (W1.out.trans (hb.mono W1.out.size))
  have r2 := hid (r1.out.bel hb)
  clear H1 W1 r1
  have v2 := hid ho.rd
  have s2 := hid hq
  have cv2 := hid ho.cap
  clear hb ho hq hM4
  clear r2
  have e2 := hid (heap_alloc_new w2 (.cells zPfC 61))
  have iP2 := (hpl pA ad2 c2 de2 d2).out
  have jP2 := (hps pA ad2 c2 de2 d2).out
  have zP2 := (hpz pA ad2 c2 de2 d2).out
  have oP2 := (hp1 pA ad2 c2 de2 d2).out
  replace iP2 := hid iP2
  replace jP2 := hid jP2
  replace zP2 := hid zP2
  replace oP2 := hid oP2
  go_wp2_with (first
    | (with_reducible refine wpList_alloc_row rfl 61 rfl zPfC zInfoPf ?_)
    | ((with_reducible refine wpList_store_row rfl 61 (.tmp 1) (.tmp 17) rfl _ _ rfl rfl 61 zPfC ?_ ?_ ?_ ?_ ?_); exact e2.out; exact jP2.out; exact zP2.out; exact oP2.out; intro w3 hgS hbS hsS; have X3 := hid (xnewP rfl hbS); have P3 := hid (rangeOf (l := pfC pA ad2 c2 de2 d2) hgS); clear hgS hbS hsS; have H3 := hid (H2.out.bel X3.out (Nat.lt_of_lt_of_le hlow.out W2.out.size)); have W3 := hid (W2.out.trans (X3.out.mono W2.out.size)); have v3 := hid (v2.out.bel X3.out); have s3 := hid (s2.out.bel X3.out); clear H2 W2 v2 s2))
  refine (hTw.out _).mono ?_
  rintro e w4 ⟨ad4, c4, rfl, hR, hb⟩
  have H4 := hid (H3.out.bel hb (Nat.lt_of_lt_of_le hlow.out W3.out.size))
  have W4 := hid (W3.out.trans (hb.mono W3.out.size))
  have v4 := hid (v3.out.bel hb)
  have s4 := hid (s3.out.bel hb)
  have P4 := hid (rangeBel2 hb P3.out)
  clear H3 W3 v3 s3 P3
  have r4 := hid hR
  clear hb hR hTw
  go_wp2_with (first
    | ((with_reducible refine wpList_built ?_ 23 _ rfl d201.toArray [(0, .int .u8 201)] ?_ ?_ ?_); rfl; exact hd201.out; rfl))
  refine (hM201.out _ ad4 c4 _ r4.out H4.out).mono ?_
  rintro e w5 ⟨ad5, c5, de5, d5, rfl, ho, hq, hb⟩
  have H5 := hid (H4.out.bel hb (Nat.lt_of_lt_of_le hlow.out W4.out.size))
  have W5 := hid (W4.out.trans (hb.mono W4.out.size))
  have v5 := hid (v4.out.bel hb)
  have s5 := hid (s4.out.bel hb)
  have P5 := hid (rangeBel2 hb P4.out)
  have r5 := hid (r4.out.bel hb)
  clear H4 W4 v4 s4 P4 r4
  have x5 := hid ho.rd
  have y5 := hid hq
  clear hb ho hq hM201
  clear r5
  have e5 := hid (heap_alloc_new w5 (.cells zPfC 61))
  have iP5 := (hpl pB ad5 c5 de5 d5).out
  have jP5 := (hps pB ad5 c5 de5 d5).out
  have zP5 := (hpz pB ad5 c5 de5 d5).out
  have oP5 := (hp1 pB ad5 c5 de5 d5).out
  replace iP5 := hid iP5
  replace jP5 := hid jP5
  replace zP5 := hid zP5
  replace oP5 := hid oP5
  go_wp2_with (first
    | (with_reducible refine wpList_alloc_row rfl 61 rfl zPfC zInfoPf ?_)
    | ((with_reducible refine wpList_store_row rfl 61 (.tmp 3) (.tmp 23) rfl _ _ rfl rfl 61 zPfC ?_ ?_ ?_ ?_ ?_); exact e5.out; exact jP5.out; exact zP5.out; exact oP5.out; intro w6 hgS hbS hsS; have X6 := hid (xnewP rfl hbS); have Q6 := hid (rangeOf (l := pfC pB ad5 c5 de5 d5) hgS); clear hgS hbS hsS; have H6 := hid (H5.out.bel X6.out (Nat.lt_of_lt_of_le hlow.out W5.out.size)); have W6 := hid (W5.out.trans (X6.out.mono W5.out.size)); have v6 := hid (v5.out.bel X6.out); have s6 := hid (s5.out.bel X6.out); have P6 := hid (rangeBel2 X6.out P5.out); have x6 := hid (x5.out.bel X6.out); have y6 := hid (y5.out.bel X6.out); clear H5 W5 v5 s5 P5 x5 y5)
    | ((with_reducible refine wpList_built rfl 44 _ rfl zTrC [] ?_ ?_ ?_); exact hb0.out; rfl)
    | ((with_reducible refine wpList_built ?_ 23 _ rfl d3.toArray [(0, .int .u8 3)] ?_ ?_ ?_); rfl; exact hd3.out; rfl))
  refine (hM0.out _ H6.out).mono ?_
  rintro e w7 ⟨ad7, c7, de7, d7, rfl, ho, hq, hb⟩
  have H7 := hid (H6.out.bel hb (Nat.lt_of_lt_of_le hlow.out W6.out.size))
  have W7 := hid (W6.out.trans (hb.mono W6.out.size))
  have v7 := hid (v6.out.bel hb)
  have s7 := hid (s6.out.bel hb)
  have P7 := hid (rangeBel2 hb P6.out)
  have x7 := hid (x6.out.bel hb)
  have y7 := hid (y6.out.bel hb)
  have Q7 := hid (rangeBel2 hb Q6.out)
  clear H6 W6 v6 s6 P6 x6 y6 Q6
  have z7 := hid ho.rd
  have u7 := hid hq
  have cz7 := hid ho.cap
  clear hb ho hq hM0
  have e7 := hid (heap_alloc_new w7 (.cells zPfC 61))
  have iP7 := (hpl pC ad7 c7 de7 d7).out
  have jP7 := (hps pC ad7 c7 de7 d7).out
  have zP7 := (hpz pC ad7 c7 de7 d7).out
  have oP7 := (hp1 pC ad7 c7 de7 d7).out
  replace iP7 := hid iP7
  replace jP7 := hid jP7
  replace zP7 := hid zP7
  replace oP7 := hid oP7
  go_wp2_with (first
    | (with_reducible refine wpList_alloc_row rfl 61 rfl zPfC zInfoPf ?_)
    | ((with_reducible refine wpList_store_row rfl 61 (.tmp 5) (.tmp 29) rfl _ _ rfl rfl 61 zPfC ?_ ?_ ?_ ?_ ?_); exact e7.out; exact jP7.out; exact zP7.out; exact oP7.out; intro w8 hgS hbS hsS; have X8 := hid (xnewP rfl hbS); have N8 := hid (rangeOf (l := pfC pC ad7 c7 de7 d7) hgS); clear hgS hbS hsS; have H8 := hid (H7.out.bel X8.out (Nat.lt_of_lt_of_le hlow.out W7.out.size)); have W8 := hid (W7.out.trans (X8.out.mono W7.out.size)); have v8 := hid (v7.out.bel X8.out); have s8 := hid (s7.out.bel X8.out); have P8 := hid (rangeBel2 X8.out P7.out); have x8 := hid (x7.out.bel X8.out); have y8 := hid (y7.out.bel X8.out); have Q8 := hid (rangeBel2 X8.out Q7.out); have z8 := hid (z7.out.bel X8.out); have u8 := hid (u7.out.bel X8.out); clear H7 W7 v7 s7 P7 x7 y7 Q7 z7 u7)
    | ((with_reducible refine wpList_load_rng ?_ 61 (.tmp 1) rfl w2.heap.size 0 rfl (pfC pA ad2 c2 de2 d2) _ ?_ hup rfl iP2.out ?_); rfl; exact P8.out))
  refine (hT4.out ad2 c2 de2 d2 _ v8.out cv2.out.1 cv2.out.2).mono ?_
  rintro e w9 ⟨ad9, c9, rfl, ho, hb⟩
  have H9 := hid (H8.out.bel hb (Nat.lt_of_lt_of_le hlow.out W8.out.size))
  have W9 := hid (W8.out.trans (hb.mono W8.out.size))
  have v9 := hid (v8.out.bel hb)
  have s9 := hid (s8.out.bel hb)
  have P9 := hid (rangeBel2 hb P8.out)
  have x9 := hid (x8.out.bel hb)
  have y9 := hid (y8.out.bel hb)
  have Q9 := hid (rangeBel2 hb Q8.out)
  have z9 := hid (z8.out.bel hb)
  have u9 := hid (u8.out.bel hb)
  have N9 := hid (rangeBel2 hb N8.out)
  clear H8 W8 v8 s8 P8 x8 y8 Q8 z8 u8 N8
  clear hb ho hT4
  go_wp2_with (first
    | ((with_reducible refine wpList_load_rng ?_ 61 (.tmp 5) rfl w7.heap.size 0 rfl (pfC pC ad7 c7 de7 d7) _ ?_ hup rfl iP7.out ?_); rfl; exact N9.out))
  refine (hT0.out ad7 c7 de7 d7 _ z9.out cz7.out.1 cz7.out.2).mono ?_
  rintro e w10 ⟨ad10, c10, rfl, ho, hb⟩
  have H10 := hid (H9.out.bel hb (Nat.lt_of_lt_of_le hlow.out W9.out.size))
  have W10 := hid (W9.out.trans (hb.mono W9.out.size))
  have v10 := hid (v9.out.bel hb)
  have s10 := hid (s9.out.bel hb)
  have P10 := hid (rangeBel2 hb P9.out)
  have x10 := hid (x9.out.bel hb)
  have y10 := hid (y9.out.bel hb)
  have Q10 := hid (rangeBel2 hb Q9.out)
  have z10 := hid (z9.out.bel hb)
  have u10 := hid (u9.out.bel hb)
  have N10 := hid (rangeBel2 hb N9.out)
  clear H9 W9 v9 s9 P9 x9 y9 Q9 z9 u9 N9
  clear hb ho hT0
  clear cv2 cz7
  have l10 := hid (Nat.lt_of_lt_of_le hlow.out W10.out.size)
  go_wp2
  refine wp_region_noPanic ?_
  refine wp_region_held_drew (S := fun w' => Below w10.heap.size w10 w') (by kernel_rfl) ?_ (fun hHeld => ?_)
  · exact bel_drew w10
  refine' wpAnyH_take (i := 0) (oi := _) (v := _) rfl (by kernel_rfl) (by kernel_rfl) (by kernel_rfl) (fun _ _ _ h => h) (yieldsIf_load_mid (by rfl) _ _ rfl _ _ rfl _ _ (fun _ h => rangeBel2 h P10.out) hup rfl iP2.out) (by assumption) ?_
  try simp only [Act.put, sQa, sQb, sQc, gQa, gQb, gQc]
  refine' wpAnyH_take (i := 1) (oi := _) (v := _) rfl (by kernel_rfl) (by kernel_rfl) (by kernel_rfl) (fun _ _ _ h => h) (yieldsIf_build (by rfl) _ _ rfl _ _ (hd4.out) rfl) (by assumption) ?_
  try simp only [Act.put, sQa, sQb, sQc, gQa, gQb, gQc]
  refine' wpAnyH_take (i := 2) (oi := _) (v := _) rfl (by kernel_rfl) (by kernel_rfl) (by kernel_rfl) (fun _ _ _ h => h) (yieldsIf_build (by rfl) _ _ rfl _ _ (hd3.out) rfl) (by assumption) ?_
  try simp only [Act.put, sQa, sQb, sQc, gQa, gQb, gQc]
  refine wpAnyH_ready (rs := [3, 5]) (by kernel_rfl) (by simp) ?_
  refine AllReadyH.cons (o := _) rfl (fun K hK => ?_) ?_
  · skip
    refine step_build1 slotU8b (by decide) (by rfl) (.const (.int .u8 97)) rfl [bv 97] rfl rfl ?_
    intro wag5 wa5 wam5 wak5 hB
    have wal5 := Nat.le_trans hHeld.size wam5
    have wag5lt := block_lt wak5
    try replace waq7 := waq7.bel hB
    refine hK.out _ _ ?_ (fun hHeld => ?_)
    · exact hHeld.trans (hB.mono hHeld.size)
    clear hK K
    try simp only [Act.put, sQa, sQb, sQc, gQa, gQb, gQc]
    refine wpAnyH_ready (rs := [4, 5]) (by kernel_rfl) (by simp) ?_
    refine AllReadyH.cons (o := _) rfl (fun K hK => ?_) ?_
    · skip
      refine step_convC (by rfl) 24 (.tmp 44) rfl wag5 1 1 _ 5 rfl wak5 hus hu8 ?_
      intro wa6 wafr6 wak6 wahC6
      try replace waq7 := waq7.chg wahC6 (fun b hb _ e => by obtain ⟨h1, h2⟩ := hb; omega)
      refine hK.out _ _ ?_ (fun hHeld => ?_)
      · exact hHeld.trans (Chg.below wahC6 hHeld.size (fun b hb e => by omega))
      clear hK K
      try simp only [Act.put, sQa, sQb, sQc, gQa, gQb, gQc]
      refine wpAnyH_ready (rs := [5]) (by kernel_rfl) (by simp) ?_
      refine AllReadyH.cons (o := _) rfl (fun K hK => ?_) AllReadyH.nil
      go_simp
      refine (side_is _ _ _ rfl rfl (H10.out.bel hHeld l10.out)).mono ?_
      rintro wae7 wa7 ⟨waA7, rfl, waq7, hB⟩
      try replace wak5 := (hB.block _ (block_lt wak5)).trans wak5
      try replace wak6 := (hB.block _ (Array.getElem?_eq_some_iff.1 wak6).1).trans wak6
      go_wp2_with fail
      refine hK.out _ _ ?_ (fun hHeld => ?_)
      · exact hHeld.trans (hB.mono hHeld.size)
      clear hK K
      try simp only [Act.put, sQa, sQb, sQc, gQa, gQb, gQc]
      refine' wpAnyH_take (i := 6) (oi := _) (v := _) rfl (by kernel_rfl) (by kernel_rfl) (by kernel_rfl) (fun _ _ _ h => h) (yieldsIf_build (by rfl) _ _ rfl _ _ (b4.out _ _ _ _) rfl) (by assumption) ?_
      try simp only [Act.put, sQa, sQb, sQc, gQa, gQb, gQc]
      refine wpAnyH_ready (rs := [7]) (by kernel_rfl) (by simp) ?_
      refine AllReadyH.cons (o := _) rfl (fun K hK => ?_) AllReadyH.nil
      go_simp
      refine (hS4.out _ _ ad2 _ c2 _ de2 _ d2 _ _ (v10.out.bel hHeld) (rd_frz (l := [97]) wak6) (s10.out.bel hHeld) waq7).mono ?_
      rintro wae9 wa9 ⟨rfl, hB⟩
      go_wp2_with fail
      refine hK.out _ _ ?_ (fun hHeld => ?_)
      · exact hHeld.trans (hB.mono hHeld.size)
      clear hK K
      try simp only [Act.put, sQa, sQb, sQc, gQa, gQb, gQc]
      refine' wpAnyH_take (i := 8) (oi := _) (v := ?_) rfl (by kernel_rfl) (by kernel_rfl) (by kernel_rfl) (fun _ _ _ h => h) (Or.inl ⟨by rfl, ?_⟩) (by assumption) ?_
      rotate_left
      · intro W hSw
        go_simp
        first | done | (with_reducible rfl)
      try simp only [Act.put, sQa, sQb, sQc, gQa, gQb, gQc]
      refine wpAnyH_done (by kernel_rfl) ?_ _
      refine NoPanic.normal ?_
      have H11 := hid (H10.out.bel hHeld (Nat.lt_of_lt_of_le hlow.out W10.out.size))
      have W11 := hid (W10.out.trans (hHeld.mono W10.out.size))
      have v11 := hid (v10.out.bel hHeld)
      have s11 := hid (s10.out.bel hHeld)
      have P11 := hid (rangeBel2 hHeld P10.out)
      have x11 := hid (x10.out.bel hHeld)
      have y11 := hid (y10.out.bel hHeld)
      have Q11 := hid (rangeBel2 hHeld Q10.out)
      have z11 := hid (z10.out.bel hHeld)
      have u11 := hid (u10.out.bel hHeld)
      have N11 := hid (rangeBel2 hHeld N10.out)
      clear H10 W10 v10 s10 P10 x10 y10 Q10 z10 u10 N10
      have l11 := hid (Nat.lt_of_lt_of_le hlow.out W11.out.size)
      clear hHeld
      go_wp2
      refine wp_region_noPanic ?_
      refine wp_region_held_drew (S := fun w' => Below wa9.heap.size wa9 w') (by kernel_rfl) ?_ (fun hHeld => ?_)
      · exact bel_drew wa9
      refine' wpAnyH_take (i := 0) (oi := _) (v := _) rfl (by kernel_rfl) (by kernel_rfl) (by kernel_rfl) (fun _ _ _ h => h) (yieldsIf_load_mid (by rfl) _ _ rfl _ _ rfl _ _ (fun _ h => rangeBel2 h Q11.out) hup rfl iP5.out) (by assumption) ?_
      try simp only [Act.put, sQa, sQb, sQc, gQa, gQb, gQc]
      refine' wpAnyH_take (i := 1) (oi := _) (v := _) rfl (by kernel_rfl) (by kernel_rfl) (by kernel_rfl) (fun _ _ _ h => h) (yieldsIf_build (by rfl) _ _ rfl _ _ (hd201.out) rfl) (by assumption) ?_
      try simp only [Act.put, sQa, sQb, sQc, gQa, gQb, gQc]
      refine' wpAnyH_take (i := 2) (oi := _) (v := _) rfl (by kernel_rfl) (by kernel_rfl) (by kernel_rfl) (fun _ _ _ h => h) (yieldsIf_build (by rfl) _ _ rfl _ _ (hd200.out) rfl) (by assumption) ?_
      try simp only [Act.put, sQa, sQb, sQc, gQa, gQb, gQc]
      refine wpAnyH_ready (rs := [3, 5]) (by kernel_rfl) (by simp) ?_
      refine AllReadyH.cons (o := _) rfl (fun K hK => ?_) ?_
      · skip
        refine step_build1 slotU8b (by decide) (by rfl) (.const (.int .u8 98)) rfl [bv 98] rfl rfl ?_
        intro wbg5 wb5 wbm5 wbk5 hB
        have wbl5 := Nat.le_trans hHeld.size wbm5
        have wbg5lt := block_lt wbk5
        try replace wbq7 := wbq7.bel hB
        refine hK.out _ _ ?_ (fun hHeld => ?_)
        · exact hHeld.trans (hB.mono hHeld.size)
        clear hK K
        try simp only [Act.put, sQa, sQb, sQc, gQa, gQb, gQc]
        refine wpAnyH_ready (rs := [4, 5]) (by kernel_rfl) (by simp) ?_
        refine AllReadyH.cons (o := _) rfl (fun K hK => ?_) ?_
        · skip
          refine step_convC (by rfl) 24 (.tmp 52) rfl wbg5 1 1 _ 5 rfl wbk5 hus hu8 ?_
          intro wb6 wbfr6 wbk6 wbhC6
          try replace wbq7 := wbq7.chg wbhC6 (fun b hb _ e => by obtain ⟨h1, h2⟩ := hb; omega)
          refine hK.out _ _ ?_ (fun hHeld => ?_)
          · exact hHeld.trans (Chg.below wbhC6 hHeld.size (fun b hb e => by omega))
          clear hK K
          try simp only [Act.put, sQa, sQb, sQc, gQa, gQb, gQc]
          refine wpAnyH_ready (rs := [5]) (by kernel_rfl) (by simp) ?_
          refine AllReadyH.cons (o := _) rfl (fun K hK => ?_) AllReadyH.nil
          go_simp
          refine (side_3 _ _ _ rfl rfl (H11.out.bel hHeld l11.out)).mono ?_
          rintro wbe7 wb7 ⟨wbA7, rfl, wbq7, hB⟩
          try replace wbk5 := (hB.block _ (block_lt wbk5)).trans wbk5
          try replace wbk6 := (hB.block _ (Array.getElem?_eq_some_iff.1 wbk6).1).trans wbk6
          go_wp2_with fail
          refine hK.out _ _ ?_ (fun hHeld => ?_)
          · exact hHeld.trans (hB.mono hHeld.size)
          clear hK K
          try simp only [Act.put, sQa, sQb, sQc, gQa, gQb, gQc]
          refine' wpAnyH_take (i := 6) (oi := _) (v := _) rfl (by kernel_rfl) (by kernel_rfl) (by kernel_rfl) (fun _ _ _ h => h) (yieldsIf_build (by rfl) _ _ rfl _ _ (b201.out _ _ _ _) rfl) (by assumption) ?_
          try simp only [Act.put, sQa, sQb, sQc, gQa, gQb, gQc]
          refine wpAnyH_ready (rs := [7]) (by kernel_rfl) (by simp) ?_
          refine AllReadyH.cons (o := _) rfl (fun K hK => ?_) AllReadyH.nil
          go_simp
          refine (hS201.out _ _ ad5 _ c5 _ de5 _ d5 _ _ (x11.out.bel hHeld) (rd_frz (l := [98]) wbk6) (y11.out.bel hHeld) wbq7).mono ?_
          rintro wbe9 wb9 ⟨rfl, hB⟩
          go_wp2_with fail
          refine hK.out _ _ ?_ (fun hHeld => ?_)
          · exact hHeld.trans (hB.mono hHeld.size)
          clear hK K
          try simp only [Act.put, sQa, sQb, sQc, gQa, gQb, gQc]
          refine' wpAnyH_take (i := 8) (oi := _) (v := ?_) rfl (by kernel_rfl) (by kernel_rfl) (by kernel_rfl) (fun _ _ _ h => h) (Or.inl ⟨by rfl, ?_⟩) (by assumption) ?_
          rotate_left
          · intro W hSw
            go_simp
            first | done | (with_reducible rfl)
          try simp only [Act.put, sQa, sQb, sQc, gQa, gQb, gQc]
          refine wpAnyH_done (by kernel_rfl) ?_ _
          refine NoPanic.normal ?_
          have H12 := hid (H11.out.bel hHeld (Nat.lt_of_lt_of_le hlow.out W11.out.size))
          have W12 := hid (W11.out.trans (hHeld.mono W11.out.size))
          have v12 := hid (v11.out.bel hHeld)
          have s12 := hid (s11.out.bel hHeld)
          have P12 := hid (rangeBel2 hHeld P11.out)
          have x12 := hid (x11.out.bel hHeld)
          have y12 := hid (y11.out.bel hHeld)
          have Q12 := hid (rangeBel2 hHeld Q11.out)
          have z12 := hid (z11.out.bel hHeld)
          have u12 := hid (u11.out.bel hHeld)
          have N12 := hid (rangeBel2 hHeld N11.out)
          clear H11 W11 v11 s11 P11 x11 y11 Q11 z11 u11 N11
          clear hHeld
          go_wp2_with fail
          refine (hAl.out _ H12.out).mono ?_
          rintro e w13 ⟨rfl, hb⟩
          have H13 := hid (H12.out.bel hb (Nat.lt_of_lt_of_le hlow.out W12.out.size))
          have W13 := hid (W12.out.trans (hb.mono W12.out.size))
          have v13 := hid (v12.out.bel hb)
          have s13 := hid (s12.out.bel hb)
          have P13 := hid (rangeBel2 hb P12.out)
          have x13 := hid (x12.out.bel hb)
          have y13 := hid (y12.out.bel hb)
          have Q13 := hid (rangeBel2 hb Q12.out)
          have z13 := hid (z12.out.bel hb)
          have u13 := hid (u12.out.bel hb)
          have N13 := hid (rangeBel2 hb N12.out)
          clear H12 W12 v12 s12 P12 x12 y12 Q12 z12 u12 N12
          clear hb 
          go_wp2_with (first
            | ((with_reducible refine wpList_load_rng ?_ 61 (.tmp 5) rfl w7.heap.size 0 rfl (pfC pC ad7 c7 de7 d7) _ ?_ hup rfl iP7.out ?_); rfl; exact N13.out)
            | ((with_reducible refine wpList_built ?_ 23 _ rfl d3.toArray [(0, .int .u8 3)] ?_ ?_ ?_); rfl; exact hd3.out; rfl)
            | ((with_reducible refine wpList_built ?_ 61 _ rfl (pfC pC none 0 none 0).toArray [(0, .agg d3.toArray)] ?_ ?_ ?_); rfl; exact bK.out; rfl))
          refine (hS0.out _ ad7 c7 de7 d7 _ z13.out u13.out).mono ?_
          rintro e w14 ⟨rfl, hb⟩
          have H14 := hid (H13.out.bel hb (Nat.lt_of_lt_of_le hlow.out W13.out.size))
          have W14 := hid (W13.out.trans (hb.mono W13.out.size))
          have v14 := hid (v13.out.bel hb)
          have s14 := hid (s13.out.bel hb)
          have P14 := hid (rangeBel2 hb P13.out)
          have x14 := hid (x13.out.bel hb)
          have y14 := hid (y13.out.bel hb)
          have Q14 := hid (rangeBel2 hb Q13.out)
          have z14 := hid (z13.out.bel hb)
          have u14 := hid (u13.out.bel hb)
          have N14 := hid (rangeBel2 hb N13.out)
          clear H13 W13 v13 s13 P13 x13 y13 Q13 z13 u13 N13
          clear hb 
          go_wp2_with (first
            | ((with_reducible refine wpList_built ?_ 61 _ rfl (pfC pE none 0 none 0).toArray [(1, .int .u8 1)] ?_ ?_ ?_); rfl; exact bE.out; rfl))
          refine (hC.out _).mono ?_
          rintro e w15 ⟨rfl, hb⟩
          have H15 := hid (H14.out.bel hb (Nat.lt_of_lt_of_le hlow.out W14.out.size))
          have W15 := hid (W14.out.trans (hb.mono W14.out.size))
          have v15 := hid (v14.out.bel hb)
          have s15 := hid (s14.out.bel hb)
          have P15 := hid (rangeBel2 hb P14.out)
          have x15 := hid (x14.out.bel hb)
          have y15 := hid (y14.out.bel hb)
          have Q15 := hid (rangeBel2 hb Q14.out)
          have z15 := hid (z14.out.bel hb)
          have u15 := hid (u14.out.bel hb)
          have N15 := hid (rangeBel2 hb N14.out)
          clear H14 W14 v14 s14 P14 x14 y14 Q14 z14 u14 N14
          clear hb 
          go_wp2
          go_ret
          exact ⟨rfl, W15.out⟩
        refine AllReadyH.cons (o := _) rfl (fun K hK => ?_) ?_
        · skip
          go_simp
          refine (side_3 _ _ _ rfl rfl (H11.out.bel hHeld l11.out)).mono ?_
          rintro wbe7 wb7 ⟨wbA7, rfl, wbq7, hB⟩
          try replace wbk5 := (hB.block _ (block_lt wbk5)).trans wbk5
          try replace wbk6 := (hB.block _ (Array.getElem?_eq_some_iff.1 wbk6).1).trans wbk6
          go_wp2_with fail
          refine hK.out _ _ ?_ (fun hHeld => ?_)
          · exact hHeld.trans (hB.mono hHeld.size)
          clear hK K
          try simp only [Act.put, sQa, sQb, sQc, gQa, gQb, gQc]
          refine wpAnyH_ready (rs := [4]) (by kernel_rfl) (by simp) ?_
          refine AllReadyH.cons (o := _) rfl (fun K hK => ?_) AllReadyH.nil
          refine step_convC (by rfl) 24 (.tmp 52) rfl wbg5 1 1 _ 5 rfl wbk5 hus hu8 ?_
          intro wb6 wbfr6 wbk6 wbhC6
          try replace wbq7 := wbq7.chg wbhC6 (fun b hb _ e => by obtain ⟨h1, h2⟩ := hb; omega)
          refine hK.out _ _ ?_ (fun hHeld => ?_)
          · exact hHeld.trans (Chg.below wbhC6 hHeld.size (fun b hb e => by omega))
          clear hK K
          try simp only [Act.put, sQa, sQb, sQc, gQa, gQb, gQc]
          refine' wpAnyH_take (i := 6) (oi := _) (v := _) rfl (by kernel_rfl) (by kernel_rfl) (by kernel_rfl) (fun _ _ _ h => h) (yieldsIf_build (by rfl) _ _ rfl _ _ (b201.out _ _ _ _) rfl) (by assumption) ?_
          try simp only [Act.put, sQa, sQb, sQc, gQa, gQb, gQc]
          refine wpAnyH_ready (rs := [7]) (by kernel_rfl) (by simp) ?_
          refine AllReadyH.cons (o := _) rfl (fun K hK => ?_) AllReadyH.nil
          go_simp
          refine (hS201.out _ _ ad5 _ c5 _ de5 _ d5 _ _ (x11.out.bel hHeld) (rd_frz (l := [98]) wbk6) (y11.out.bel hHeld) wbq7).mono ?_
          rintro wbe9 wb9 ⟨rfl, hB⟩
          go_wp2_with fail
          refine hK.out _ _ ?_ (fun hHeld => ?_)
          · exact hHeld.trans (hB.mono hHeld.size)
          clear hK K
          try simp only [Act.put, sQa, sQb, sQc, gQa, gQb, gQc]
          refine' wpAnyH_take (i := 8) (oi := _) (v := ?_) rfl (by kernel_rfl) (by kernel_rfl) (by kernel_rfl) (fun _ _ _ h => h) (Or.inl ⟨by rfl, ?_⟩) (by assumption) ?_
          rotate_left
          · intro W hSw
            go_simp
            first | done | (with_reducible rfl)
          try simp only [Act.put, sQa, sQb, sQc, gQa, gQb, gQc]
          refine wpAnyH_done (by kernel_rfl) ?_ _
          refine NoPanic.normal ?_
          have H12 := hid (H11.out.bel hHeld (Nat.lt_of_lt_of_le hlow.out W11.out.size))
          have W12 := hid (W11.out.trans (hHeld.mono W11.out.size))
          have v12 := hid (v11.out.bel hHeld)
          have s12 := hid (s11.out.bel hHeld)
          have P12 := hid (rangeBel2 hHeld P11.out)
          have x12 := hid (x11.out.bel hHeld)
          have y12 := hid (y11.out.bel hHeld)
          have Q12 := hid (rangeBel2 hHeld Q11.out)
          have z12 := hid (z11.out.bel hHeld)
          have u12 := hid (u11.out.bel hHeld)
          have N12 := hid (rangeBel2 hHeld N11.out)
          clear H11 W11 v11 s11 P11 x11 y11 Q11 z11 u11 N11
          clear hHeld
          go_wp2_with fail
          refine (hAl.out _ H12.out).mono ?_
          rintro e w13 ⟨rfl, hb⟩
          have H13 := hid (H12.out.bel hb (Nat.lt_of_lt_of_le hlow.out W12.out.size))
          have W13 := hid (W12.out.trans (hb.mono W12.out.size))
          have v13 := hid (v12.out.bel hb)
          have s13 := hid (s12.out.bel hb)
          have P13 := hid (rangeBel2 hb P12.out)
          have x13 := hid (x12.out.bel hb)
          have y13 := hid (y12.out.bel hb)
          have Q13 := hid (rangeBel2 hb Q12.out)
          have z13 := hid (z12.out.bel hb)
          have u13 := hid (u12.out.bel hb)
          have N13 := hid (rangeBel2 hb N12.out)
          clear H12 W12 v12 s12 P12 x12 y12 Q12 z12 u12 N12
          clear hb 
          go_wp2_with (first
            | ((with_reducible refine wpList_load_rng ?_ 61 (.tmp 5) rfl w7.heap.size 0 rfl (pfC pC ad7 c7 de7 d7) _ ?_ hup rfl iP7.out ?_); rfl; exact N13.out)
            | ((with_reducible refine wpList_built ?_ 23 _ rfl d3.toArray [(0, .int .u8 3)] ?_ ?_ ?_); rfl; exact hd3.out; rfl)
            | ((with_reducible refine wpList_built ?_ 61 _ rfl (pfC pC none 0 none 0).toArray [(0, .agg d3.toArray)] ?_ ?_ ?_); rfl; exact bK.out; rfl))
          refine (hS0.out _ ad7 c7 de7 d7 _ z13.out u13.out).mono ?_
          rintro e w14 ⟨rfl, hb⟩
          have H14 := hid (H13.out.bel hb (Nat.lt_of_lt_of_le hlow.out W13.out.size))
          have W14 := hid (W13.out.trans (hb.mono W13.out.size))
          have v14 := hid (v13.out.bel hb)
          have s14 := hid (s13.out.bel hb)
          have P14 := hid (rangeBel2 hb P13.out)
          have x14 := hid (x13.out.bel hb)
          have y14 := hid (y13.out.bel hb)
          have Q14 := hid (rangeBel2 hb Q13.out)
          have z14 := hid (z13.out.bel hb)
          have u14 := hid (u13.out.bel hb)
          have N14 := hid (rangeBel2 hb N13.out)
          clear H13 W13 v13 s13 P13 x13 y13 Q13 z13 u13 N13
          clear hb 
          go_wp2_with (first
            | ((with_reducible refine wpList_built ?_ 61 _ rfl (pfC pE none 0 none 0).toArray [(1, .int .u8 1)] ?_ ?_ ?_); rfl; exact bE.out; rfl))
          refine (hC.out _).mono ?_
          rintro e w15 ⟨rfl, hb⟩
          have H15 := hid (H14.out.bel hb (Nat.lt_of_lt_of_le hlow.out W14.out.size))
          have W15 := hid (W14.out.trans (hb.mono W14.out.size))
          have v15 := hid (v14.out.bel hb)
          have s15 := hid (s14.out.bel hb)
          have P15 := hid (rangeBel2 hb P14.out)
          have x15 := hid (x14.out.bel hb)
          have y15 := hid (y14.out.bel hb)
          have Q15 := hid (rangeBel2 hb Q14.out)
          have z15 := hid (z14.out.bel hb)
          have u15 := hid (u14.out.bel hb)
          have N15 := hid (rangeBel2 hb N14.out)
          clear H14 W14 v14 s14 P14 x14 y14 Q14 z14 u14 N14
          clear hb 
          go_wp2
          go_ret
          exact ⟨rfl, W15.out⟩
        exact AllReadyH.nil
      refine AllReadyH.cons (o := _) rfl (fun K hK => ?_) ?_
      · skip
        go_simp
        refine (side_3 _ _ _ rfl rfl (H11.out.bel hHeld l11.out)).mono ?_
        rintro wbe7 wb7 ⟨wbA7, rfl, wbq7, hB⟩
        try replace wbk5 := (hB.block _ (block_lt wbk5)).trans wbk5
        try replace wbk6 := (hB.block _ (Array.getElem?_eq_some_iff.1 wbk6).1).trans wbk6
        go_wp2_with fail
        refine hK.out _ _ ?_ (fun hHeld => ?_)
        · exact hHeld.trans (hB.mono hHeld.size)
        clear hK K
        try simp only [Act.put, sQa, sQb, sQc, gQa, gQb, gQc]
        refine wpAnyH_ready (rs := [3]) (by kernel_rfl) (by simp) ?_
        refine AllReadyH.cons (o := _) rfl (fun K hK => ?_) AllReadyH.nil
        refine step_build1 slotU8b (by decide) (by rfl) (.const (.int .u8 98)) rfl [bv 98] rfl rfl ?_
        intro wbg5 wb5 wbm5 wbk5 hB
        have wbl5 := Nat.le_trans hHeld.size wbm5
        have wbg5lt := block_lt wbk5
        try replace wbq7 := wbq7.bel hB
        refine hK.out _ _ ?_ (fun hHeld => ?_)
        · exact hHeld.trans (hB.mono hHeld.size)
        clear hK K
        try simp only [Act.put, sQa, sQb, sQc, gQa, gQb, gQc]
        refine wpAnyH_ready (rs := [4]) (by kernel_rfl) (by simp) ?_
        refine AllReadyH.cons (o := _) rfl (fun K hK => ?_) AllReadyH.nil
        refine step_convC (by rfl) 24 (.tmp 52) rfl wbg5 1 1 _ 5 rfl wbk5 hus hu8 ?_
        intro wb6 wbfr6 wbk6 wbhC6
        try replace wbq7 := wbq7.chg wbhC6 (fun b hb _ e => by obtain ⟨h1, h2⟩ := hb; omega)
        refine hK.out _ _ ?_ (fun hHeld => ?_)
        · exact hHeld.trans (Chg.below wbhC6 hHeld.size (fun b hb e => by omega))
        clear hK K
        try simp only [Act.put, sQa, sQb, sQc, gQa, gQb, gQc]
        refine' wpAnyH_take (i := 6) (oi := _) (v := _) rfl (by kernel_rfl) (by kernel_rfl) (by kernel_rfl) (fun _ _ _ h => h) (yieldsIf_build (by rfl) _ _ rfl _ _ (b201.out _ _ _ _) rfl) (by assumption) ?_
        try simp only [Act.put, sQa, sQb, sQc, gQa, gQb, gQc]
        refine wpAnyH_ready (rs := [7]) (by kernel_rfl) (by simp) ?_
        refine AllReadyH.cons (o := _) rfl (fun K hK => ?_) AllReadyH.nil
        go_simp
        refine (hS201.out _ _ ad5 _ c5 _ de5 _ d5 _ _ (x11.out.bel hHeld) (rd_frz (l := [98]) wbk6) (y11.out.bel hHeld) wbq7).mono ?_
        rintro wbe9 wb9 ⟨rfl, hB⟩
        go_wp2_with fail
        refine hK.out _ _ ?_ (fun hHeld => ?_)
        · exact hHeld.trans (hB.mono hHeld.size)
        clear hK K
        try simp only [Act.put, sQa, sQb, sQc, gQa, gQb, gQc]
        refine' wpAnyH_take (i := 8) (oi := _) (v := ?_) rfl (by kernel_rfl) (by kernel_rfl) (by kernel_rfl) (fun _ _ _ h => h) (Or.inl ⟨by rfl, ?_⟩) (by assumption) ?_
        rotate_left
        · intro W hSw
          go_simp
          first | done | (with_reducible rfl)
        try simp only [Act.put, sQa, sQb, sQc, gQa, gQb, gQc]
        refine wpAnyH_done (by kernel_rfl) ?_ _
        refine NoPanic.normal ?_
        have H12 := hid (H11.out.bel hHeld (Nat.lt_of_lt_of_le hlow.out W11.out.size))
        have W12 := hid (W11.out.trans (hHeld.mono W11.out.size))
        have v12 := hid (v11.out.bel hHeld)
        have s12 := hid (s11.out.bel hHeld)
        have P12 := hid (rangeBel2 hHeld P11.out)
        have x12 := hid (x11.out.bel hHeld)
        have y12 := hid (y11.out.bel hHeld)
        have Q12 := hid (rangeBel2 hHeld Q11.out)
        have z12 := hid (z11.out.bel hHeld)
        have u12 := hid (u11.out.bel hHeld)
        have N12 := hid (rangeBel2 hHeld N11.out)
        clear H11 W11 v11 s11 P11 x11 y11 Q11 z11 u11 N11
        clear hHeld
        go_wp2_with fail
        refine (hAl.out _ H12.out).mono ?_
        rintro e w13 ⟨rfl, hb⟩
        have H13 := hid (H12.out.bel hb (Nat.lt_of_lt_of_le hlow.out W12.out.size))
        have W13 := hid (W12.out.trans (hb.mono W12.out.size))
        have v13 := hid (v12.out.bel hb)
        have s13 := hid (s12.out.bel hb)
        have P13 := hid (rangeBel2 hb P12.out)
        have x13 := hid (x12.out.bel hb)
        have y13 := hid (y12.out.bel hb)
        have Q13 := hid (rangeBel2 hb Q12.out)
        have z13 := hid (z12.out.bel hb)
        have u13 := hid (u12.out.bel hb)
        have N13 := hid (rangeBel2 hb N12.out)
        clear H12 W12 v12 s12 P12 x12 y12 Q12 z12 u12 N12
        clear hb 
        go_wp2_with (first
          | ((with_reducible refine wpList_load_rng ?_ 61 (.tmp 5) rfl w7.heap.size 0 rfl (pfC pC ad7 c7 de7 d7) _ ?_ hup rfl iP7.out ?_); rfl; exact N13.out)
          | ((with_reducible refine wpList_built ?_ 23 _ rfl d3.toArray [(0, .int .u8 3)] ?_ ?_ ?_); rfl; exact hd3.out; rfl)
          | ((with_reducible refine wpList_built ?_ 61 _ rfl (pfC pC none 0 none 0).toArray [(0, .agg d3.toArray)] ?_ ?_ ?_); rfl; exact bK.out; rfl))
        refine (hS0.out _ ad7 c7 de7 d7 _ z13.out u13.out).mono ?_
        rintro e w14 ⟨rfl, hb⟩
        have H14 := hid (H13.out.bel hb (Nat.lt_of_lt_of_le hlow.out W13.out.size))
        have W14 := hid (W13.out.trans (hb.mono W13.out.size))
        have v14 := hid (v13.out.bel hb)
        have s14 := hid (s13.out.bel hb)
        have P14 := hid (rangeBel2 hb P13.out)
        have x14 := hid (x13.out.bel hb)
        have y14 := hid (y13.out.bel hb)
        have Q14 := hid (rangeBel2 hb Q13.out)
        have z14 := hid (z13.out.bel hb)
        have u14 := hid (u13.out.bel hb)
        have N14 := hid (rangeBel2 hb N13.out)
        clear H13 W13 v13 s13 P13 x13 y13 Q13 z13 u13 N13
        clear hb 
        go_wp2_with (first
          | ((with_reducible refine wpList_built ?_ 61 _ rfl (pfC pE none 0 none 0).toArray [(1, .int .u8 1)] ?_ ?_ ?_); rfl; exact bE.out; rfl))
        refine (hC.out _).mono ?_
        rintro e w15 ⟨rfl, hb⟩
        have H15 := hid (H14.out.bel hb (Nat.lt_of_lt_of_le hlow.out W14.out.size))
        have W15 := hid (W14.out.trans (hb.mono W14.out.size))
        have v15 := hid (v14.out.bel hb)
        have s15 := hid (s14.out.bel hb)
        have P15 := hid (rangeBel2 hb P14.out)
        have x15 := hid (x14.out.bel hb)
        have y15 := hid (y14.out.bel hb)
        have Q15 := hid (rangeBel2 hb Q14.out)
        have z15 := hid (z14.out.bel hb)
        have u15 := hid (u14.out.bel hb)
        have N15 := hid (rangeBel2 hb N14.out)
        clear H14 W14 v14 s14 P14 x14 y14 Q14 z14 u14 N14
        clear hb 
        go_wp2
        go_ret
        exact ⟨rfl, W15.out⟩
      exact AllReadyH.nil
    refine AllReadyH.cons (o := _) rfl (fun K hK => ?_) ?_
    · skip
      go_simp
      refine (side_is _ _ _ rfl rfl (H10.out.bel hHeld l10.out)).mono ?_
      rintro wae7 wa7 ⟨waA7, rfl, waq7, hB⟩
      try replace wak5 := (hB.block _ (block_lt wak5)).trans wak5
      try replace wak6 := (hB.block _ (Array.getElem?_eq_some_iff.1 wak6).1).trans wak6
      go_wp2_with fail
      refine hK.out _ _ ?_ (fun hHeld => ?_)
      · exact hHeld.trans (hB.mono hHeld.size)
      clear hK K
      try simp only [Act.put, sQa, sQb, sQc, gQa, gQb, gQc]
      refine wpAnyH_ready (rs := [4]) (by kernel_rfl) (by simp) ?_
      refine AllReadyH.cons (o := _) rfl (fun K hK => ?_) AllReadyH.nil
      refine step_convC (by rfl) 24 (.tmp 44) rfl wag5 1 1 _ 5 rfl wak5 hus hu8 ?_
      intro wa6 wafr6 wak6 wahC6
      try replace waq7 := waq7.chg wahC6 (fun b hb _ e => by obtain ⟨h1, h2⟩ := hb; omega)
      refine hK.out _ _ ?_ (fun hHeld => ?_)
      · exact hHeld.trans (Chg.below wahC6 hHeld.size (fun b hb e => by omega))
      clear hK K
      try simp only [Act.put, sQa, sQb, sQc, gQa, gQb, gQc]
      refine' wpAnyH_take (i := 6) (oi := _) (v := _) rfl (by kernel_rfl) (by kernel_rfl) (by kernel_rfl) (fun _ _ _ h => h) (yieldsIf_build (by rfl) _ _ rfl _ _ (b4.out _ _ _ _) rfl) (by assumption) ?_
      try simp only [Act.put, sQa, sQb, sQc, gQa, gQb, gQc]
      refine wpAnyH_ready (rs := [7]) (by kernel_rfl) (by simp) ?_
      refine AllReadyH.cons (o := _) rfl (fun K hK => ?_) AllReadyH.nil
      go_simp
      refine (hS4.out _ _ ad2 _ c2 _ de2 _ d2 _ _ (v10.out.bel hHeld) (rd_frz (l := [97]) wak6) (s10.out.bel hHeld) waq7).mono ?_
      rintro wae9 wa9 ⟨rfl, hB⟩
      go_wp2_with fail
      refine hK.out _ _ ?_ (fun hHeld => ?_)
      · exact hHeld.trans (hB.mono hHeld.size)
      clear hK K
      try simp only [Act.put, sQa, sQb, sQc, gQa, gQb, gQc]
      refine' wpAnyH_take (i := 8) (oi := _) (v := ?_) rfl (by kernel_rfl) (by kernel_rfl) (by kernel_rfl) (fun _ _ _ h => h) (Or.inl ⟨by rfl, ?_⟩) (by assumption) ?_
      rotate_left
      · intro W hSw
        go_simp
        first | done | (with_reducible rfl)
      try simp only [Act.put, sQa, sQb, sQc, gQa, gQb, gQc]
      refine wpAnyH_done (by kernel_rfl) ?_ _
      refine NoPanic.normal ?_
      have H11 := hid (H10.out.bel hHeld (Nat.lt_of_lt_of_le hlow.out W10.out.size))
      have W11 := hid (W10.out.trans (hHeld.mono W10.out.size))
      have v11 := hid (v10.out.bel hHeld)
      have s11 := hid (s10.out.bel hHeld)
      have P11 := hid (rangeBel2 hHeld P10.out)
      have x11 := hid (x10.out.bel hHeld)
      have y11 := hid (y10.out.bel hHeld)
      have Q11 := hid (rangeBel2 hHeld Q10.out)
      have z11 := hid (z10.out.bel hHeld)
      have u11 := hid (u10.out.bel hHeld)
      have N11 := hid (rangeBel2 hHeld N10.out)
      clear H10 W10 v10 s10 P10 x10 y10 Q10 z10 u10 N10
      have l11 := hid (Nat.lt_of_lt_of_le hlow.out W11.out.size)
      clear hHeld
      go_wp2
      refine wp_region_noPanic ?_
      refine wp_region_held_drew (S := fun w' => Below wa9.heap.size wa9 w') (by kernel_rfl) ?_ (fun hHeld => ?_)
      · exact bel_drew wa9
      refine' wpAnyH_take (i := 0) (oi := _) (v := _) rfl (by kernel_rfl) (by kernel_rfl) (by kernel_rfl) (fun _ _ _ h => h) (yieldsIf_load_mid (by rfl) _ _ rfl _ _ rfl _ _ (fun _ h => rangeBel2 h Q11.out) hup rfl iP5.out) (by assumption) ?_
      try simp only [Act.put, sQa, sQb, sQc, gQa, gQb, gQc]
      refine' wpAnyH_take (i := 1) (oi := _) (v := _) rfl (by kernel_rfl) (by kernel_rfl) (by kernel_rfl) (fun _ _ _ h => h) (yieldsIf_build (by rfl) _ _ rfl _ _ (hd201.out) rfl) (by assumption) ?_
      try simp only [Act.put, sQa, sQb, sQc, gQa, gQb, gQc]
      refine' wpAnyH_take (i := 2) (oi := _) (v := _) rfl (by kernel_rfl) (by kernel_rfl) (by kernel_rfl) (fun _ _ _ h => h) (yieldsIf_build (by rfl) _ _ rfl _ _ (hd200.out) rfl) (by assumption) ?_
      try simp only [Act.put, sQa, sQb, sQc, gQa, gQb, gQc]
      refine wpAnyH_ready (rs := [3, 5]) (by kernel_rfl) (by simp) ?_
      refine AllReadyH.cons (o := _) rfl (fun K hK => ?_) ?_
      · skip
        refine step_build1 slotU8b (by decide) (by rfl) (.const (.int .u8 98)) rfl [bv 98] rfl rfl ?_
        intro wbg5 wb5 wbm5 wbk5 hB
        have wbl5 := Nat.le_trans hHeld.size wbm5
        have wbg5lt := block_lt wbk5
        try replace wbq7 := wbq7.bel hB
        refine hK.out _ _ ?_ (fun hHeld => ?_)
        · exact hHeld.trans (hB.mono hHeld.size)
        clear hK K
        try simp only [Act.put, sQa, sQb, sQc, gQa, gQb, gQc]
        refine wpAnyH_ready (rs := [4, 5]) (by kernel_rfl) (by simp) ?_
        refine AllReadyH.cons (o := _) rfl (fun K hK => ?_) ?_
        · skip
          refine step_convC (by rfl) 24 (.tmp 52) rfl wbg5 1 1 _ 5 rfl wbk5 hus hu8 ?_
          intro wb6 wbfr6 wbk6 wbhC6
          try replace wbq7 := wbq7.chg wbhC6 (fun b hb _ e => by obtain ⟨h1, h2⟩ := hb; omega)
          refine hK.out _ _ ?_ (fun hHeld => ?_)
          · exact hHeld.trans (Chg.below wbhC6 hHeld.size (fun b hb e => by omega))
          clear hK K
          try simp only [Act.put, sQa, sQb, sQc, gQa, gQb, gQc]
          refine wpAnyH_ready (rs := [5]) (by kernel_rfl) (by simp) ?_
          refine AllReadyH.cons (o := _) rfl (fun K hK => ?_) AllReadyH.nil
          go_simp
          refine (side_3 _ _ _ rfl rfl (H11.out.bel hHeld l11.out)).mono ?_
          rintro wbe7 wb7 ⟨wbA7, rfl, wbq7, hB⟩
          try replace wbk5 := (hB.block _ (block_lt wbk5)).trans wbk5
          try replace wbk6 := (hB.block _ (Array.getElem?_eq_some_iff.1 wbk6).1).trans wbk6
          go_wp2_with fail
          refine hK.out _ _ ?_ (fun hHeld => ?_)
          · exact hHeld.trans (hB.mono hHeld.size)
          clear hK K
          try simp only [Act.put, sQa, sQb, sQc, gQa, gQb, gQc]
          refine' wpAnyH_take (i := 6) (oi := _) (v := _) rfl (by kernel_rfl) (by kernel_rfl) (by kernel_rfl) (fun _ _ _ h => h) (yieldsIf_build (by rfl) _ _ rfl _ _ (b201.out _ _ _ _) rfl) (by assumption) ?_
          try simp only [Act.put, sQa, sQb, sQc, gQa, gQb, gQc]
          refine wpAnyH_ready (rs := [7]) (by kernel_rfl) (by simp) ?_
          refine AllReadyH.cons (o := _) rfl (fun K hK => ?_) AllReadyH.nil
          go_simp
          refine (hS201.out _ _ ad5 _ c5 _ de5 _ d5 _ _ (x11.out.bel hHeld) (rd_frz (l := [98]) wbk6) (y11.out.bel hHeld) wbq7).mono ?_
          rintro wbe9 wb9 ⟨rfl, hB⟩
          go_wp2_with fail
          refine hK.out _ _ ?_ (fun hHeld => ?_)
          · exact hHeld.trans (hB.mono hHeld.size)
          clear hK K
          try simp only [Act.put, sQa, sQb, sQc, gQa, gQb, gQc]
          refine' wpAnyH_take (i := 8) (oi := _) (v := ?_) rfl (by kernel_rfl) (by kernel_rfl) (by kernel_rfl) (fun _ _ _ h => h) (Or.inl ⟨by rfl, ?_⟩) (by assumption) ?_
          rotate_left
          · intro W hSw
            go_simp
            first | done | (with_reducible rfl)
          try simp only [Act.put, sQa, sQb, sQc, gQa, gQb, gQc]
          refine wpAnyH_done (by kernel_rfl) ?_ _
          refine NoPanic.normal ?_
          have H12 := hid (H11.out.bel hHeld (Nat.lt_of_lt_of_le hlow.out W11.out.size))
          have W12 := hid (W11.out.trans (hHeld.mono W11.out.size))
          have v12 := hid (v11.out.bel hHeld)
          have s12 := hid (s11.out.bel hHeld)
          have P12 := hid (rangeBel2 hHeld P11.out)
          have x12 := hid (x11.out.bel hHeld)
          have y12 := hid (y11.out.bel hHeld)
          have Q12 := hid (rangeBel2 hHeld Q11.out)
          have z12 := hid (z11.out.bel hHeld)
          have u12 := hid (u11.out.bel hHeld)
          have N12 := hid (rangeBel2 hHeld N11.out)
          clear H11 W11 v11 s11 P11 x11 y11 Q11 z11 u11 N11
          clear hHeld
          go_wp2_with fail
          refine (hAl.out _ H12.out).mono ?_
          rintro e w13 ⟨rfl, hb⟩
          have H13 := hid (H12.out.bel hb (Nat.lt_of_lt_of_le hlow.out W12.out.size))
          have W13 := hid (W12.out.trans (hb.mono W12.out.size))
          have v13 := hid (v12.out.bel hb)
          have s13 := hid (s12.out.bel hb)
          have P13 := hid (rangeBel2 hb P12.out)
          have x13 := hid (x12.out.bel hb)
          have y13 := hid (y12.out.bel hb)
          have Q13 := hid (rangeBel2 hb Q12.out)
          have z13 := hid (z12.out.bel hb)
          have u13 := hid (u12.out.bel hb)
          have N13 := hid (rangeBel2 hb N12.out)
          clear H12 W12 v12 s12 P12 x12 y12 Q12 z12 u12 N12
          clear hb 
          go_wp2_with (first
            | ((with_reducible refine wpList_load_rng ?_ 61 (.tmp 5) rfl w7.heap.size 0 rfl (pfC pC ad7 c7 de7 d7) _ ?_ hup rfl iP7.out ?_); rfl; exact N13.out)
            | ((with_reducible refine wpList_built ?_ 23 _ rfl d3.toArray [(0, .int .u8 3)] ?_ ?_ ?_); rfl; exact hd3.out; rfl)
            | ((with_reducible refine wpList_built ?_ 61 _ rfl (pfC pC none 0 none 0).toArray [(0, .agg d3.toArray)] ?_ ?_ ?_); rfl; exact bK.out; rfl))
          refine (hS0.out _ ad7 c7 de7 d7 _ z13.out u13.out).mono ?_
          rintro e w14 ⟨rfl, hb⟩
          have H14 := hid (H13.out.bel hb (Nat.lt_of_lt_of_le hlow.out W13.out.size))
          have W14 := hid (W13.out.trans (hb.mono W13.out.size))
          have v14 := hid (v13.out.bel hb)
          have s14 := hid (s13.out.bel hb)
          have P14 := hid (rangeBel2 hb P13.out)
          have x14 := hid (x13.out.bel hb)
          have y14 := hid (y13.out.bel hb)
          have Q14 := hid (rangeBel2 hb Q13.out)
          have z14 := hid (z13.out.bel hb)
          have u14 := hid (u13.out.bel hb)
          have N14 := hid (rangeBel2 hb N13.out)
          clear H13 W13 v13 s13 P13 x13 y13 Q13 z13 u13 N13
          clear hb 
          go_wp2_with (first
            | ((with_reducible refine wpList_built ?_ 61 _ rfl (pfC pE none 0 none 0).toArray [(1, .int .u8 1)] ?_ ?_ ?_); rfl; exact bE.out; rfl))
          refine (hC.out _).mono ?_
          rintro e w15 ⟨rfl, hb⟩
          have H15 := hid (H14.out.bel hb (Nat.lt_of_lt_of_le hlow.out W14.out.size))
          have W15 := hid (W14.out.trans (hb.mono W14.out.size))
          have v15 := hid (v14.out.bel hb)
          have s15 := hid (s14.out.bel hb)
          have P15 := hid (rangeBel2 hb P14.out)
          have x15 := hid (x14.out.bel hb)
          have y15 := hid (y14.out.bel hb)
          have Q15 := hid (rangeBel2 hb Q14.out)
          have z15 := hid (z14.out.bel hb)
          have u15 := hid (u14.out.bel hb)
          have N15 := hid (rangeBel2 hb N14.out)
          clear H14 W14 v14 s14 P14 x14 y14 Q14 z14 u14 N14
          clear hb 
          go_wp2
          go_ret
          exact ⟨rfl, W15.out⟩
        refine AllReadyH.cons (o := _) rfl (fun K hK => ?_) ?_
        · skip
          go_simp
          refine (side_3 _ _ _ rfl rfl (H11.out.bel hHeld l11.out)).mono ?_
          rintro wbe7 wb7 ⟨wbA7, rfl, wbq7, hB⟩
          try replace wbk5 := (hB.block _ (block_lt wbk5)).trans wbk5
          try replace wbk6 := (hB.block _ (Array.getElem?_eq_some_iff.1 wbk6).1).trans wbk6
          go_wp2_with fail
          refine hK.out _ _ ?_ (fun hHeld => ?_)
          · exact hHeld.trans (hB.mono hHeld.size)
          clear hK K
          try simp only [Act.put, sQa, sQb, sQc, gQa, gQb, gQc]
          refine wpAnyH_ready (rs := [4]) (by kernel_rfl) (by simp) ?_
          refine AllReadyH.cons (o := _) rfl (fun K hK => ?_) AllReadyH.nil
          refine step_convC (by rfl) 24 (.tmp 52) rfl wbg5 1 1 _ 5 rfl wbk5 hus hu8 ?_
          intro wb6 wbfr6 wbk6 wbhC6
          try replace wbq7 := wbq7.chg wbhC6 (fun b hb _ e => by obtain ⟨h1, h2⟩ := hb; omega)
          refine hK.out _ _ ?_ (fun hHeld => ?_)
          · exact hHeld.trans (Chg.below wbhC6 hHeld.size (fun b hb e => by omega))
          clear hK K
          try simp only [Act.put, sQa, sQb, sQc, gQa, gQb, gQc]
          refine' wpAnyH_take (i := 6) (oi := _) (v := _) rfl (by kernel_rfl) (by kernel_rfl) (by kernel_rfl) (fun _ _ _ h => h) (yieldsIf_build (by rfl) _ _ rfl _ _ (b201.out _ _ _ _) rfl) (by assumption) ?_
          try simp only [Act.put, sQa, sQb, sQc, gQa, gQb, gQc]
          refine wpAnyH_ready (rs := [7]) (by kernel_rfl) (by simp) ?_
          refine AllReadyH.cons (o := _) rfl (fun K hK => ?_) AllReadyH.nil
          go_simp
          refine (hS201.out _ _ ad5 _ c5 _ de5 _ d5 _ _ (x11.out.bel hHeld) (rd_frz (l := [98]) wbk6) (y11.out.bel hHeld) wbq7).mono ?_
          rintro wbe9 wb9 ⟨rfl, hB⟩
          go_wp2_with fail
          refine hK.out _ _ ?_ (fun hHeld => ?_)
          · exact hHeld.trans (hB.mono hHeld.size)
          clear hK K
          try simp only [Act.put, sQa, sQb, sQc, gQa, gQb, gQc]
          refine' wpAnyH_take (i := 8) (oi := _) (v := ?_) rfl (by kernel_rfl) (by kernel_rfl) (by kernel_rfl) (fun _ _ _ h => h) (Or.inl ⟨by rfl, ?_⟩) (by assumption) ?_
          rotate_left
          · intro W hSw
            go_simp
            first | done | (with_reducible rfl)
          try simp only [Act.put, sQa, sQb, sQc, gQa, gQb, gQc]
          refine wpAnyH_done (by kernel_rfl) ?_ _
          refine NoPanic.normal ?_
          have H12 := hid (H11.out.bel hHeld (Nat.lt_of_lt_of_le hlow.out W11.out.size))
          have W12 := hid (W11.out.trans (hHeld.mono W11.out.size))
          have v12 := hid (v11.out.bel hHeld)
          have s12 := hid (s11.out.bel hHeld)
          have P12 := hid (rangeBel2 hHeld P11.out)
          have x12 := hid (x11.out.bel hHeld)
          have y12 := hid (y11.out.bel hHeld)
          have Q12 := hid (rangeBel2 hHeld Q11.out)
          have z12 := hid (z11.out.bel hHeld)
          have u12 := hid (u11.out.bel hHeld)
          have N12 := hid (rangeBel2 hHeld N11.out)
          clear H11 W11 v11 s11 P11 x11 y11 Q11 z11 u11 N11
          clear hHeld
          go_wp2_with fail
          refine (hAl.out _ H12.out).mono ?_
          rintro e w13 ⟨rfl, hb⟩
          have H13 := hid (H12.out.bel hb (Nat.lt_of_lt_of_le hlow.out W12.out.size))
          have W13 := hid (W12.out.trans (hb.mono W12.out.size))
          have v13 := hid (v12.out.bel hb)
          have s13 := hid (s12.out.bel hb)
          have P13 := hid (rangeBel2 hb P12.out)
          have x13 := hid (x12.out.bel hb)
          have y13 := hid (y12.out.bel hb)
          have Q13 := hid (rangeBel2 hb Q12.out)
          have z13 := hid (z12.out.bel hb)
          have u13 := hid (u12.out.bel hb)
          have N13 := hid (rangeBel2 hb N12.out)
          clear H12 W12 v12 s12 P12 x12 y12 Q12 z12 u12 N12
          clear hb 
          go_wp2_with (first
            | ((with_reducible refine wpList_load_rng ?_ 61 (.tmp 5) rfl w7.heap.size 0 rfl (pfC pC ad7 c7 de7 d7) _ ?_ hup rfl iP7.out ?_); rfl; exact N13.out)
            | ((with_reducible refine wpList_built ?_ 23 _ rfl d3.toArray [(0, .int .u8 3)] ?_ ?_ ?_); rfl; exact hd3.out; rfl)
            | ((with_reducible refine wpList_built ?_ 61 _ rfl (pfC pC none 0 none 0).toArray [(0, .agg d3.toArray)] ?_ ?_ ?_); rfl; exact bK.out; rfl))
          refine (hS0.out _ ad7 c7 de7 d7 _ z13.out u13.out).mono ?_
          rintro e w14 ⟨rfl, hb⟩
          have H14 := hid (H13.out.bel hb (Nat.lt_of_lt_of_le hlow.out W13.out.size))
          have W14 := hid (W13.out.trans (hb.mono W13.out.size))
          have v14 := hid (v13.out.bel hb)
          have s14 := hid (s13.out.bel hb)
          have P14 := hid (rangeBel2 hb P13.out)
          have x14 := hid (x13.out.bel hb)
          have y14 := hid (y13.out.bel hb)
          have Q14 := hid (rangeBel2 hb Q13.out)
          have z14 := hid (z13.out.bel hb)
          have u14 := hid (u13.out.bel hb)
          have N14 := hid (rangeBel2 hb N13.out)
          clear H13 W13 v13 s13 P13 x13 y13 Q13 z13 u13 N13
          clear hb 
          go_wp2_with (first
            | ((with_reducible refine wpList_built ?_ 61 _ rfl (pfC pE none 0 none 0).toArray [(1, .int .u8 1)] ?_ ?_ ?_); rfl; exact bE.out; rfl))
          refine (hC.out _).mono ?_
          rintro e w15 ⟨rfl, hb⟩
          have H15 := hid (H14.out.bel hb (Nat.lt_of_lt_of_le hlow.out W14.out.size))
          have W15 := hid (W14.out.trans (hb.mono W14.out.size))
          have v15 := hid (v14.out.bel hb)
          have s15 := hid (s14.out.bel hb)
          have P15 := hid (rangeBel2 hb P14.out)
          have x15 := hid (x14.out.bel hb)
          have y15 := hid (y14.out.bel hb)
          have Q15 := hid (rangeBel2 hb Q14.out)
          have z15 := hid (z14.out.bel hb)
          have u15 := hid (u14.out.bel hb)
          have N15 := hid (rangeBel2 hb N14.out)
          clear H14 W14 v14 s14 P14 x14 y14 Q14 z14 u14 N14
          clear hb 
          go_wp2
          go_ret
          exact ⟨rfl, W15.out⟩
        exact AllReadyH.nil
      refine AllReadyH.cons (o := _) rfl (fun K hK => ?_) ?_
      · skip
        go_simp
        refine (side_3 _ _ _ rfl rfl (H11.out.bel hHeld l11.out)).mono ?_
        rintro wbe7 wb7 ⟨wbA7, rfl, wbq7, hB⟩
        try replace wbk5 := (hB.block _ (block_lt wbk5)).trans wbk5
        try replace wbk6 := (hB.block _ (Array.getElem?_eq_some_iff.1 wbk6).1).trans wbk6
        go_wp2_with fail
        refine hK.out _ _ ?_ (fun hHeld => ?_)
        · exact hHeld.trans (hB.mono hHeld.size)
        clear hK K
        try simp only [Act.put, sQa, sQb, sQc, gQa, gQb, gQc]
        refine wpAnyH_ready (rs := [3]) (by kernel_rfl) (by simp) ?_
        refine AllReadyH.cons (o := _) rfl (fun K hK => ?_) AllReadyH.nil
        refine step_build1 slotU8b (by decide) (by rfl) (.const (.int .u8 98)) rfl [bv 98] rfl rfl ?_
        intro wbg5 wb5 wbm5 wbk5 hB
        have wbl5 := Nat.le_trans hHeld.size wbm5
        have wbg5lt := block_lt wbk5
        try replace wbq7 := wbq7.bel hB
        refine hK.out _ _ ?_ (fun hHeld => ?_)
        · exact hHeld.trans (hB.mono hHeld.size)
        clear hK K
        try simp only [Act.put, sQa, sQb, sQc, gQa, gQb, gQc]
        refine wpAnyH_ready (rs := [4]) (by kernel_rfl) (by simp) ?_
        refine AllReadyH.cons (o := _) rfl (fun K hK => ?_) AllReadyH.nil
        refine step_convC (by rfl) 24 (.tmp 52) rfl wbg5 1 1 _ 5 rfl wbk5 hus hu8 ?_
        intro wb6 wbfr6 wbk6 wbhC6
        try replace wbq7 := wbq7.chg wbhC6 (fun b hb _ e => by obtain ⟨h1, h2⟩ := hb; omega)
        refine hK.out _ _ ?_ (fun hHeld => ?_)
        · exact hHeld.trans (Chg.below wbhC6 hHeld.size (fun b hb e => by omega))
        clear hK K
        try simp only [Act.put, sQa, sQb, sQc, gQa, gQb, gQc]
        refine' wpAnyH_take (i := 6) (oi := _) (v := _) rfl (by kernel_rfl) (by kernel_rfl) (by kernel_rfl) (fun _ _ _ h => h) (yieldsIf_build (by rfl) _ _ rfl _ _ (b201.out _ _ _ _) rfl) (by assumption) ?_
        try simp only [Act.put, sQa, sQb, sQc, gQa, gQb, gQc]
        refine wpAnyH_ready (rs := [7]) (by kernel_rfl) (by simp) ?_
        refine AllReadyH.cons (o := _) rfl (fun K hK => ?_) AllReadyH.nil
        go_simp
        refine (hS201.out _ _ ad5 _ c5 _ de5 _ d5 _ _ (x11.out.bel hHeld) (rd_frz (l := [98]) wbk6) (y11.out.bel hHeld) wbq7).mono ?_
        rintro wbe9 wb9 ⟨rfl, hB⟩
        go_wp2_with fail
        refine hK.out _ _ ?_ (fun hHeld => ?_)
        · exact hHeld.trans (hB.mono hHeld.size)
        clear hK K
        try simp only [Act.put, sQa, sQb, sQc, gQa, gQb, gQc]
        refine' wpAnyH_take (i := 8) (oi := _) (v := ?_) rfl (by kernel_rfl) (by kernel_rfl) (by kernel_rfl) (fun _ _ _ h => h) (Or.inl ⟨by rfl, ?_⟩) (by assumption) ?_
        rotate_left
        · intro W hSw
          go_simp
          first | done | (with_reducible rfl)
        try simp only [Act.put, sQa, sQb, sQc, gQa, gQb, gQc]
        refine wpAnyH_done (by kernel_rfl) ?_ _
        refine NoPanic.normal ?_
        have H12 := hid (H11.out.bel hHeld (Nat.lt_of_lt_of_le hlow.out W11.out.size))
        have W12 := hid (W11.out.trans (hHeld.mono W11.out.size))
        have v12 := hid (v11.out.bel hHeld)
        have s12 := hid (s11.out.bel hHeld)
        have P12 := hid (rangeBel2 hHeld P11.out)
        have x12 := hid (x11.out.bel hHeld)
        have y12 := hid (y11.out.bel hHeld)
        have Q12 := hid (rangeBel2 hHeld Q11.out)
        have z12 := hid (z11.out.bel hHeld)
        have u12 := hid (u11.out.bel hHeld)
        have N12 := hid (rangeBel2 hHeld N11.out)
        clear H11 W11 v11 s11 P11 x11 y11 Q11 z11 u11 N11
        clear hHeld
        go_wp2_with fail
        refine (hAl.out _ H12.out).mono ?_
        rintro e w13 ⟨rfl, hb⟩
        have H13 := hid (H12.out.bel hb (Nat.lt_of_lt_of_le hlow.out W12.out.size))
        have W13 := hid (W12.out.trans (hb.mono W12.out.size))
        have v13 := hid (v12.out.bel hb)
        have s13 := hid (s12.out.bel hb)
        have P13 := hid (rangeBel2 hb P12.out)
        have x13 := hid (x12.out.bel hb)
        have y13 := hid (y12.out.bel hb)
        have Q13 := hid (rangeBel2 hb Q12.out)
        have z13 := hid (z12.out.bel hb)
        have u13 := hid (u12.out.bel hb)
        have N13 := hid (rangeBel2 hb N12.out)
        clear H12 W12 v12 s12 P12 x12 y12 Q12 z12 u12 N12
        clear hb 
        go_wp2_with (first
          | ((with_reducible refine wpList_load_rng ?_ 61 (.tmp 5) rfl w7.heap.size 0 rfl (pfC pC ad7 c7 de7 d7) _ ?_ hup rfl iP7.out ?_); rfl; exact N13.out)
          | ((with_reducible refine wpList_built ?_ 23 _ rfl d3.toArray [(0, .int .u8 3)] ?_ ?_ ?_); rfl; exact hd3.out; rfl)
          | ((with_reducible refine wpList_built ?_ 61 _ rfl (pfC pC none 0 none 0).toArray [(0, .agg d3.toArray)] ?_ ?_ ?_); rfl; exact bK.out; rfl))
        refine (hS0.out _ ad7 c7 de7 d7 _ z13.out u13.out).mono ?_
        rintro e w14 ⟨rfl, hb⟩
        have H14 := hid (H13.out.bel hb (Nat.lt_of_lt_of_le hlow.out W13.out.size))
        have W14 := hid (W13.out.trans (hb.mono W13.out.size))
        have v14 := hid (v13.out.bel hb)
        have s14 := hid (s13.out.bel hb)
        have P14 := hid (rangeBel2 hb P13.out)
        have x14 := hid (x13.out.bel hb)
        have y14 := hid (y13.out.bel hb)
        have Q14 := hid (rangeBel2 hb Q13.out)
        have z14 := hid (z13.out.bel hb)
        have u14 := hid (u13.out.bel hb)
        have N14 := hid (rangeBel2 hb N13.out)
        clear H13 W13 v13 s13 P13 x13 y13 Q13 z13 u13 N13
        clear hb 
        go_wp2_with (first
          | ((with_reducible refine wpList_built ?_ 61 _ rfl (pfC pE none 0 none 0).toArray [(1, .int .u8 1)] ?_ ?_ ?_); rfl; exact bE.out; rfl))
        refine (hC.out _).mono ?_
        rintro e w15 ⟨rfl, hb⟩
        have H15 := hid (H14.out.bel hb (Nat.lt_of_lt_of_le hlow.out W14.out.size))
        have W15 := hid (W14.out.trans (hb.mono W14.out.size))
        have v15 := hid (v14.out.bel hb)
        have s15 := hid (s14.out.bel hb)
        have P15 := hid (rangeBel2 hb P14.out)
        have x15 := hid (x14.out.bel hb)
        have y15 := hid (y14.out.bel hb)
        have Q15 := hid (rangeBel2 hb Q14.out)
        have z15 := hid (z14.out.bel hb)
        have u15 := hid (u14.out.bel hb)
        have N15 := hid (rangeBel2 hb N14.out)
        clear H14 W14 v14 s14 P14 x14 y14 Q14 z14 u14 N14
        clear hb 
        go_wp2
        go_ret
        exact ⟨rfl, W15.out⟩
      exact AllReadyH.nil
    exact AllReadyH.nil
  refine AllReadyH.cons (o := _) rfl (fun K hK => ?_) ?_
  · skip
    go_simp
    refine (side_is _ _ _ rfl rfl (H10.out.bel hHeld l10.out)).mono ?_
    rintro wae7 wa7 ⟨waA7, rfl, waq7, hB⟩
    try replace wak5 := (hB.block _ (block_lt wak5)).trans wak5
    try replace wak6 := (hB.block _ (Array.getElem?_eq_some_iff.1 wak6).1).trans wak6
    go_wp2_with fail
    refine hK.out _ _ ?_ (fun hHeld => ?_)
    · exact hHeld.trans (hB.mono hHeld.size)
    clear hK K
    try simp only [Act.put, sQa, sQb, sQc, gQa, gQb, gQc]
    refine wpAnyH_ready (rs := [3]) (by kernel_rfl) (by simp) ?_
    refine AllReadyH.cons (o := _) rfl (fun K hK => ?_) AllReadyH.nil
    refine step_build1 slotU8b (by decide) (by rfl) (.const (.int .u8 97)) rfl [bv 97] rfl rfl ?_
    intro wag5 wa5 wam5 wak5 hB
    have wal5 := Nat.le_trans hHeld.size wam5
    have wag5lt := block_lt wak5
    try replace waq7 := waq7.bel hB
    refine hK.out _ _ ?_ (fun hHeld => ?_)
    · exact hHeld.trans (hB.mono hHeld.size)
    clear hK K
    try simp only [Act.put, sQa, sQb, sQc, gQa, gQb, gQc]
    refine wpAnyH_ready (rs := [4]) (by kernel_rfl) (by simp) ?_
    refine AllReadyH.cons (o := _) rfl (fun K hK => ?_) AllReadyH.nil
    refine step_convC (by rfl) 24 (.tmp 44) rfl wag5 1 1 _ 5 rfl wak5 hus hu8 ?_
    intro wa6 wafr6 wak6 wahC6
    try replace waq7 := waq7.chg wahC6 (fun b hb _ e => by obtain ⟨h1, h2⟩ := hb; omega)
    refine hK.out _ _ ?_ (fun hHeld => ?_)
    · exact hHeld.trans (Chg.below wahC6 hHeld.size (fun b hb e => by omega))
    clear hK K
    try simp only [Act.put, sQa, sQb, sQc, gQa, gQb, gQc]
    refine' wpAnyH_take (i := 6) (oi := _) (v := _) rfl (by kernel_rfl) (by kernel_rfl) (by kernel_rfl) (fun _ _ _ h => h) (yieldsIf_build (by rfl) _ _ rfl _ _ (b4.out _ _ _ _) rfl) (by assumption) ?_
    try simp only [Act.put, sQa, sQb, sQc, gQa, gQb, gQc]
    refine wpAnyH_ready (rs := [7]) (by kernel_rfl) (by simp) ?_
    refine AllReadyH.cons (o := _) rfl (fun K hK => ?_) AllReadyH.nil
    go_simp
    refine (hS4.out _ _ ad2 _ c2 _ de2 _ d2 _ _ (v10.out.bel hHeld) (rd_frz (l := [97]) wak6) (s10.out.bel hHeld) waq7).mono ?_
    rintro wae9 wa9 ⟨rfl, hB⟩
    go_wp2_with fail
    refine hK.out _ _ ?_ (fun hHeld => ?_)
    · exact hHeld.trans (hB.mono hHeld.size)
    clear hK K
    try simp only [Act.put, sQa, sQb, sQc, gQa, gQb, gQc]
    refine' wpAnyH_take (i := 8) (oi := _) (v := ?_) rfl (by kernel_rfl) (by kernel_rfl) (by kernel_rfl) (fun _ _ _ h => h) (Or.inl ⟨by rfl, ?_⟩) (by assumption) ?_
    rotate_left
    · intro W hSw
      go_simp
      first | done | (with_reducible rfl)
    try simp only [Act.put, sQa, sQb, sQc, gQa, gQb, gQc]
    refine wpAnyH_done (by kernel_rfl) ?_ _
    refine NoPanic.normal ?_
    have H11 := hid (H10.out.bel hHeld (Nat.lt_of_lt_of_le hlow.out W10.out.size))
    have W11 := hid (W10.out.trans (hHeld.mono W10.out.size))
    have v11 := hid (v10.out.bel hHeld)
    have s11 := hid (s10.out.bel hHeld)
    have P11 := hid (rangeBel2 hHeld P10.out)
    have x11 := hid (x10.out.bel hHeld)
    have y11 := hid (y10.out.bel hHeld)
    have Q11 := hid (rangeBel2 hHeld Q10.out)
    have z11 := hid (z10.out.bel hHeld)
    have u11 := hid (u10.out.bel hHeld)
    have N11 := hid (rangeBel2 hHeld N10.out)
    clear H10 W10 v10 s10 P10 x10 y10 Q10 z10 u10 N10
    have l11 := hid (Nat.lt_of_lt_of_le hlow.out W11.out.size)
    clear hHeld
    go_wp2
    refine wp_region_noPanic ?_
    refine wp_region_held_drew (S := fun w' => Below wa9.heap.size wa9 w') (by kernel_rfl) ?_ (fun hHeld => ?_)
    · exact bel_drew wa9
    refine' wpAnyH_take (i := 0) (oi := _) (v := _) rfl (by kernel_rfl) (by kernel_rfl) (by kernel_rfl) (fun _ _ _ h => h) (yieldsIf_load_mid (by rfl) _ _ rfl _ _ rfl _ _ (fun _ h => rangeBel2 h Q11.out) hup rfl iP5.out) (by assumption) ?_
    try simp only [Act.put, sQa, sQb, sQc, gQa, gQb, gQc]
    refine' wpAnyH_take (i := 1) (oi := _) (v := _) rfl (by kernel_rfl) (by kernel_rfl) (by kernel_rfl) (fun _ _ _ h => h) (yieldsIf_build (by rfl) _ _ rfl _ _ (hd201.out) rfl) (by assumption) ?_
    try simp only [Act.put, sQa, sQb, sQc, gQa, gQb, gQc]
    refine' wpAnyH_take (i := 2) (oi := _) (v := _) rfl (by kernel_rfl) (by kernel_rfl) (by kernel_rfl) (fun _ _ _ h => h) (yieldsIf_build (by rfl) _ _ rfl _ _ (hd200.out) rfl) (by assumption) ?_
    try simp only [Act.put, sQa, sQb, sQc, gQa, gQb, gQc]
    refine wpAnyH_ready (rs := [3, 5]) (by kernel_rfl) (by simp) ?_
    refine AllReadyH.cons (o := _) rfl (fun K hK => ?_) ?_
    · skip
      refine step_build1 slotU8b (by decide) (by rfl) (.const (.int .u8 98)) rfl [bv 98] rfl rfl ?_
      intro wbg5 wb5 wbm5 wbk5 hB
      have wbl5 := Nat.le_trans hHeld.size wbm5
      have wbg5lt := block_lt wbk5
      try replace wbq7 := wbq7.bel hB
      refine hK.out _ _ ?_ (fun hHeld => ?_)
      · exact hHeld.trans (hB.mono hHeld.size)
      clear hK K
      try simp only [Act.put, sQa, sQb, sQc, gQa, gQb, gQc]
      refine wpAnyH_ready (rs := [4, 5]) (by kernel_rfl) (by simp) ?_
      refine AllReadyH.cons (o := _) rfl (fun K hK => ?_) ?_
      · skip
        refine step_convC (by rfl) 24 (.tmp 52) rfl wbg5 1 1 _ 5 rfl wbk5 hus hu8 ?_
        intro wb6 wbfr6 wbk6 wbhC6
        try replace wbq7 := wbq7.chg wbhC6 (fun b hb _ e => by obtain ⟨h1, h2⟩ := hb; omega)
        refine hK.out _ _ ?_ (fun hHeld => ?_)
        · exact hHeld.trans (Chg.below wbhC6 hHeld.size (fun b hb e => by omega))
        clear hK K
        try simp only [Act.put, sQa, sQb, sQc, gQa, gQb, gQc]
        refine wpAnyH_ready (rs := [5]) (by kernel_rfl) (by simp) ?_
        refine AllReadyH.cons (o := _) rfl (fun K hK => ?_) AllReadyH.nil
        go_simp
        refine (side_3 _ _ _ rfl rfl (H11.out.bel hHeld l11.out)).mono ?_
        rintro wbe7 wb7 ⟨wbA7, rfl, wbq7, hB⟩
        try replace wbk5 := (hB.block _ (block_lt wbk5)).trans wbk5
        try replace wbk6 := (hB.block _ (Array.getElem?_eq_some_iff.1 wbk6).1).trans wbk6
        go_wp2_with fail
        refine hK.out _ _ ?_ (fun hHeld => ?_)
        · exact hHeld.trans (hB.mono hHeld.size)
        clear hK K
        try simp only [Act.put, sQa, sQb, sQc, gQa, gQb, gQc]
        refine' wpAnyH_take (i := 6) (oi := _) (v := _) rfl (by kernel_rfl) (by kernel_rfl) (by kernel_rfl) (fun _ _ _ h => h) (yieldsIf_build (by rfl) _ _ rfl _ _ (b201.out _ _ _ _) rfl) (by assumption) ?_
        try simp only [Act.put, sQa, sQb, sQc, gQa, gQb, gQc]
        refine wpAnyH_ready (rs := [7]) (by kernel_rfl) (by simp) ?_
        refine AllReadyH.cons (o := _) rfl (fun K hK => ?_) AllReadyH.nil
        go_simp
        refine (hS201.out _ _ ad5 _ c5 _ de5 _ d5 _ _ (x11.out.bel hHeld) (rd_frz (l := [98]) wbk6) (y11.out.bel hHeld) wbq7).mono ?_
        rintro wbe9 wb9 ⟨rfl, hB⟩
        go_wp2_with fail
        refine hK.out _ _ ?_ (fun hHeld => ?_)
        · exact hHeld.trans (hB.mono hHeld.size)
        clear hK K
        try simp only [Act.put, sQa, sQb, sQc, gQa, gQb, gQc]
        refine' wpAnyH_take (i := 8) (oi := _) (v := ?_) rfl (by kernel_rfl) (by kernel_rfl) (by kernel_rfl) (fun _ _ _ h => h) (Or.inl ⟨by rfl, ?_⟩) (by assumption) ?_
        rotate_left
        · intro W hSw
          go_simp
          first | done | (with_reducible rfl)
        try simp only [Act.put, sQa, sQb, sQc, gQa, gQb, gQc]
        refine wpAnyH_done (by kernel_rfl) ?_ _
        refine NoPanic.normal ?_
        have H12 := hid (H11.out.bel hHeld (Nat.lt_of_lt_of_le hlow.out W11.out.size))
        have W12 := hid (W11.out.trans (hHeld.mono W11.out.size))
        have v12 := hid (v11.out.bel hHeld)
        have s12 := hid (s11.out.bel hHeld)
        have P12 := hid (rangeBel2 hHeld P11.out)
        have x12 := hid (x11.out.bel hHeld)
        have y12 := hid (y11.out.bel hHeld)
        have Q12 := hid (rangeBel2 hHeld Q11.out)
        have z12 := hid (z11.out.bel hHeld)
        have u12 := hid (u11.out.bel hHeld)
        have N12 := hid (rangeBel2 hHeld N11.out)
        clear H11 W11 v11 s11 P11 x11 y11 Q11 z11 u11 N11
        clear hHeld
        go_wp2_with fail
        refine (hAl.out _ H12.out).mono ?_
        rintro e w13 ⟨rfl, hb⟩
        have H13 := hid (H12.out.bel hb (Nat.lt_of_lt_of_le hlow.out W12.out.size))
        have W13 := hid (W12.out.trans (hb.mono W12.out.size))
        have v13 := hid (v12.out.bel hb)
        have s13 := hid (s12.out.bel hb)
        have P13 := hid (rangeBel2 hb P12.out)
        have x13 := hid (x12.out.bel hb)
        have y13 := hid (y12.out.bel hb)
        have Q13 := hid (rangeBel2 hb Q12.out)
        have z13 := hid (z12.out.bel hb)
        have u13 := hid (u12.out.bel hb)
        have N13 := hid (rangeBel2 hb N12.out)
        clear H12 W12 v12 s12 P12 x12 y12 Q12 z12 u12 N12
        clear hb 
        go_wp2_with (first
          | ((with_reducible refine wpList_load_rng ?_ 61 (.tmp 5) rfl w7.heap.size 0 rfl (pfC pC ad7 c7 de7 d7) _ ?_ hup rfl iP7.out ?_); rfl; exact N13.out)
          | ((with_reducible refine wpList_built ?_ 23 _ rfl d3.toArray [(0, .int .u8 3)] ?_ ?_ ?_); rfl; exact hd3.out; rfl)
          | ((with_reducible refine wpList_built ?_ 61 _ rfl (pfC pC none 0 none 0).toArray [(0, .agg d3.toArray)] ?_ ?_ ?_); rfl; exact bK.out; rfl))
        refine (hS0.out _ ad7 c7 de7 d7 _ z13.out u13.out).mono ?_
        rintro e w14 ⟨rfl, hb⟩
        have H14 := hid (H13.out.bel hb (Nat.lt_of_lt_of_le hlow.out W13.out.size))
        have W14 := hid (W13.out.trans (hb.mono W13.out.size))
        have v14 := hid (v13.out.bel hb)
        have s14 := hid (s13.out.bel hb)
        have P14 := hid (rangeBel2 hb P13.out)
        have x14 := hid (x13.out.bel hb)
        have y14 := hid (y13.out.bel hb)
        have Q14 := hid (rangeBel2 hb Q13.out)
        have z14 := hid (z13.out.bel hb)
        have u14 := hid (u13.out.bel hb)
        have N14 := hid (rangeBel2 hb N13.out)
        clear H13 W13 v13 s13 P13 x13 y13 Q13 z13 u13 N13
        clear hb 
        go_wp2_with (first
          | ((with_reducible refine wpList_built ?_ 61 _ rfl (pfC pE none 0 none 0).toArray [(1, .int .u8 1)] ?_ ?_ ?_); rfl; exact bE.out; rfl))
        refine (hC.out _).mono ?_
        rintro e w15 ⟨rfl, hb⟩
        have H15 := hid (H14.out.bel hb (Nat.lt_of_lt_of_le hlow.out W14.out.size))
        have W15 := hid (W14.out.trans (hb.mono W14.out.size))
        have v15 := hid (v14.out.bel hb)
        have s15 := hid (s14.out.bel hb)
        have P15 := hid (rangeBel2 hb P14.out)
        have x15 := hid (x14.out.bel hb)
        have y15 := hid (y14.out.bel hb)
        have Q15 := hid (rangeBel2 hb Q14.out)
        have z15 := hid (z14.out.bel hb)
        have u15 := hid (u14.out.bel hb)
        have N15 := hid (rangeBel2 hb N14.out)
        clear H14 W14 v14 s14 P14 x14 y14 Q14 z14 u14 N14
        clear hb 
        go_wp2
        go_ret
        exact ⟨rfl, W15.out⟩
      refine AllReadyH.cons (o := _) rfl (fun K hK => ?_) ?_
      · skip
        go_simp
        refine (side_3 _ _ _ rfl rfl (H11.out.bel hHeld l11.out)).mono ?_
        rintro wbe7 wb7 ⟨wbA7, rfl, wbq7, hB⟩
        try replace wbk5 := (hB.block _ (block_lt wbk5)).trans wbk5
        try replace wbk6 := (hB.block _ (Array.getElem?_eq_some_iff.1 wbk6).1).trans wbk6
        go_wp2_with fail
        refine hK.out _ _ ?_ (fun hHeld => ?_)
        · exact hHeld.trans (hB.mono hHeld.size)
        clear hK K
        try simp only [Act.put, sQa, sQb, sQc, gQa, gQb, gQc]
        refine wpAnyH_ready (rs := [4]) (by kernel_rfl) (by simp) ?_
        refine AllReadyH.cons (o := _) rfl (fun K hK => ?_) AllReadyH.nil
        refine step_convC (by rfl) 24 (.tmp 52) rfl wbg5 1 1 _ 5 rfl wbk5 hus hu8 ?_
        intro wb6 wbfr6 wbk6 wbhC6
        try replace wbq7 := wbq7.chg wbhC6 (fun b hb _ e => by obtain ⟨h1, h2⟩ := hb; omega)
        refine hK.out _ _ ?_ (fun hHeld => ?_)
        · exact hHeld.trans (Chg.below wbhC6 hHeld.size (fun b hb e => by omega))
        clear hK K
        try simp only [Act.put, sQa, sQb, sQc, gQa, gQb, gQc]
        refine' wpAnyH_take (i := 6) (oi := _) (v := _) rfl (by kernel_rfl) (by kernel_rfl) (by kernel_rfl) (fun _ _ _ h => h) (yieldsIf_build (by rfl) _ _ rfl _ _ (b201.out _ _ _ _) rfl) (by assumption) ?_
        try simp only [Act.put, sQa, sQb, sQc, gQa, gQb, gQc]
        refine wpAnyH_ready (rs := [7]) (by kernel_rfl) (by simp) ?_
        refine AllReadyH.cons (o := _) rfl (fun K hK => ?_) AllReadyH.nil
        go_simp
        refine (hS201.out _ _ ad5 _ c5 _ de5 _ d5 _ _ (x11.out.bel hHeld) (rd_frz (l := [98]) wbk6) (y11.out.bel hHeld) wbq7).mono ?_
        rintro wbe9 wb9 ⟨rfl, hB⟩
        go_wp2_with fail
        refine hK.out _ _ ?_ (fun hHeld => ?_)
        · exact hHeld.trans (hB.mono hHeld.size)
        clear hK K
        try simp only [Act.put, sQa, sQb, sQc, gQa, gQb, gQc]
        refine' wpAnyH_take (i := 8) (oi := _) (v := ?_) rfl (by kernel_rfl) (by kernel_rfl) (by kernel_rfl) (fun _ _ _ h => h) (Or.inl ⟨by rfl, ?_⟩) (by assumption) ?_
        rotate_left
        · intro W hSw
          go_simp
          first | done | (with_reducible rfl)
        try simp only [Act.put, sQa, sQb, sQc, gQa, gQb, gQc]
        refine wpAnyH_done (by kernel_rfl) ?_ _
        refine NoPanic.normal ?_
        have H12 := hid (H11.out.bel hHeld (Nat.lt_of_lt_of_le hlow.out W11.out.size))
        have W12 := hid (W11.out.trans (hHeld.mono W11.out.size))
        have v12 := hid (v11.out.bel hHeld)
        have s12 := hid (s11.out.bel hHeld)
        have P12 := hid (rangeBel2 hHeld P11.out)
        have x12 := hid (x11.out.bel hHeld)
        have y12 := hid (y11.out.bel hHeld)
        have Q12 := hid (rangeBel2 hHeld Q11.out)
        have z12 := hid (z11.out.bel hHeld)
        have u12 := hid (u11.out.bel hHeld)
        have N12 := hid (rangeBel2 hHeld N11.out)
        clear H11 W11 v11 s11 P11 x11 y11 Q11 z11 u11 N11
        clear hHeld
        go_wp2_with fail
        refine (hAl.out _ H12.out).mono ?_
        rintro e w13 ⟨rfl, hb⟩
        have H13 := hid (H12.out.bel hb (Nat.lt_of_lt_of_le hlow.out W12.out.size))
        have W13 := hid (W12.out.trans (hb.mono W12.out.size))
        have v13 := hid (v12.out.bel hb)
        have s13 := hid (s12.out.bel hb)
        have P13 := hid (rangeBel2 hb P12.out)
        have x13 := hid (x12.out.bel hb)
        have y13 := hid (y12.out.bel hb)
        have Q13 := hid (rangeBel2 hb Q12.out)
        have z13 := hid (z12.out.bel hb)
        have u13 := hid (u12.out.bel hb)
        have N13 := hid (rangeBel2 hb N12.out)
        clear H12 W12 v12 s12 P12 x12 y12 Q12 z12 u12 N12
        clear hb 
        go_wp2_with (first
          | ((with_reducible refine wpList_load_rng ?_ 61 (.tmp 5) rfl w7.heap.size 0 rfl (pfC pC ad7 c7 de7 d7) _ ?_ hup rfl iP7.out ?_); rfl; exact N13.out)
          | ((with_reducible refine wpList_built ?_ 23 _ rfl d3.toArray [(0, .int .u8 3)] ?_ ?_ ?_); rfl; exact hd3.out; rfl)
          | ((with_reducible refine wpList_built ?_ 61 _ rfl (pfC pC none 0 none 0).toArray [(0, .agg d3.toArray)] ?_ ?_ ?_); rfl; exact bK.out; rfl))
        refine (hS0.out _ ad7 c7 de7 d7 _ z13.out u13.out).mono ?_
        rintro e w14 ⟨rfl, hb⟩
        have H14 := hid (H13.out.bel hb (Nat.lt_of_lt_of_le hlow.out W13.out.size))
        have W14 := hid (W13.out.trans (hb.mono W13.out.size))
        have v14 := hid (v13.out.bel hb)
        have s14 := hid (s13.out.bel hb)
        have P14 := hid (rangeBel2 hb P13.out)
        have x14 := hid (x13.out.bel hb)
        have y14 := hid (y13.out.bel hb)
        have Q14 := hid (rangeBel2 hb Q13.out)
        have z14 := hid (z13.out.bel hb)
        have u14 := hid (u13.out.bel hb)
        have N14 := hid (rangeBel2 hb N13.out)
        clear H13 W13 v13 s13 P13 x13 y13 Q13 z13 u13 N13
        clear hb 
        go_wp2_with (first
          | ((with_reducible refine wpList_built ?_ 61 _ rfl (pfC pE none 0 none 0).toArray [(1, .int .u8 1)] ?_ ?_ ?_); rfl; exact bE.out; rfl))
        refine (hC.out _).mono ?_
        rintro e w15 ⟨rfl, hb⟩
        have H15 := hid (H14.out.bel hb (Nat.lt_of_lt_of_le hlow.out W14.out.size))
        have W15 := hid (W14.out.trans (hb.mono W14.out.size))
        have v15 := hid (v14.out.bel hb)
        have s15 := hid (s14.out.bel hb)
        have P15 := hid (rangeBel2 hb P14.out)
        have x15 := hid (x14.out.bel hb)
        have y15 := hid (y14.out.bel hb)
        have Q15 := hid (rangeBel2 hb Q14.out)
        have z15 := hid (z14.out.bel hb)
        have u15 := hid (u14.out.bel hb)
        have N15 := hid (rangeBel2 hb N14.out)
        clear H14 W14 v14 s14 P14 x14 y14 Q14 z14 u14 N14
        clear hb 
        go_wp2
        go_ret
        exact ⟨rfl, W15.out⟩
      exact AllReadyH.nil
    refine AllReadyH.cons (o := _) rfl (fun K hK => ?_) ?_
    · skip
      go_simp
      refine (side_3 _ _ _ rfl rfl (H11.out.bel hHeld l11.out)).mono ?_
      rintro wbe7 wb7 ⟨wbA7, rfl, wbq7, hB⟩
      try replace wbk5 := (hB.block _ (block_lt wbk5)).trans wbk5
      try replace wbk6 := (hB.block _ (Array.getElem?_eq_some_iff.1 wbk6).1).trans wbk6
      go_wp2_with fail
      refine hK.out _ _ ?_ (fun hHeld => ?_)
      · exact hHeld.trans (hB.mono hHeld.size)
      clear hK K
      try simp only [Act.put, sQa, sQb, sQc, gQa, gQb, gQc]
      refine wpAnyH_ready (rs := [3]) (by kernel_rfl) (by simp) ?_
      refine AllReadyH.cons (o := _) rfl (fun K hK => ?_) AllReadyH.nil
      refine step_build1 slotU8b (by decide) (by rfl) (.const (.int .u8 98)) rfl [bv 98] rfl rfl ?_
      intro wbg5 wb5 wbm5 wbk5 hB
      have wbl5 := Nat.le_trans hHeld.size wbm5
      have wbg5lt := block_lt wbk5
      try replace wbq7 := wbq7.bel hB
      refine hK.out _ _ ?_ (fun hHeld => ?_)
      · exact hHeld.trans (hB.mono hHeld.size)
      clear hK K
      try simp only [Act.put, sQa, sQb, sQc, gQa, gQb, gQc]
      refine wpAnyH_ready (rs := [4]) (by kernel_rfl) (by simp) ?_
      refine AllReadyH.cons (o := _) rfl (fun K hK => ?_) AllReadyH.nil
      refine step_convC (by rfl) 24 (.tmp 52) rfl wbg5 1 1 _ 5 rfl wbk5 hus hu8 ?_
      intro wb6 wbfr6 wbk6 wbhC6
      try replace wbq7 := wbq7.chg wbhC6 (fun b hb _ e => by obtain ⟨h1, h2⟩ := hb; omega)
      refine hK.out _ _ ?_ (fun hHeld => ?_)
      · exact hHeld.trans (Chg.below wbhC6 hHeld.size (fun b hb e => by omega))
      clear hK K
      try simp only [Act.put, sQa, sQb, sQc, gQa, gQb, gQc]
      refine' wpAnyH_take (i := 6) (oi := _) (v := _) rfl (by kernel_rfl) (by kernel_rfl) (by kernel_rfl) (fun _ _ _ h => h) (yieldsIf_build (by rfl) _ _ rfl _ _ (b201.out _ _ _ _) rfl) (by assumption) ?_
      try simp only [Act.put, sQa, sQb, sQc, gQa, gQb, gQc]
      refine wpAnyH_ready (rs := [7]) (by kernel_rfl) (by simp) ?_
      refine AllReadyH.cons (o := _) rfl (fun K hK => ?_) AllReadyH.nil
      go_simp
      refine (hS201.out _ _ ad5 _ c5 _ de5 _ d5 _ _ (x11.out.bel hHeld) (rd_frz (l := [98]) wbk6) (y11.out.bel hHeld) wbq7).mono ?_
      rintro wbe9 wb9 ⟨rfl, hB⟩
      go_wp2_with fail
      refine hK.out _ _ ?_ (fun hHeld => ?_)
      · exact hHeld.trans (hB.mono hHeld.size)
      clear hK K
      try simp only [Act.put, sQa, sQb, sQc, gQa, gQb, gQc]
      refine' wpAnyH_take (i := 8) (oi := _) (v := ?_) rfl (by kernel_rfl) (by kernel_rfl) (by kernel_rfl) (fun _ _ _ h => h) (Or.inl ⟨by rfl, ?_⟩) (by assumption) ?_
      rotate_left
      · intro W hSw
        go_simp
        first | done | (with_reducible rfl)
      try simp only [Act.put, sQa, sQb, sQc, gQa, gQb, gQc]
      refine wpAnyH_done (by kernel_rfl) ?_ _
      refine NoPanic.normal ?_
      have H12 := hid (H11.out.bel hHeld (Nat.lt_of_lt_of_le hlow.out W11.out.size))
      have W12 := hid (W11.out.trans (hHeld.mono W11.out.size))
      have v12 := hid (v11.out.bel hHeld)
      have s12 := hid (s11.out.bel hHeld)
      have P12 := hid (rangeBel2 hHeld P11.out)
      have x12 := hid (x11.out.bel hHeld)
      have y12 := hid (y11.out.bel hHeld)
      have Q12 := hid (rangeBel2 hHeld Q11.out)
      have z12 := hid (z11.out.bel hHeld)
      have u12 := hid (u11.out.bel hHeld)
      have N12 := hid (rangeBel2 hHeld N11.out)
      clear H11 W11 v11 s11 P11 x11 y11 Q11 z11 u11 N11
      clear hHeld
      go_wp2_with fail
      refine (hAl.out _ H12.out).mono ?_
      rintro e w13 ⟨rfl, hb⟩
      have H13 := hid (H12.out.bel hb (Nat.lt_of_lt_of_le hlow.out W12.out.size))
      have W13 := hid (W12.out.trans (hb.mono W12.out.size))
      have v13 := hid (v12.out.bel hb)
      have s13 := hid (s12.out.bel hb)
      have P13 := hid (rangeBel2 hb P12.out)
      have x13 := hid (x12.out.bel hb)
      have y13 := hid (y12.out.bel hb)
      have Q13 := hid (rangeBel2 hb Q12.out)
      have z13 := hid (z12.out.bel hb)
      have u13 := hid (u12.out.bel hb)
      have N13 := hid (rangeBel2 hb N12.out)
      clear H12 W12 v12 s12 P12 x12 y12 Q12 z12 u12 N12
      clear hb 
      go_wp2_with (first
        | ((with_reducible refine wpList_load_rng ?_ 61 (.tmp 5) rfl w7.heap.size 0 rfl (pfC pC ad7 c7 de7 d7) _ ?_ hup rfl iP7.out ?_); rfl; exact N13.out)
        | ((with_reducible refine wpList_built ?_ 23 _ rfl d3.toArray [(0, .int .u8 3)] ?_ ?_ ?_); rfl; exact hd3.out; rfl)
        | ((with_reducible refine wpList_built ?_ 61 _ rfl (pfC pC none 0 none 0).toArray [(0, .agg d3.toArray)] ?_ ?_ ?_); rfl; exact bK.out; rfl))
      refine (hS0.out _ ad7 c7 de7 d7 _ z13.out u13.out).mono ?_
      rintro e w14 ⟨rfl, hb⟩
      have H14 := hid (H13.out.bel hb (Nat.lt_of_lt_of_le hlow.out W13.out.size))
      have W14 := hid (W13.out.trans (hb.mono W13.out.size))
      have v14 := hid (v13.out.bel hb)
      have s14 := hid (s13.out.bel hb)
      have P14 := hid (rangeBel2 hb P13.out)
      have x14 := hid (x13.out.bel hb)
      have y14 := hid (y13.out.bel hb)
      have Q14 := hid (rangeBel2 hb Q13.out)
      have z14 := hid (z13.out.bel hb)
      have u14 := hid (u13.out.bel hb)
      have N14 := hid (rangeBel2 hb N13.out)
      clear H13 W13 v13 s13 P13 x13 y13 Q13 z13 u13 N13
      clear hb 
      go_wp2_with (first
        | ((with_reducible refine wpList_built ?_ 61 _ rfl (pfC pE none 0 none 0).toArray [(1, .int .u8 1)] ?_ ?_ ?_); rfl; exact bE.out; rfl))
      refine (hC.out _).mono ?_
      rintro e w15 ⟨rfl, hb⟩
      have H15 := hid (H14.out.bel hb (Nat.lt_of_lt_of_le hlow.out W14.out.size))
      have W15 := hid (W14.out.trans (hb.mono W14.out.size))
      have v15 := hid (v14.out.bel hb)
      have s15 := hid (s14.out.bel hb)
      have P15 := hid (rangeBel2 hb P14.out)
      have x15 := hid (x14.out.bel hb)
      have y15 := hid (y14.out.bel hb)
      have Q15 := hid (rangeBel2 hb Q14.out)
      have z15 := hid (z14.out.bel hb)
      have u15 := hid (u14.out.bel hb)
      have N15 := hid (rangeBel2 hb N14.out)
      clear H14 W14 v14 s14 P14 x14 y14 Q14 z14 u14 N14
      clear hb 
      go_wp2
      go_ret
      exact ⟨rfl, W15.out⟩
    exact AllReadyH.nil
  exact AllReadyH.nil

/-! ### WHAT THE WALK GIVES, FOR EVERY ARGUMENT AND EVERY WORLD THAT HOLDS THE TABLE -/
set_option maxRecDepth 100000 in
theorem contract (H : Type) (enc : TypeId × Value → H) (W : World) (base : Nat) (args : Array Value) (ds gs : List (DataW H)) (before : List MemPlace)
    (hval0 : ∀ (j : Nat) t v, Tryd.f7.params[j]? = some t → args[j]? = some v → Value.okWide Tryd.prog W .any base t v)
    (hW : DataW.Whole enc Tryd.prog Tryd.f7.params.toList Rows.proofNamesSpec.vars false W args.toList ds gs before) (hL : laidMetH Tryd.prog Rows.proofNamesRow.laid W) :
    Calls Tryd.prog 7 args W fun e W' => ∃ v, e = .returned v ∧ Rows.proofNamesSpec.post enc Tryd.prog Tryd.f7 false true false false W args v W' := by
  have hval : ∀ (j : Nat) t v, Tryd.f7.params[j]? = some t → args[j]? = some v → Value.okWide Tryd.prog W .any base t v := hval0
  have hW' := hW
  obtain ⟨p, q, hA0, hV, rfl, hfz, hnd⟩ := hW
  have hA : DataW.TrodAll enc Tryd.prog W 0 (fun _ => true) true Tryd.f7.params.toList args.toList ds p := hA0
  rw [Tryd.params7] at hA hval
  obtain ⟨rfl, rfl, rfl⟩ := trodAll_none hA
  obtain ⟨rfl, rfl⟩ := trodVars_none hV
  clear hA0 hval0
  refine (walk  W (tab_of hL)).mono fun e W' ⟨he, bel⟩ => ?_
  subst he
  exact ⟨_, rfl, _, _, _, [], _, [], hW', trodAll_mk1 (shut_bool Tryd.underlying4 _), trodAll_mk0, rfl, bel.frame _, fun h => by cases h⟩

theorem laid_met (os : Os) : laidMet Tryd.prog Rows.proofNamesRow.laid ((laidWorld os).forCall (fun _ _ => 0) ⟨#[], #[], []⟩).memory :=
  laidMet_of_run' 8 (by kernel_rfl) (by kernel_rfl)
theorem reads (os : Os) {H : Type} (enc : TypeId × Value → H) : ∃ places, DataW.whole enc Tryd.prog ((laidWorld os).forCall (fun _ _ => 0) ⟨#[], #[], []⟩).memory Tryd.f7.params.toList Rows.proofNamesSpec.vars false (#[] : Array Value).toList 8 = some ([], [], places) :=
  ⟨[], by kernel_rfl⟩
set_option maxRecDepth 100000 in
theorem lifted (os : Os) (started : os.Started) (H : Type) (enc : TypeId × Value → H) (F : Stop.Interp) :
    ReturnsInHanded {} Tryd.checked os 7 .any ((OpenSpec.ofChange Rows.proofNamesSpec).preRow enc Tryd.prog Tryd.f7 Rows.proofNamesRow.domain false Rows.proofNamesRow.laid) (((OpenSpec.ofChange Rows.proofNamesSpec).at F).post enc Tryd.prog Tryd.f7 false true false false) := by
  obtain ⟨places, hx⟩ := reads os enc
  refine returnsInHanded_of_row (C := Tryd.checked) (s := OpenSpec.ofChange Rows.proofNamesSpec) own started (by kernel_rfl) Tryd.func7
    (witness_row_at (enc := enc) (C := Tryd.checked) false (laidWorld os) #[] rfl (by kernel_rfl) (by kernel_rfl) (by kernel_rfl)
      (OpenSpec.preRow_of_cond 8 hx (by kernel_rfl) (fun k hk => by cases hk) (by kernel_rfl) (laid_met os))) ?_
  intro W base args ds gs before hval hW _ _ _ hL _ _
  exact contract H enc W base args ds gs before hval hW hL
theorem said : Rows.ProofNamesSaid :=
  OpenClaim.holds_of_cond 7 Tryd.f7 rfl rfl rfl rfl rfl rfl rfl ⟨rfl, rfl, rfl, rfl, rfl⟩ rfl rfl rfl rfl rfl (by kernel_rfl) Tryd.func7 (by kernel_rfl)
    (of_decide_eq_true (by kernel_rfl)) (by unfold Func.isWrapper; first | (rw [if_pos (by decide +kernel)]; kernel_rfl) | (rw [if_neg (by decide +kernel)]; exact ⟨rfl, rfl⟩))
    (fun os started H enc _ F => by rw [OpenClaim.pre_eq_preRow]; exact lifted os started H enc F)
set_option maxRecDepth 100000 in
/-- No parameter wants a stand-in; the program's own looks are off: what the card asks. -/
theorem plain (f : FuncId) (fn : Func) (hf : Tryd.pinned.checked.prog.funcNamed "beadroll/beadrolllaw07.ProofNames" = some f) (hfn : Tryd.pinned.checked.prog.funcs[f]? = some fn) :
    false = Tryd.pinned.checked.prog.looks [] ∧ ∀ (j : Nat) t, fn.params[j]? = some t → Tryd.pinned.checked.prog.wantsStandIn t = false := by
  obtain rfl : f = 7 := Option.some.inj ((show Tryd.prog.funcNamed "beadroll/beadrolllaw07.ProofNames" = some 7 by kernel_rfl).symm.trans hf) |>.symm
  obtain rfl : fn = Tryd.f7 := (Option.some.inj (Tryd.func7.symm.trans hfn)).symm
  refine ⟨by kernel_rfl, fun j t ht => ?_⟩
  rw [Tryd.params7] at ht
  simp at ht
set_option maxRecDepth 100000 in
/-- ████ THE CARD ████ -/
theorem proved : Rows.ProofNamesCardSaid :=
  Claim7.holds_tied_plain_at .later [] _ _ _ _ said (fun _ h => by cases h) (by kernel_rfl) (fun _ h => by cases h) proofNames_row_tie rfl ⟨rfl, rfl⟩ (by kernel_rfl) rfl plain (by kernel_rfl)
#print axioms proved
end Go.Proofs.YtfjkcdccnbggnaaDoor.proofNames
