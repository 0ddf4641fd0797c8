/-
  The document's answers of layer 6: Way.
-/
import Derived.Test.YtapnhdpgogfceaaGreatDoorRf6
import Derived.Test.YtapnhdpgogfceaaGreatDoorTrB
import Derived.Test.YtapnhdpgogfceaaGreatDoorRefG
namespace Go.Proofs.YtapnhdpgogfceaaGreatDoor
open Go.RowKit
set_option linter.unusedVariables false
set_option linter.unusedSimpArgs false
set_option maxRecDepth 100000

theorem sideL_snoc (ns : List Nd) (os : List Int) (o : Int) : sideL ns (os ++ [o]) = sideL ns os ++ [⟨sumP ns (255 - os.length) o, sumP_length⟩] := by
  unfold sideL
  rw [List.zipIdx_append]
  simp
def OnZ (ns : List Nd) (k : Dg) (root : Int) (os : List Int) (m : Int) : Prop := OnWay ns k root os m ∧ ∃ b, 0 ≤ rgt ns (256 - os.length) m b ∧ Zr os.length b
theorem onz_next {ns : List Nd} {k : Dg} {root m : Int} {os : List Int} (ho : Ones ns) (h : OnZ ns k root os m) (hf : forkB ns m = true) :
    os.length < 256 ∧ 0 < m ∧ m ≤ ns.length ∧ (ndAt ns m).leaf = false ∧ (kb k.1 os.length = 1 → OnZ ns k root (os ++ [(ndAt ns m).l]) (ndAt ns m).r) ∧ (kb k.1 os.length = 0 → OnZ ns k root (os ++ [(ndAt ns m).r]) (ndAt ns m).l) ∧
    (0 ≤ (ndAt ns m).l ∧ (ndAt ns m).l ≤ ns.length ∧ ∃ b, 0 ≤ rgt ns (255 - os.length) (ndAt ns m).l b ∧ Zr (256 - (255 - os.length)) b) ∧ (0 ≤ (ndAt ns m).r ∧ (ndAt ns m).r ≤ ns.length ∧ ∃ b, 0 ≤ rgt ns (255 - os.length) (ndAt ns m).r b ∧ Zr (256 - (255 - os.length)) b) := by
  obtain ⟨h1, b, h4, hz⟩ := h
  obtain ⟨n1, n2, n3, n4, n5⟩ := onway_next ho h1 hf
  obtain ⟨f, hf2, r1, r2, _, _⟩ := fork_parts (by omega) n3 h4
  have he : 255 - os.length = f := by omega
  have hd : 255 - f = os.length := by omega
  have hs : 256 - f = os.length + 1 := by omega
  rw [hd] at r2
  have z1 : Zr (os.length + 1) b := zr_succ hz
  have z2 : Zr (os.length + 1) (turnD b os.length) := zr_turn hz n1
  obtain ⟨j, hj, hm, hx, hone⟩ := ones_at ho n2 h1.2.2.1
  obtain ⟨k1, k2, k3, k4, _⟩ := one_fork hone (by rw [← hx]; exact n3)
  rw [← hx] at k1 k2 k3 k4
  have q : ∀ x : Int, 256 - (os ++ [x]).length = f := fun x => by rw [List.length_append, List.length_singleton]; omega
  rw [he, hs]
  refine ⟨n1, n2, h1.2.2.1, n3, fun hb => ⟨n4 hb, _, by rw [q]; exact r2, by rw [List.length_append]; exact z2⟩, fun hb => ⟨n5 hb, _, by rw [q]; exact r1, by rw [List.length_append]; exact z1⟩, ⟨k1, by omega, b, r1, z1⟩, ⟨k3, by omega, _, r2, z2⟩⟩
/-- The root of what a right number stands for, at its depth. -/
theorem ROfFor (ns : List Nd) (ho : Ones ns) (hc : ns.length ≤ 1000) (e : Nat) (o : Int) (he : e ≤ 256) (h0 : ∃ b, 0 ≤ rgt ns e o b ∧ Zr (256 - e) b) (F : Nat → Prop) (A : Option Addr) (c : Nat) (w : World) (hr : Row F w A (forP ns e o)) (d : Int) (hd : d = ((256 - e : Nat) : Int)) :
    Calls Tryz.prog 28 #[.slice A (forP ns e o).length c, .int .i64 d] w fun r w' => r = .returned (.agg ((sumP ns e o).map bv).toArray) ∧ Below w.heap.size w w' := by
  subst hd
  obtain ⟨b, h1, h2⟩ := h0
  obtain ⟨s1, s2, _, _, _, s6⟩ := for_spec e o b he h2 h1
  rw [sum_root e o b he h2 h1]
  refine ROfP_any e (256 - e) _ F A c w (by omega) s2 s1.shr (Nat.le_trans (for_length he h2 h1) hc) (fun p hp => ?_) hr
  obtain ⟨x, hx, hl, rfl⟩ := s6 p hp
  have := ones_val ho hx hl
  unfold valB at this
  simp at this
  show x.v.length ≤ 64
  omega

set_option maxHeartbeats 2000000 in
theorem RWay_any (F : Nat → Prop) (A : Option Addr) (c : Nat) (ns : List Nd) (root : Int) (k : Dg) (w : World) (hr : Row F w A ns) (hc : ns.length ≤ 1000) (hm : mayT ⟨ns, root⟩ = true) :
    Calls Tryz.prog 48 #[.agg #[.slice A ns.length c, .int .i64 root], .agg (k.1.map bv).toArray] w fun e w' => ∃ A' c', e = .returned (.tuple #[.int .i64 (wayP ns k 256 root).1, .slice A' (sideL ns (wayP ns k 256 root).2).length c']) ∧ OwnR 26 w' w.heap.size A' c' (sideL ns (wayP ns k 256 root).2) ∧ Below w.heap.size w w' := by
  obtain ⟨-, m1, m2, ho, m3⟩ := mayT_iff.1 hm
  dsimp only at m1 m2 ho m3
  obtain ⟨hb0, hk0, W0⟩ := boxesTD w A ns.length c root k 24 26
  have hr0 := hr.bel W0
  have hu := Tryz.underlying26
  have hut := Tryz.underlying24
  have hun := Tryz.underlying47
  have hiT := hid (show (Tryz.prog.info? 24).map (·.size) = some ([Value.slice A ns.length c, .int .i64 root]).length from sizeTr)
  have hi := hid (sizeDgT k)
  have y1 := hb0.rt
  have hAt := fun d (hd : d < 256) W => At_is k.1 d _ W rfl k.2 hd
  have hstart : OnZ ns k root [] root := ⟨onway_start m1 m2 m3, z0, m3, zr_z0⟩
  replace hstart := hid hstart
  have hnx := hid (fun os m => @onz_next ns k root m os ho)
  have hen := hid (fun os m => @onway_end ns k root m os)
  have hFo := fun (e : Nat) (o : Int) (b : Dg) (W : World) h1 h2 h3 h4 h5 (hW : Row F W A ns) => RFor_any F A c ns root ho (by omega) e o b W h1 h2 h3 h4 h5 hW
  have hOf := fun (e : Nat) (o : Int) h1 h2 G B d W hW dd hdd => ROfFor ns ho hc e o h1 h2 G B d W hW dd hdd
  replace hFo := hid hFo
  replace hOf := hid hOf
  generalize hdk : k.1.map bv = dk at *
  clear hr hm m1 m2 m3 hdk
  go_enter Tryz.func48, Tryz.ntmps48
  go_wp2
  generalize (w.alloc (.cells #[.slice A ns.length c, .int .i64 root] 24)).alloc (.cells dk.toArray 26) = w0 at *
  go_loopw [6, 7, 8] (fun v6 v7 v8 wr => ∃ (m : Int) (os : List Int) (A6 : Option Addr) (c6 : Nat), v7 = .int .i64 m ∧ v8 = .int .i64 os.length ∧ v6 = .slice A6 (sideL ns os).length c6 ∧ OwnR 26 wr w0.heap.size A6 c6 (sideL ns os) ∧ OnZ ns k root os m ∧ Below w0.heap.size w0 wr) (fun _ _ v8 _ => 257 - (intOf v8).toNat)
  case atStart => exact ⟨root, [], none, 0, rfl, rfl, rfl, OwnR.nil _ _, hstart.out, Below.refl _ _⟩
  case round =>
    obtain ⟨m, os, A6, c6, rfl, rfl, rfl, hown, hon, hbw⟩ := hrel
    have T1 := hb0.bel hbw
    have y2 := T1.ns
    have k1 := rangeBel2 hbw hk0
    have r1 := hr0.bel hbw
    have hm0 := hon.1.2.1
    have hm1 := hon.1.2.2.1
    cases hfk : forkB ns m with
    | false =>
      have hend := hid (hen.out os m hon.1 hfk)
      have own1 := hid hown
      clear hown hon hnx hen hFo hOf hAt hstart
      by_cases hz : m = 0
      · subst hz
        go_wp2
        go_ret2
        rw [hend.out]
        exact ⟨A6, c6, rfl, OwnR.base own1.out W0.size, W0.trans (hbw.mono W0.size)⟩
      · obtain ⟨j, hj, rfl, hx⟩ : ∃ (j : Nat) (hj : j < ns.length), m = (j : Int) + 1 ∧ ndAt ns m = ns[j] := by
          obtain ⟨j, rfl⟩ : ∃ j : Nat, m = (j : Int) + 1 := ⟨(m - 1).toNat, by omega⟩
          exact ⟨j, by omega, rfl, ndAt_at (by omega)⟩
        have hl : ns[j].leaf = true := by
          unfold forkB at hfk
          rw [decide_eq_true hz, Bool.true_and, hx] at hfk
          simpa using hfk
        obtain ⟨q, o, hAe, A', c', hR, _⟩ := row_nd r1 hj
        subst hAe
        have hlf := nd_leaf hR
        rw [hl] at hlf
        have hw : IntKind.i64.wrap ((j : Int) + 1 - 1) = j := by rw [IntKind.wrap_i64]; omega
        have hgt : decide ((0 : Int) < (j : Int) + 1) = true := decide_eq_true (by omega)
        clear hR
        go_wp2
        go_ret2
        rw [hend.out]
        exact ⟨A6, c6, rfl, OwnR.base own1.out W0.size, W0.trans (hbw.mono W0.size)⟩
    | true =>
      obtain ⟨hlt, hm2, hm3, hl, n1, n0, pL, pR⟩ := hnx.out os m hon hfk
      obtain ⟨j, hj, rfl, hx⟩ : ∃ (j : Nat) (hj : j < ns.length), m = (j : Int) + 1 ∧ ndAt ns m = ns[j] := by
        obtain ⟨j, rfl⟩ : ∃ j : Nat, m = (j : Int) + 1 := ⟨(m - 1).toNat, by omega⟩
        exact ⟨j, by omega, rfl, ndAt_at (by omega)⟩
      rw [hx] at n1 n0 hl pL pR
      obtain ⟨q, o, hAe, A', c', hR, hv1, hv2, hv3, hI1, hI2⟩ := row_nd r1 hj
      subst hAe
      have hlf := nd_leaf hR
      rw [hl] at hlf
      have hw : IntKind.i64.wrap ((j : Int) + 1 - 1) = j := by rw [IntKind.wrap_i64]; omega
      have hgt : decide ((0 : Int) < (j : Int) + 1) = true := decide_eq_true (by omega)
      have hA := hAt os.length hlt
      have hbb := kb_lt k.1 os.length
      have hsn := hid (fun x => sideL_snoc ns os x)
      have hsl := hid (sideL_length ns os)
      have hwd : IntKind.i64.wrap ((os.length : Int) + 1) = os.length + 1 := by rw [IntKind.wrap_i64]; omega
      have hiN := hid (show (Tryz.prog.info? 47).map (·.size) = some (ndC ns[j] A' c').length by rw [len_nd]; exact sizeNd)
      have hiS := hid (show (Tryz.prog.info? 47).map (·.size) = some (ndC ns[j] A' c').toArray.size by rw [List.size_toArray, len_nd]; exact sizeNd)
      have hzs := hid (show zNdC.size = (ndC ns[j] A' c').toArray.size by rw [zSizeNd, List.size_toArray, len_nd])
      have hone := hid (one_nd ns[j] A' c')
      have hBN := hid (fun (W : World) (g : Nat) (tt : TypeId) (h : W.heap[g]? = some (.cells (ndC ns[j] A' c').toArray tt (0, 0))) => BoxN.heap h)
      have hz9 := hid (heap_alloc_new wr (.cells zNdC 47))
      have hFL := fun W (hW : Row F W (some ⟨q, o, none⟩) ns) => hFo.out (255 - os.length) ns[j].l pL.2.2.choose W (by omega) pL.2.2.choose_spec.2 pL.1 pL.2.1 pL.2.2.choose_spec.1 hW
      have hFR := fun W (hW : Row F W (some ⟨q, o, none⟩) ns) => hFo.out (255 - os.length) ns[j].r pR.2.2.choose W (by omega) pR.2.2.choose_spec.2 pR.1 pR.2.1 pR.2.2.choose_spec.1 hW
      have hOL := fun G B d W (hW : Row G W B (forP ns (255 - os.length) ns[j].l)) => hOf.out (255 - os.length) ns[j].l (by omega) pL.2.2 G B d W hW ((os.length : Int) + 1) (by omega)
      have hOR := fun G B d W (hW : Row G W B (forP ns (255 - os.length) ns[j].r)) => hOf.out (255 - os.length) ns[j].r (by omega) pR.2.2 G B d W hW ((os.length : Int) + 1) (by omega)
      have sL := sideL_snoc ns os ns[j].l
      have sR := sideL_snoc ns os ns[j].r
      clear hFo hOf hnx hen hAt hv1 hv2 hv3 pL pR hm0 hm1 hm2 hm3 hon hl hx hstart hsn
      generalize hdL : (⟨sumP ns (255 - os.length) ns[j].l, sumP_length⟩ : Dg) = dL at *
      generalize hdR : (⟨sumP ns (255 - os.length) ns[j].r, sumP_length⟩ : Dg) = dR at *
      have eL : sumP ns (255 - os.length) ns[j].l = dL.1 := by rw [← hdL]
      have eR : sumP ns (255 - os.length) ns[j].r = dR.1 := by rw [← hdR]
      rw [eL] at hOL
      rw [eR] at hOR
      generalize forP ns (255 - os.length) ns[j].l = fL at *
      generalize forP ns (255 - os.length) ns[j].r = fR at *
      clear hdL hdR eL eR
      generalize hL1 : sideL ns os = L1 at *
      have hlL : (dL.1.map bv).length = Enc.size Dg := by rw [List.length_map, dL.2]; rfl
      have hlR : (dR.1.map bv).length = Enc.size Dg := by rw [List.length_map, dR.2]; rfl
      generalize kb k.1 os.length = bb at *
      replace hown := hid hown
      replace hR := hid hR
      replace sL := hid sL
      replace sR := hid sR
      replace n1 := hid n1
      replace n0 := hid n0
      replace hL1 := hid hL1
      replace hA := hid hA
      replace hFL := hid hFL
      replace hFR := hid hFR
      replace hOL := hid hOL
      replace hOR := hid hOR
      go_wp2_with (first
        | (with_reducible refine wpList_alloc_row rfl 47 rfl zNdC zInfoNd ?_)
        | ((with_reducible refine wpList_load_rng rfl 47 (.tmp 32) rfl q (o + j * 36) rfl (ndC ns[j] A' c') _ ?_ hun rfl hiN.out ?_); exact hR.out)
        | ((with_reducible refine wpList_store_row rfl 47 (.tmp 9) (.tmp 33) rfl _ _ rfl rfl 47 zNdC ?_ ?_ ?_ ?_ ?_); exact hz9.out; exact hiS.out; exact hzs.out; exact hone.out; intro w4 hg4 hb4 hs4; have X4 := hid (xnew_ rfl hb4); have N4 := hBN.out _ _ _ hg4; have u5 := N4.l; have u6 := N4.r; have T4 := T1.bel X4.out; have k4 := rangeBel2 X4.out k1; have r4 := hid (r1.bel X4.out); have own4 := hid (hown.out.bel X4.out); have W4 := hid (hbw.trans (X4.out.mono hbw.size)); clear hg4 hb4 hs4))
      have hs0 := hid hbw.size
      clear hz9 hR hown hBN hiN hiS hzs hone k1 y2 r1 T1 hbw hlf hb0 hr0 hk0
      rcases (show bb = 0 ∨ bb = 1 by omega) with rfl | rfl
      · have hn2 := hid (n0.out rfl)
        refine wp_region_noPanic ?_
        refine wp_region_held_drew (S := fun w' => Below w4.heap.size w4 w') (by kernel_rfl) ?_ (fun hHeld => ?_)
        · exact bel_drew w4
        refine' wpAnyH_take (i := 0) (oi := _) (v := ?_) rfl (by kernel_rfl) (by kernel_rfl) (by kernel_rfl) (fun _ _ _ h => h) (Or.inl ⟨by rfl, ?_⟩) (by assumption) ?_
        rotate_left
        · intro W hSw
          go_simp
          first | done | (with_reducible rfl)
        try simp only [Act.put, sQa, sQb, sQc, gQa, gQb, gQc]
        refine' wpAnyH_take (i := 1) (oi := _) (v := ?_) rfl (by kernel_rfl) (by kernel_rfl) (by kernel_rfl) (fun _ _ _ h => h) (Or.inl ⟨by rfl, ?_⟩) (by assumption) ?_
        rotate_left
        · intro W hSw
          have hCell := (hSw.cell (World.block_lt_of_cell? _ _ u5)).trans u5
          go_simp
          first | done | (with_reducible rfl)
        try simp only [Act.put, sQa, sQb, sQc, gQa, gQb, gQc]
        refine' wpAnyH_take (i := 2) (oi := _) (v := ?_) rfl (by kernel_rfl) (by kernel_rfl) (by kernel_rfl) (fun _ _ _ h => h) (Or.inl ⟨by rfl, ?_⟩) (by assumption) ?_
        rotate_left
        · intro W hSw
          go_simp
          first | done | (with_reducible rfl)
        try simp only [Act.put, sQa, sQb, sQc, gQa, gQb, gQc]
        refine' wpAnyH_take (i := 3) (oi := _) (v := ?_) rfl (by kernel_rfl) (by kernel_rfl) (by kernel_rfl) (fun _ _ _ h => h) (Or.inl ⟨by rfl, ?_⟩) (by assumption) ?_
        rotate_left
        · intro W hSw
          have hCell := (hSw.cell (World.block_lt_of_cell? _ _ u6)).trans u6
          go_simp
          first | done | (with_reducible rfl)
        try simp only [Act.put, sQa, sQb, sQc, gQa, gQb, gQc]
        refine' wpAnyH_take (i := 4) (oi := _) (v := ?_) rfl (by kernel_rfl) (by kernel_rfl) (by kernel_rfl) (fun _ _ _ h => h) (Or.inl ⟨by rfl, ?_⟩) (by assumption) ?_
        rotate_left
        · intro W hSw
          go_simp
          first | done | (with_reducible rfl)
        try simp only [Act.put, sQa, sQb, sQc, gQa, gQb, gQc]
        refine' wpAnyH_take (i := 5) (oi := _) (v := ?_) rfl (by kernel_rfl) (by kernel_rfl) (by kernel_rfl) (fun _ _ _ h => h) (Or.inl ⟨by rfl, ?_⟩) (by assumption) ?_
        rotate_left
        · intro W hSw
          go_simp
          first | done | (with_reducible rfl)
        try simp only [Act.put, sQa, sQb, sQc, gQa, gQb, gQc]
        refine wpAnyH_done (by kernel_rfl) ?_ _
        refine NoPanic.normal ?_
        have T5 := T4.bel hHeld
        have k5 := rangeBel2 hHeld k4
        have r5 := hid (r4.out.bel hHeld)
        have own5 := hid (own4.out.bel hHeld)
        have W5 := hid (W4.out.trans (hHeld.mono W4.out.size))
        clear T4 k4 r4 own4 W4 hHeld u5 u6 N4 X4
        go_wp2_with (first
          | ((with_reducible refine wpList_load_rng rfl 26 (.tmp 3) rfl (w.heap.size + 1) 0 rfl dk _ ?_ hu rfl hi.out ?_); exact k5))
        refine (hA.out _).mono ?_
        rintro e w6 ⟨rfl, hb6⟩
        have T6 := T5.bel hb6
        have r6 := hid (r5.out.bel hb6)
        have own6 := hid (own5.out.bel hb6)
        have W6 := hid (W5.out.trans (hb6.mono W5.out.size))
        clear T5 k5 r5 own5 W5 hb6
        go_wp2_with (first
          | ((with_reducible refine wpList_load_rng rfl 24 (.tmp 2) rfl w.heap.size 0 rfl [Value.slice (some ⟨q, o, none⟩) ns.length c, .int .i64 root] _ ?_ hut rfl hiT.out ?_); exact T6.all))
        refine (hFR.out _ r6.out).mono ?_
        rintro e w7 ⟨A7, c7, rfl, ho7, hb7⟩
        have own7 := hid (own6.out.bel hb7)
        have W7 := hid (W6.out.trans (hb7.mono W6.out.size))
        have f7 := ho7.row
        clear T6 r6 own6 W6 ho7 hb7
        go_wp2_with fail
        refine (hOR.out _ A7 c7 _ f7).mono ?_
        rintro e w8 ⟨rfl, hb8⟩
        have own8 := hid (own7.out.bel hb8)
        have W8 := hid (W7.out.trans (hb8.mono W7.out.size))
        clear f7 own7 W7 hb8
        go_wp2_with (first
          | ((with_reducible refine wpList_buildOne slotDg (by decide) rfl (.tmp 50) rfl (dR.1.map bv) ?_ hlR ?_); rfl)
          | (at_builtin; refine wpList_appOwn slotDg rfl (.tmp 44) (.tmp 51) rfl w0.heap.size w0.heap.size A6 _ L1.length 1 c6 1 L1 [dR] (fun _ => False) rfl rfl rfl rfl (own8.out.alloc _) (src_alloc (show Enc.rep (fun _ => False) w8 dR (dR.1.map bv) from rfl)) (fun b hb => hb.elim) (by have := hsl.out; have := hlt; simp only [List.length_singleton]; omega) (by have := W8.out.size; rw [World.size_alloc]; omega) ?_; intro A9 c9 w9 ho9 hb9; have own9 := hid ho9; have W9 := hid (W8.out.trans (((ext_alloc w8 (.cells (dR.1.map bv).toArray 26)).mono W8.out.size).trans hb9)); clear ho9 hb9))
        go_roundw
        case rel => exact ⟨ns[j].l, os ++ [ns[j].r], A9, c9, rfl, (by rw [List.length_append]; rfl), (by rw [sR.out, List.length_append]; rfl), (by rw [sR.out]; exact own9.out), hn2.out, W9.out⟩
        case measure => simp [intOf]; omega
      · have hn2 := hid (n1.out rfl)
        refine wp_region_noPanic ?_
        refine wp_region_held_drew (S := fun w' => Below w4.heap.size w4 w') (by kernel_rfl) ?_ (fun hHeld => ?_)
        · exact bel_drew w4
        refine' wpAnyH_take (i := 0) (oi := _) (v := ?_) rfl (by kernel_rfl) (by kernel_rfl) (by kernel_rfl) (fun _ _ _ h => h) (Or.inl ⟨by rfl, ?_⟩) (by assumption) ?_
        rotate_left
        · intro W hSw
          go_simp
          first | done | (with_reducible rfl)
        try simp only [Act.put, sQa, sQb, sQc, gQa, gQb, gQc]
        refine' wpAnyH_take (i := 1) (oi := _) (v := ?_) rfl (by kernel_rfl) (by kernel_rfl) (by kernel_rfl) (fun _ _ _ h => h) (Or.inl ⟨by rfl, ?_⟩) (by assumption) ?_
        rotate_left
        · intro W hSw
          have hCell := (hSw.cell (World.block_lt_of_cell? _ _ u5)).trans u5
          go_simp
          first | done | (with_reducible rfl)
        try simp only [Act.put, sQa, sQb, sQc, gQa, gQb, gQc]
        refine' wpAnyH_take (i := 2) (oi := _) (v := ?_) rfl (by kernel_rfl) (by kernel_rfl) (by kernel_rfl) (fun _ _ _ h => h) (Or.inl ⟨by rfl, ?_⟩) (by assumption) ?_
        rotate_left
        · intro W hSw
          go_simp
          first | done | (with_reducible rfl)
        try simp only [Act.put, sQa, sQb, sQc, gQa, gQb, gQc]
        refine' wpAnyH_take (i := 3) (oi := _) (v := ?_) rfl (by kernel_rfl) (by kernel_rfl) (by kernel_rfl) (fun _ _ _ h => h) (Or.inl ⟨by rfl, ?_⟩) (by assumption) ?_
        rotate_left
        · intro W hSw
          have hCell := (hSw.cell (World.block_lt_of_cell? _ _ u6)).trans u6
          go_simp
          first | done | (with_reducible rfl)
        try simp only [Act.put, sQa, sQb, sQc, gQa, gQb, gQc]
        refine' wpAnyH_take (i := 4) (oi := _) (v := ?_) rfl (by kernel_rfl) (by kernel_rfl) (by kernel_rfl) (fun _ _ _ h => h) (Or.inl ⟨by rfl, ?_⟩) (by assumption) ?_
        rotate_left
        · intro W hSw
          go_simp
          first | done | (with_reducible rfl)
        try simp only [Act.put, sQa, sQb, sQc, gQa, gQb, gQc]
        refine' wpAnyH_take (i := 5) (oi := _) (v := ?_) rfl (by kernel_rfl) (by kernel_rfl) (by kernel_rfl) (fun _ _ _ h => h) (Or.inl ⟨by rfl, ?_⟩) (by assumption) ?_
        rotate_left
        · intro W hSw
          go_simp
          first | done | (with_reducible rfl)
        try simp only [Act.put, sQa, sQb, sQc, gQa, gQb, gQc]
        refine wpAnyH_done (by kernel_rfl) ?_ _
        refine NoPanic.normal ?_
        have T5 := T4.bel hHeld
        have k5 := rangeBel2 hHeld k4
        have r5 := hid (r4.out.bel hHeld)
        have own5 := hid (own4.out.bel hHeld)
        have W5 := hid (W4.out.trans (hHeld.mono W4.out.size))
        clear T4 k4 r4 own4 W4 hHeld u5 u6 N4 X4
        go_wp2_with (first
          | ((with_reducible refine wpList_load_rng rfl 26 (.tmp 3) rfl (w.heap.size + 1) 0 rfl dk _ ?_ hu rfl hi.out ?_); exact k5))
        refine (hA.out _).mono ?_
        rintro e w6 ⟨rfl, hb6⟩
        have T6 := T5.bel hb6
        have r6 := hid (r5.out.bel hb6)
        have own6 := hid (own5.out.bel hb6)
        have W6 := hid (W5.out.trans (hb6.mono W5.out.size))
        clear T5 k5 r5 own5 W5 hb6
        go_wp2_with (first
          | ((with_reducible refine wpList_load_rng rfl 24 (.tmp 2) rfl w.heap.size 0 rfl [Value.slice (some ⟨q, o, none⟩) ns.length c, .int .i64 root] _ ?_ hut rfl hiT.out ?_); exact T6.all))
        refine (hFL.out _ r6.out).mono ?_
        rintro e w7 ⟨A7, c7, rfl, ho7, hb7⟩
        have own7 := hid (own6.out.bel hb7)
        have W7 := hid (W6.out.trans (hb7.mono W6.out.size))
        have f7 := ho7.row
        clear T6 r6 own6 W6 ho7 hb7
        go_wp2_with fail
        refine (hOL.out _ A7 c7 _ f7).mono ?_
        rintro e w8 ⟨rfl, hb8⟩
        have own8 := hid (own7.out.bel hb8)
        have W8 := hid (W7.out.trans (hb8.mono W7.out.size))
        clear f7 own7 W7 hb8
        go_wp2_with (first
          | ((with_reducible refine wpList_buildOne slotDg (by decide) rfl (.tmp 50) rfl (dL.1.map bv) ?_ hlL ?_); rfl)
          | (at_builtin; refine wpList_appOwn slotDg rfl (.tmp 44) (.tmp 51) rfl w0.heap.size w0.heap.size A6 _ L1.length 1 c6 1 L1 [dL] (fun _ => False) rfl rfl rfl rfl (own8.out.alloc _) (src_alloc (show Enc.rep (fun _ => False) w8 dL (dL.1.map bv) from rfl)) (fun b hb => hb.elim) (by have := hsl.out; have := hlt; simp only [List.length_singleton]; omega) (by have := W8.out.size; rw [World.size_alloc]; omega) ?_; intro A9 c9 w9 ho9 hb9; have own9 := hid ho9; have W9 := hid (W8.out.trans (((ext_alloc w8 (.cells (dL.1.map bv).toArray 26)).mono W8.out.size).trans hb9)); clear ho9 hb9))
        go_roundw
        case rel => exact ⟨ns[j].r, os ++ [ns[j].l], A9, c9, rfl, (by rw [List.length_append]; rfl), (by rw [sL.out, List.length_append]; rfl), (by rw [sL.out]; exact own9.out), hn2.out, W9.out⟩
        case measure => simp [intOf]; omega
end Go.Proofs.YtapnhdpgogfceaaGreatDoor
