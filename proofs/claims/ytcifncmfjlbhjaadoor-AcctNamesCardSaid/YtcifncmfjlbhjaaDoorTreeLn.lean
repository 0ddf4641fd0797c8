/-
  Contracts of the landed package tree: drop. (Written by program: wip/tools/gen_drop.py.)
-/
import Derived.Test.YtcifncmfjlbhjaaDoorTrC
namespace Go.Proofs.YtcifncmfjlbhjaaDoor
open Go.RowKit
set_option linter.unusedVariables false
set_option linter.unusedSimpArgs false
set_option maxRecDepth 100000

/-- A number under which a key is, at depth 256 - e. -/
def DG (ns : List Nd) (k : Dg) (e : Nat) (n : Int) : Prop := 0 ≤ n ∧ n ≤ ns.length ∧ ∃ b, Zr (256 - e) b ∧ 0 ≤ rgt ns e n b ∧ hasP (forP ns e n) k = true
theorem dg_ne {ns : List Nd} {k : Dg} {e : Nat} {n : Int} (h : DG ns k e n) : n ≠ 0 := by
  rintro rfl
  obtain ⟨_, _, b, _, _, hh⟩ := h
  rw [forP_zero] at hh
  cases hh
theorem dg_leaf {ns : List Nd} {k : Dg} {n : Int} (h : DG ns k 0 n) : (ndAt ns n).leaf = true := by
  have hne := dg_ne h
  obtain ⟨h0, hn, b, hz, hr, hh⟩ := h
  cases hl : (ndAt ns n).leaf with
  | true => rfl
  | false => rw [rgt_end hne hl] at hr; omega
theorem dg_down {ns : List Nd} {k : Dg} {e : Nat} {n : Int} (ho : Ones ns) (he : e + 1 ≤ 256) (h : DG ns k (e + 1) n) (hl : (ndAt ns n).leaf = false) :
    (0 ≤ (ndAt ns n).l ∧ (ndAt ns n).l ≤ ns.length) ∧ (0 ≤ (ndAt ns n).r ∧ (ndAt ns n).r ≤ ns.length) ∧ (kb k.1 (255 - e) = 0 → DG ns k e (ndAt ns n).l) ∧ (kb k.1 (255 - e) = 1 → DG ns k e (ndAt ns n).r) := by
  have hne := dg_ne h
  obtain ⟨h0, hn, b, hz, hr, hh⟩ := h
  have hd : 255 - e < 256 := by omega
  have hz' : Zr (255 - e) b := by rw [show 255 - e = 256 - (e + 1) by omega]; exact hz
  obtain ⟨k1, k2, _⟩ := ones_kids ho (by omega) hn hl
  obtain ⟨f, hf, rl, rr, _, _⟩ := fork_parts hne hl hr
  obtain rfl : e = f := by omega
  have z1 : Zr (256 - e) b := by rw [show 256 - e = 255 - e + 1 by omega]; exact zr_succ hz'
  have z2 : Zr (256 - e) (turnD b (255 - e)) := by rw [show 256 - e = 255 - e + 1 by omega]; exact zr_turn hz' hd
  have u1 := (for_spec e (ndAt ns n).l b (by omega) z1 rl).1
  have u2 := (for_spec e (ndAt ns n).r (turnD b (255 - e)) (by omega) z2 rr).1
  rw [show 256 - e = 255 - e + 1 by omega] at u1 u2
  rw [forP_fork hne hl] at hh
  refine ⟨⟨k1.1, by omega⟩, ⟨k2.1, by omega⟩, fun hb => ⟨k1.1, by omega, b, z1, rl, ?_⟩, fun hb => ⟨k2.1, by omega, _, z2, rr, ?_⟩⟩
  · obtain ⟨p, hp, rfl⟩ := hasP_mem.1 hh
    rcases List.mem_append.1 hp with hp | hp
    · exact hasP_mem.2 ⟨p, hp, rfl⟩
    · have := u2 p hp (255 - e) (by omega)
      rw [turn_self hz' hd, hb] at this
      cases this
  · obtain ⟨p, hp, rfl⟩ := hasP_mem.1 hh
    rcases List.mem_append.1 hp with hp | hp
    · have := u1 p hp (255 - e) (by omega)
      rw [hz' _ (Nat.le_refl _) hd, hb] at this
      cases this
    · exact hasP_mem.2 ⟨p, hp, rfl⟩
theorem dg_drop {ns : List Nd} {k : Dg} {e : Nat} {n : Int} (ho : Ones ns) (he : e ≤ 256) (h : DG ns k e n) : (∃ ms, (dropN ns k e n).1 = ns ++ ms) ∧ (dropN ns k e n).1.length ≤ ns.length + e ∧ 0 ≤ (dropN ns k e n).2 ∧ (dropN ns k e n).2 ≤ (dropN ns k e n).1.length := by
  obtain ⟨h0, hn, b, hz, hr, hh⟩ := h
  obtain ⟨⟨ms, a1, a2⟩, _, a3, a4, _⟩ := drop_spec ho e n b he h0 hn hz hr hh
  exact ⟨⟨ms, a1⟩, by rw [a1, List.length_append]; omega, a3, a4⟩
theorem single_Q (ns : List Nd) (a b : Int) : singleP ns a b = singleQ ns a b := rfl

set_option maxHeartbeats 4000000 in
theorem PTdrop_step (g B0 : Nat) (F : Nat → Prop) (k : Dg) (ns : List Nd) (root : Int) (ho : Ones ns) (hlen : ns.length + 600 ≤ 1000000) (e d : Nat) (n : Int) (hd : e + d = 256) (hG : DG ns k e n) (w : World) (P : Nat → Prop)
    (hT : TrieAt w g B0 F P ns root) (hB : B0 ≤ w.heap.size) (hFP : ∀ b, F b → P b)
    (ih : ∀ f, e = f + 1 → ∀ (n : Int) (w : World) (P : Nat → Prop), DG ns k f n → TrieAt w g B0 F P ns root → B0 ≤ w.heap.size → (∀ b, F b → P b) →
      Calls Tryd.prog 43 #[.pointer (some ⟨g, 0, none⟩), .int .i64 n, .int .i64 ((d : Int) + 1), .agg (k.1.map bv).toArray] w (PutPost g B0 F P root w (dropN ns k f n))) :
    Calls Tryd.prog 43 #[.pointer (some ⟨g, 0, none⟩), .int .i64 n, .int .i64 (d : Int), .agg (k.1.map bv).toArray] w (PutPost g B0 F P root w (dropN ns k e n)) := by
  have hu := Tryd.underlying35
  have hu2 := Tryd.underlying109
  have hutr := Tryd.underlying77
  have hi := hid (sizeDgT k)
  have X0 := ext_alloc w (.cells (k.1.map bv).toArray 35)
  have k0 := hid (rangeOf (heap_alloc_new w (.cells (k.1.map bv).toArray 35)))
  have T0 := hid (hT.more (Q := fun b => b = w.heap.size) X0 (fun b hb => by subst hb; exact ⟨Nat.le_refl _, by rw [World.size_alloc]; omega⟩))
  have hPl : ∀ b, P b → b < w.heap.size := fun b hb => by obtain ⟨_, _, _, _, _, _, _, h6⟩ := hT; exact (h6 b hb).1
  have hFl : ∀ b, F b → b < w.heap.size := fun b hb => hPl b (hFP b hb)
  have sz0 := hid (World.size_alloc w (.cells (k.1.map bv).toArray 35))
  obtain ⟨A, c, R0, r0⟩ := T0.out.cap
  have hiTr := hid (show (Tryd.prog.info? 77).map (·.size) = some ([Value.slice A ns.length c, .int .i64 root]).length from sizeTrie)
  obtain ⟨n0, n1, -⟩ := id hG
  have hLf := hid (fun W hW => PIsLeaf_any (fun b => b < (w.alloc (.cells (k.1.map bv).toArray 35)).heap.size) A c ns root n W hW n0 n1 (by omega))
  have h8B := hid (Nat.le_trans hB X0.size)
  have S0 := hid (stay_old hPl X0)
  have W0 := hid (X0.mono hB)
  have hdd := hid hd
  have hz := dg_ne hG
  replace R0 := hid R0
  replace r0 := hid r0
  replace hFP := hid hFP
  replace hPl := hid hPl
  replace hFl := hid hFl
  replace hG := hid hG
  replace hT := trivial
  generalize hdk : k.1.map bv = dk at *
  replace hdk := hid hdk
  obtain ⟨j, rfl⟩ : ∃ j : Nat, n = (j : Int) + 1 := ⟨(n - 1).toNat, by omega⟩
  have hj : j < ns.length := by omega
  have hxn := ndAt_at hj
  cases hl : ns[j].leaf with
  | true =>
    have hp : dropN ns k e ((j : Int) + 1) = (ns, 0) := dropN_leaf (by rw [hxn]; exact hl)
    rw [hp]
    rw [show leafB ns ((j : Int) + 1) = true by unfold leafB; rw [hxn, hl, decide_eq_true hz]; rfl] at hLf
    clear hp ih hl hxn
    go_enter Tryd.func43, Tryd.ntmps43
    go_wp2_with (first
      | ((with_reducible refine wpList_load_rng rfl 77 (.tmp 13) rfl g 0 rfl [Value.slice A ns.length c, .int .i64 root] _ ?_ hutr rfl hiTr.out ?_); exact R0.out))
    generalize w.alloc (.cells dk.toArray 35) = w0 at *
    refine (hLf.out _ r0.out).mono ?_
    rintro r w2 ⟨rfl, hb⟩
    go_wp2
    go_ret
    exact ⟨rfl, (T0.out.bel hb).less (fun b hb => .inl hb), S0.out.trans (stay_old (fun b hb => Nat.lt_of_lt_of_le (hPl.out b hb) (by have := sz0.out; omega)) hb), W0.out.trans (hb.mono h8B.out)⟩
  | false =>
    rcases e with _ | e
    · have := dg_leaf hG.out; rw [hxn, hl] at this; cases this
    have hlf : (ndAt ns ((j : Int) + 1)).leaf = false := by rw [hxn]; exact hl
    obtain ⟨⟨l0, l1⟩, ⟨r0', r1⟩, gl, gr⟩ := dg_down ho (by omega) hG.out hlf
    have hdf : 255 - e = d := by omega
    have hstep := dropN_fork (k := k) (e := e) hlf
    rw [hdf] at gl gr hstep
    rw [hxn] at l0 l1 r0' r1 gl gr hstep
    have hst0 : kb k.1 d = 0 → dropN ns k (e + 1) ((j : Int) + 1) = joinN (dropN ns k e ns[j].l).1 (dropN ns k e ns[j].l).2 ns[j].r := fun h => by rw [hstep, if_neg (by omega)]
    have hst1 : kb k.1 d = 1 → dropN ns k (e + 1) ((j : Int) + 1) = joinN (dropN ns k e ns[j].r).1 ns[j].l (dropN ns k e ns[j].r).2 := fun h => by rw [hstep, if_pos h]
    clear hstep
    have hd2 : d < 256 := by omega
    have hwd : IntKind.i64.wrap ((d : Int) + 1) = d + 1 := by rw [IntKind.wrap_i64]; omega
    have hBt := hid (fun W => PTBit_is k d hd2 _ W rfl)
    have hFk := hid (fun (m : Int) (h : DG ns k e m) => dg_drop ho (by omega) h)
    have ihF := hid (fun (m : Int) (W : World) (P : Nat → Prop) => ih e rfl m W P)
    have hbit := kb_lt k.1 d
    rw [hdk.out] at hBt
    clear ih
    obtain ⟨q, o, hAe, A', c', hR, _⟩ := row_nd r0.out hj
    subst hAe
    rw [show leafB ns ((j : Int) + 1) = false by unfold leafB; rw [hxn, hl, decide_eq_true hz]; rfl] at hLf
    have hRd := hid (fun W (hW : W.rangeAt q (o + j * 36) (ndC ns[j] A' c')) => PRoads_at q o j ns.length c root ns[j] A' c' W hW hj (by omega))
    generalize ndC ns[j] A' c' = xs at *
    generalize ns[j].l = L at *
    generalize ns[j].r = RR at *
    replace hR := hid hR
    replace hst0 := hid hst0
    replace hst1 := hid hst1
    replace gl := hid gl
    replace gr := hid gr
    clear hxn hl hlf
    generalize kb k.1 d = bb at *
    go_enter Tryd.func43, Tryd.ntmps43
    go_wp2_with (first
      | ((with_reducible refine wpList_load_rng rfl 77 (.tmp 13) rfl g 0 rfl [Value.slice (some ⟨q, o, none⟩) ns.length c, .int .i64 root] _ ?_ hutr rfl hiTr.out ?_); exact R0.out))
    generalize w.alloc (.cells dk.toArray 35) = w0 at *
    refine (hLf.out _ r0.out).mono ?_
    rintro r w2 ⟨rfl, hb⟩
    have R2 := hid (rangeBel2 hb R0.out)
    have q2 := hid (rangeBel2 hb hR.out)
    have k2 := hid (rangeBel2 hb k0.out)
    have B2 := hid hb
    clear hb hLf
    rcases (show bb = 0 ∨ bb = 1 by omega) with rfl | rfl
    · as_aux_lemma =>
        go_wp2
        refine wp_region_noPanic ?_
        refine wp_region_held_drew (S := fun w' => Below w2.heap.size w2 w') (by kernel_rfl) ?_ (fun hHeld => ?_)
        · exact bel_drew w2
        refine' wpAnyH_take (i := 0) (oi := _) (v := ?_) rfl (by kernel_rfl) (by kernel_rfl) (by kernel_rfl) (fun _ _ _ h => h) (Or.inl ⟨by rfl, ?_⟩) (by assumption) ?_
        rotate_left
        · intro W hSw
          go_simp
          first | done | (with_reducible rfl)
        try simp only [Act.put, sQa, sQb, sQc, gQa, gQb, gQc]
        refine' wpAnyH_take (i := 1) (oi := _) (v := ?_) rfl (by kernel_rfl) (by kernel_rfl) (by kernel_rfl) (fun _ _ _ h => h) (Or.inl ⟨by rfl, ?_⟩) (by assumption) ?_
        rotate_left
        · intro W hSw
          go_simp
          first | done | (with_reducible rfl)
        try simp only [Act.put, sQa, sQb, sQc, gQa, gQb, gQc]
        refine' wpAnyH_take (i := 2) (oi := _) (v := _) rfl (by kernel_rfl) (by kernel_rfl) (by kernel_rfl) (fun _ _ _ h => h) (yieldsIf_load_mid (by rfl) _ _ rfl _ _ rfl _ _ (fun _ h => rangeBel2 h R2.out) hutr rfl hiTr.out) (by assumption) ?_
        try simp only [Act.put, sQa, sQb, sQc, gQa, gQb, gQc]
        refine' wpAnyH_take (i := 3) (oi := _) (v := ?_) rfl (by kernel_rfl) (by kernel_rfl) (by kernel_rfl) (fun _ _ _ h => h) (Or.inl ⟨by rfl, ?_⟩) (by assumption) ?_
        rotate_left
        · intro W hSw
          go_simp
          first | done | (with_reducible rfl)
        try simp only [Act.put, sQa, sQb, sQc, gQa, gQb, gQc]
        refine' wpAnyH_take (i := 5) (oi := _) (v := _) rfl (by kernel_rfl) (by kernel_rfl) (by kernel_rfl) (fun _ _ _ h => h) (yieldsIf_load_mid (by rfl) _ _ rfl _ _ rfl _ _ (fun _ h => rangeBel2 h k2.out) hu rfl hi.out) (by assumption) ?_
        try simp only [Act.put, sQa, sQb, sQc, gQa, gQb, gQc]
        refine' wpAnyH_take (i := 6) (oi := _) (v := ?_) rfl (by kernel_rfl) (by kernel_rfl) (by kernel_rfl) (fun _ _ _ h => h) (Or.inl ⟨by rfl, ?_⟩) (by assumption) ?_
        rotate_left
        · intro W hSw
          go_simp
          first | done | (with_reducible rfl)
        try simp only [Act.put, sQa, sQb, sQc, gQa, gQb, gQc]
        refine wpAnyH_ready (rs := [4, 8]) (by kernel_rfl) (by simp) ?_
        refine AllReadyH.cons (o := _) rfl (fun K hK => ?_) ?_
        · skip
          go_simp
          refine (hRd.out _ (rangeBel2 hHeld q2.out)).mono ?_
          rintro r w3 ⟨rfl, hB⟩
          try replace e6 := (hB.block _ (block_lt e6)).trans e6
          go_wp2_with fail
          refine hK.out _ _ ?_ (fun hHeld => ?_)
          · exact hHeld.trans (hB.mono hHeld.size)
          clear hK K
          try simp only [Act.put, sQa, sQb, sQc, gQa, gQb, gQc]
          refine wpAnyH_ready (rs := [7, 8]) (by kernel_rfl) (by simp) ?_
          refine AllReadyH.cons (o := _) rfl (fun K hK => ?_) ?_
          · skip
            go_simp
            refine (hBt.out _).mono ?_
            rintro r w4 ⟨rfl, hB⟩
            try replace e6 := (hB.block _ (block_lt e6)).trans e6
            go_wp2_with fail
            refine hK.out _ _ ?_ (fun hHeld => ?_)
            · exact hHeld.trans (hB.mono hHeld.size)
            clear hK K
            try simp only [Act.put, sQa, sQb, sQc, gQa, gQb, gQc]
            refine wpAnyH_ready (rs := [8]) (by kernel_rfl) (by simp) ?_
            refine AllReadyH.cons (o := _) rfl (fun K hK => ?_) AllReadyH.nil
            refine step_alloc_rowT rfl 109 rfl z2C zInfo2 ?_
            intro b3 w8 b6 e6 hB
            have m6 := Nat.le_trans hHeld.size b6
            refine hK.out _ _ ?_ (fun hHeld => ?_)
            · exact hHeld.trans (hB.mono hHeld.size)
            clear hK K
            try simp only [Act.put, sQa, sQb, sQc, gQa, gQb, gQc]
            refine wpAnyH_ready (rs := [9]) (by kernel_rfl) (by simp) ?_
            refine AllReadyH.cons (o := _) rfl (fun K hK => ?_) AllReadyH.nil
            refine step_store_rowT rfl 109 (.tmp 9) (.tmp 21) rfl b3 _ rfl rfl 109 z2C e6 size2 rfl (one2 L RR) ?_
            intro w5 d6 hG
            refine hK.out _ _ ?_ (fun hHeld => ?_)
            · exact hHeld.grown hG hHeld.size (by intro k hk; injection hk with hk; omega)
            clear hK K
            try simp only [Act.put, sQa, sQb, sQc, gQa, gQb, gQc]
            refine' wpAnyH_take (i := 10) (oi := _) (v := ?_) rfl (by kernel_rfl) (by kernel_rfl) (by kernel_rfl) (fun _ _ _ h => h) (Or.inl ⟨by rfl, ?_⟩) (by assumption) ?_
            rotate_left
            · intro W hSw
              go_simp
              first | done | (with_reducible rfl)
            try simp only [Act.put, sQa, sQb, sQc, gQa, gQb, gQc]
            refine wpAnyH_done (by kernel_rfl) ?_ _
            refine NoPanic.normal ?_
            have e5 := hid d6
            have rb := hid (Nat.le_trans B2.out.size m6)
            have lt5 := hid (block_lt d6)
            have B5 := hid (B2.out.trans (hHeld.mono B2.out.size))
            clear hHeld
            try clear hB
            try clear e6
            clear d6 hG m6 b6
            have hres := hst0.out (by first | trivial | rfl)
            have hg1 := gl.out (by first | trivial | rfl)
            obtain ⟨⟨ms, p0⟩, p1, p2, p3⟩ := hFk.out _ hg1
            have iha := ihF.out L
            generalize dropN ns k e L = rp at *
            obtain ⟨ns2, M⟩ := rp
            dsimp only at p0 p1 p2 p3 hres
            have p4 : ns.length ≤ ns2.length := by rw [p0, List.length_append]; omega
            replace hres := hid hres
            have hg1 := hid hg1
            replace iha := hid iha
            replace p0 := hid p0
            have hsg := hid (fun (G : Nat → Prop) A c W hW => PSingle_any G A c ns2 root M RR W hW (by omega) (by omega) (by omega) (by omega) (by omega))
            have hfk := hid (fun W h1 h2 => PAddFork_any W g B0 F (fun b => (P b ∨ b = w.heap.size) ∨ b = b3) ns2 root M RR h1 h2 (by omega) ⟨by omega, by omega⟩ ⟨by omega, by omega⟩)
            clear hst0 hst1 gl gr ihF hFk
            have e5c := block_cell e5.out 0
            simp only [List.getElem?_toArray, List.getElem?_cons_zero, List.getElem?_cons_succ] at e5c
            have T5 := hid ((T0.out.more (Q := fun b => b = b3) B5.out (fun b hb => by subst hb; exact ⟨rb.out, lt5.out⟩)))
            have q6 := hid (rangeBel2 B5.out k0.out)
            go_wp2
            refine wp_region_noPanic ?_
            refine wp_region_held_drew (S := fun w' => w'.rangeAt w.heap.size 0 dk) (by kernel_rfl) ?_ (fun hHeld => ?_)
            · exact q6.out
            refine' wpAnyH_take (i := 0) (oi := _) (v := ?_) rfl (by kernel_rfl) (by kernel_rfl) (by kernel_rfl) (fun _ _ _ h => h) (Or.inl ⟨by rfl, ?_⟩) (by assumption) ?_
            rotate_left
            · intro W hSw
              go_simp
              first | done | (with_reducible rfl)
            try simp only [Act.put, sQa, sQb, sQc, gQa, gQb, gQc]
            refine' wpAnyH_take (i := 1) (oi := _) (v := ?_) rfl (by kernel_rfl) (by kernel_rfl) (by kernel_rfl) (fun _ _ _ h => h) (Or.inl ⟨by rfl, ?_⟩) (by assumption) ?_
            rotate_left
            · intro W hSw
              go_simp
              first | done | (with_reducible rfl)
            try simp only [Act.put, sQa, sQb, sQc, gQa, gQb, gQc]
            refine' wpAnyH_take (i := 2) (oi := _) (v := ?_) rfl (by kernel_rfl) (by kernel_rfl) (by kernel_rfl) (fun _ _ _ h => h) (Or.inl ⟨by rfl, ?_⟩) (by assumption) ?_
            rotate_left
            · intro W hSw
              go_simp
              first | done | (with_reducible rfl)
            try simp only [Act.put, sQa, sQb, sQc, gQa, gQb, gQc]
            refine' wpAnyH_take (i := 3) (oi := _) (v := ?_) rfl (by kernel_rfl) (by kernel_rfl) (by kernel_rfl) (fun _ _ _ h => h) (Or.inl ⟨by rfl, ?_⟩) (by assumption) ?_
            rotate_left
            · intro W hSw
              go_simp
              first | done | (with_reducible rfl)
            try simp only [Act.put, sQa, sQb, sQc, gQa, gQb, gQc]
            refine' wpAnyH_take (i := 5) (oi := _) (v := ?_) rfl (by kernel_rfl) (by kernel_rfl) (by kernel_rfl) (fun _ _ _ h => h) (Or.inl ⟨by rfl, ?_⟩) (by assumption) ?_
            rotate_left
            · intro W hSw
              go_simp
              first | done | (with_reducible rfl)
            try simp only [Act.put, sQa, sQb, sQc, gQa, gQb, gQc]
            refine' wpAnyH_take (i := 6) (oi := _) (v := ?_) rfl (by kernel_rfl) (by kernel_rfl) (by kernel_rfl) (fun _ _ _ h => h) (Or.inl ⟨by rfl, ?_⟩) (by assumption) ?_
            rotate_left
            · intro W hSw
              go_simp
              first | done | (with_reducible rfl)
            try simp only [Act.put, sQa, sQb, sQc, gQa, gQb, gQc]
            refine' wpAnyH_take (i := 7) (oi := _) (v := _) rfl (by kernel_rfl) (by kernel_rfl) (by kernel_rfl) (fun _ _ _ h => h) (yieldsIf_load_mid (by rfl) _ _ rfl _ _ rfl _ _ (fun _ h => h) hu rfl hi.out) (by assumption) ?_
            try simp only [Act.put, sQa, sQb, sQc, gQa, gQb, gQc]
            refine wpAnyH_ready (rs := [4]) (by kernel_rfl) (by simp) ?_
            refine AllReadyH.cons (o := _) rfl (fun K hK => ?_) AllReadyH.nil
            go_simp
            refine hK.out _ _ ?_ (fun hHeld => ?_)
            · exact hHeld
            clear hK K
            try simp only [Act.put, sQa, sQb, sQc, gQa, gQb, gQc]
            refine wpAnyH_ready (rs := [8]) (by kernel_rfl) (by simp) ?_
            refine AllReadyH.cons (o := _) rfl (fun K hK => ?_) AllReadyH.nil
            go_simp
            refine (iha.out _ (fun b => (P b ∨ b = w.heap.size) ∨ b = b3) hg1.out (T5.out.bel (bel_drew w5)) (Nat.le_trans h8B.out B5.out.size) (fun b hb => .inl (.inl (hFP.out b hb)))).mono ?_
            rintro r w7 ⟨rfl, T7, S7, B7⟩
            have g7 := (S7 b3 (.inr rfl)).trans e5.out
            have f7 := block_frozen g7 0
            have d7 := block_cell g7 0
            simp only [List.getElem?_toArray, List.getElem?_cons_zero, List.getElem?_cons_succ] at d7
            replace g7 := hid g7
            replace T7 := hid T7
            replace S7 := hid S7
            replace B7 := hid (undrew B7)
            go_wp2_with fail
            refine hK.out _ _ ?_ (fun hHeld => ?_)
            · exact rangeAt_kept hHeld (fun _ => S7 w.heap.size (.inl (.inr rfl)))
            clear hK K
            try simp only [Act.put, sQa, sQb, sQc, gQa, gQb, gQc]
            refine' wpAnyH_take (i := 9) (oi := _) (v := ?_) rfl (by kernel_rfl) (by kernel_rfl) (by kernel_rfl) (fun _ _ _ h => h) (Or.inl ⟨by rfl, ?_⟩) (by assumption) ?_
            rotate_left
            · intro W hSw
              go_simp
              first | done | (with_reducible rfl)
            try simp only [Act.put, sQa, sQb, sQc, gQa, gQb, gQc]
            refine wpAnyH_ready (rs := [10]) (by kernel_rfl) (by simp) ?_
            refine AllReadyH.cons (o := _) rfl (fun K hK => ?_) AllReadyH.nil
            go_simp
            refine hK.out _ _ ?_ (fun hHeld => ?_)
            · exact rangeAt_kept hHeld (fun _ => Below.heap_setCell _ _ _ _ (by have := rb.out; have := sz0.out; show w.heap.size ≠ b3; omega))
            clear hK K
            try simp only [Act.put, sQa, sQb, sQc, gQa, gQb, gQc]
            refine wpAnyH_done (by kernel_rfl) ?_ _
            refine NoPanic.normal ?_
            have g8 := hid (block_set g7.out 0 (.int .i64 M))
            have T8 := hid (T7.out.at_ (b0 := b3) (w' := w7.setCell ⟨b3, 0, none⟩ (.int .i64 M)) (.inr rfl) (fun h => by have := hFl.out b3 h; have := rb.out; have := sz0.out; omega) (by simp [World.setCell]) (fun b _ hn => Below.heap_setCell _ _ _ _ hn))
            have S8 := hid (fun b (hp : P b) => (Below.heap_setCell w7 ⟨b3, 0, none⟩ (.int .i64 M) b (by have := hPl.out b hp; have := rb.out; have := sz0.out; show b ≠ b3; omega)).trans ((S7.out b (.inl (.inl hp))).trans ((B5.out.block b (by have := hPl.out b hp; have := sz0.out; omega)).trans (S0.out b hp))))
            have B8 := hid (((W0.out.trans (B5.out.mono h8B.out)).trans B7.out).setCell (p := ⟨b3, 0, none⟩) (Nat.le_trans h8B.out rb.out) (.int .i64 M))
            rw [set2_0] at g8
            have hsz8 := hid (show B0 ≤ (w7.setCell ⟨b3, 0, none⟩ (.int .i64 M)).heap.size by have := B8.out.size; omega)
            have r8 := hid (rangeOf (l := [Value.int .i64 M, .int .i64 RR]) g8.out)
            clear T7 S7 B7 g7 f7 d7 e5c e5 T5 q6 hHeld iha
            generalize w7.setCell ⟨b3, 0, none⟩ (.int .i64 M) = w8 at *
            have hi8 := hid (show (Tryd.prog.info? 109).map (·.size) = some ([Value.int .i64 M, .int .i64 RR]).length from size2)
            obtain ⟨A8, c8, R8, row8⟩ := T8.out.cap
            have hiT8 := hid (show (Tryd.prog.info? 77).map (·.size) = some ([Value.slice A8 ns2.length c8, .int .i64 root]).length from sizeTrie)
            replace R8 := hid R8
            replace row8 := hid row8
            obtain ⟨sg, hsgv⟩ : ∃ sg, singleP ns2 M RR = sg := ⟨_, rfl⟩
            rw [hsgv] at hsg
            have hJ0 := hid (fun (h : sg = 0) => (show joinN ns2 M RR = (ns2 ++ [forkN M RR], (ns2.length : Int) + 1) from by unfold joinN; rw [← single_Q, hsgv, if_pos h]))
            have hJ1 := hid (fun (h : sg ≠ 0) => (show joinN ns2 M RR = (ns2, sg) from by unfold joinN; rw [← single_Q, hsgv, if_neg h]))
            replace hsgv := hid hsgv
            go_wp2
            refine wp_region_noPanic ?_
            refine wp_region_held_drew (S := fun w' => Below w8.heap.size w8 w') (by kernel_rfl) ?_ (fun hHeld => ?_)
            · exact bel_drew w8
            refine' wpAnyH_take (i := 0) (oi := _) (v := ?_) rfl (by kernel_rfl) (by kernel_rfl) (by kernel_rfl) (fun _ _ _ h => h) (Or.inl ⟨by rfl, ?_⟩) (by assumption) ?_
            rotate_left
            · intro W hSw
              go_simp
              first | done | (with_reducible rfl)
            try simp only [Act.put, sQa, sQb, sQc, gQa, gQb, gQc]
            refine' wpAnyH_take (i := 1) (oi := _) (v := ?_) rfl (by kernel_rfl) (by kernel_rfl) (by kernel_rfl) (fun _ _ _ h => h) (Or.inl ⟨by rfl, ?_⟩) (by assumption) ?_
            rotate_left
            · intro W hSw
              go_simp
              first | done | (with_reducible rfl)
            try simp only [Act.put, sQa, sQb, sQc, gQa, gQb, gQc]
            refine' wpAnyH_take (i := 2) (oi := _) (v := _) rfl (by kernel_rfl) (by kernel_rfl) (by kernel_rfl) (fun _ _ _ h => h) (yieldsIf_load_mid (by rfl) _ _ rfl _ _ rfl _ _ (fun _ h => rangeBel2 h R8.out) hutr rfl hiT8.out) (by assumption) ?_
            try simp only [Act.put, sQa, sQb, sQc, gQa, gQb, gQc]
            refine' wpAnyH_take (i := 3) (oi := _) (v := _) rfl (by kernel_rfl) (by kernel_rfl) (by kernel_rfl) (fun _ _ _ h => h) (yieldsIf_load_mid (by rfl) _ _ rfl _ _ rfl _ _ (fun _ h => rangeBel2 h r8.out) hu2 rfl hi8.out) (by assumption) ?_
            try simp only [Act.put, sQa, sQb, sQc, gQa, gQb, gQc]
            refine wpAnyH_ready (rs := [4]) (by kernel_rfl) (by simp) ?_
            refine AllReadyH.cons (o := _) rfl (fun K hK => ?_) AllReadyH.nil
            go_simp
            refine (hsg.out _ A8 c8 _ (row8.out.bel hHeld)).mono ?_
            rintro r w9 ⟨rfl, hB⟩
            go_wp2_with fail
            refine hK.out _ _ ?_ (fun hHeld => ?_)
            · exact hHeld.trans (hB.mono hHeld.size)
            clear hK K
            try simp only [Act.put, sQa, sQb, sQc, gQa, gQb, gQc]
            refine' wpAnyH_take (i := 5) (oi := _) (v := ?_) rfl (by kernel_rfl) (by kernel_rfl) (by kernel_rfl) (fun _ _ _ h => h) (Or.inl ⟨by rfl, ?_⟩) (by assumption) ?_
            rotate_left
            · intro W hSw
              go_simp
              first | done | (with_reducible rfl)
            try simp only [Act.put, sQa, sQb, sQc, gQa, gQb, gQc]
            refine wpAnyH_done (by kernel_rfl) ?_ _
            refine NoPanic.normal ?_
            have S9 := hid (stay_old (P := P) (fun b hb => Nat.lt_of_lt_of_le (hPl.out b hb) (by have := sz0.out; have := B5.out.size; have := T8.out.lt.1; obtain ⟨_, _, _, _, _, _, _, h6⟩ := T8.out; have := (h6 w.heap.size (.inl (.inr rfl))).1; omega)) hHeld)
            by_cases hs0 : sg = 0
            · subst hs0
              go_wp2_with (first
                | ((with_reducible refine wpList_load_rng rfl 109 (.tmp 9) rfl b3 0 rfl [Value.int .i64 M, .int .i64 RR] _ ?_ hu2 rfl hi8.out ?_); exact rangeBel2 hHeld r8.out))
              refine (hfk.out _ (T8.out.bel hHeld) (Nat.le_trans hsz8.out hHeld.size)).mono ?_
              rintro r w10 ⟨rfl, T9, S10, B9⟩
              go_wp2
              go_ret
              rw [hres.out, hJ0.out (by first | trivial | rfl)]
              exact ⟨rfl, T9.less (fun b hb => .inl (.inl hb)), fun b hp => (S10 b (.inl (.inl hp))).trans ((S9.out b hp).trans (S8.out b hp)), (B8.out.trans (hHeld.mono hsz8.out)).trans B9⟩
            · have hsb : (sg != 0) = true := bne_iff_ne.2 hs0
              go_wp2
              go_ret
              rw [hres.out, hJ1.out (by first | exact hs0 | trivial)]
              exact ⟨rfl, (T8.out.bel hHeld).less (fun b hb => .inl (.inl hb)), fun b hp => (S9.out b hp).trans (S8.out b hp), B8.out.trans (hHeld.mono hsz8.out)⟩
          refine AllReadyH.cons (o := _) rfl (fun K hK => ?_) ?_
          · skip
            refine step_alloc_rowT rfl 109 rfl z2C zInfo2 ?_
            intro b3 w8 b6 e6 hB
            have m6 := Nat.le_trans hHeld.size b6
            refine hK.out _ _ ?_ (fun hHeld => ?_)
            · exact hHeld.trans (hB.mono hHeld.size)
            clear hK K
            try simp only [Act.put, sQa, sQb, sQc, gQa, gQb, gQc]
            refine wpAnyH_ready (rs := [7]) (by kernel_rfl) (by simp) ?_
            refine AllReadyH.cons (o := _) rfl (fun K hK => ?_) AllReadyH.nil
            go_simp
            refine (hBt.out _).mono ?_
            rintro r w4 ⟨rfl, hB⟩
            try replace e6 := (hB.block _ (block_lt e6)).trans e6
            go_wp2_with fail
            refine hK.out _ _ ?_ (fun hHeld => ?_)
            · exact hHeld.trans (hB.mono hHeld.size)
            clear hK K
            try simp only [Act.put, sQa, sQb, sQc, gQa, gQb, gQc]
            refine wpAnyH_ready (rs := [9]) (by kernel_rfl) (by simp) ?_
            refine AllReadyH.cons (o := _) rfl (fun K hK => ?_) AllReadyH.nil
            refine step_store_rowT rfl 109 (.tmp 9) (.tmp 21) rfl b3 _ rfl rfl 109 z2C e6 size2 rfl (one2 L RR) ?_
            intro w5 d6 hG
            refine hK.out _ _ ?_ (fun hHeld => ?_)
            · exact hHeld.grown hG hHeld.size (by intro k hk; injection hk with hk; omega)
            clear hK K
            try simp only [Act.put, sQa, sQb, sQc, gQa, gQb, gQc]
            refine' wpAnyH_take (i := 10) (oi := _) (v := ?_) rfl (by kernel_rfl) (by kernel_rfl) (by kernel_rfl) (fun _ _ _ h => h) (Or.inl ⟨by rfl, ?_⟩) (by assumption) ?_
            rotate_left
            · intro W hSw
              go_simp
              first | done | (with_reducible rfl)
            try simp only [Act.put, sQa, sQb, sQc, gQa, gQb, gQc]
            refine wpAnyH_done (by kernel_rfl) ?_ _
            refine NoPanic.normal ?_
            have e5 := hid d6
            have rb := hid (Nat.le_trans B2.out.size m6)
            have lt5 := hid (block_lt d6)
            have B5 := hid (B2.out.trans (hHeld.mono B2.out.size))
            clear hHeld
            try clear hB
            try clear e6
            clear d6 hG m6 b6
            have hres := hst0.out (by first | trivial | rfl)
            have hg1 := gl.out (by first | trivial | rfl)
            obtain ⟨⟨ms, p0⟩, p1, p2, p3⟩ := hFk.out _ hg1
            have iha := ihF.out L
            generalize dropN ns k e L = rp at *
            obtain ⟨ns2, M⟩ := rp
            dsimp only at p0 p1 p2 p3 hres
            have p4 : ns.length ≤ ns2.length := by rw [p0, List.length_append]; omega
            replace hres := hid hres
            have hg1 := hid hg1
            replace iha := hid iha
            replace p0 := hid p0
            have hsg := hid (fun (G : Nat → Prop) A c W hW => PSingle_any G A c ns2 root M RR W hW (by omega) (by omega) (by omega) (by omega) (by omega))
            have hfk := hid (fun W h1 h2 => PAddFork_any W g B0 F (fun b => (P b ∨ b = w.heap.size) ∨ b = b3) ns2 root M RR h1 h2 (by omega) ⟨by omega, by omega⟩ ⟨by omega, by omega⟩)
            clear hst0 hst1 gl gr ihF hFk
            have e5c := block_cell e5.out 0
            simp only [List.getElem?_toArray, List.getElem?_cons_zero, List.getElem?_cons_succ] at e5c
            have T5 := hid ((T0.out.more (Q := fun b => b = b3) B5.out (fun b hb => by subst hb; exact ⟨rb.out, lt5.out⟩)))
            have q6 := hid (rangeBel2 B5.out k0.out)
            go_wp2
            refine wp_region_noPanic ?_
            refine wp_region_held_drew (S := fun w' => w'.rangeAt w.heap.size 0 dk) (by kernel_rfl) ?_ (fun hHeld => ?_)
            · exact q6.out
            refine' wpAnyH_take (i := 0) (oi := _) (v := ?_) rfl (by kernel_rfl) (by kernel_rfl) (by kernel_rfl) (fun _ _ _ h => h) (Or.inl ⟨by rfl, ?_⟩) (by assumption) ?_
            rotate_left
            · intro W hSw
              go_simp
              first | done | (with_reducible rfl)
            try simp only [Act.put, sQa, sQb, sQc, gQa, gQb, gQc]
            refine' wpAnyH_take (i := 1) (oi := _) (v := ?_) rfl (by kernel_rfl) (by kernel_rfl) (by kernel_rfl) (fun _ _ _ h => h) (Or.inl ⟨by rfl, ?_⟩) (by assumption) ?_
            rotate_left
            · intro W hSw
              go_simp
              first | done | (with_reducible rfl)
            try simp only [Act.put, sQa, sQb, sQc, gQa, gQb, gQc]
            refine' wpAnyH_take (i := 2) (oi := _) (v := ?_) rfl (by kernel_rfl) (by kernel_rfl) (by kernel_rfl) (fun _ _ _ h => h) (Or.inl ⟨by rfl, ?_⟩) (by assumption) ?_
            rotate_left
            · intro W hSw
              go_simp
              first | done | (with_reducible rfl)
            try simp only [Act.put, sQa, sQb, sQc, gQa, gQb, gQc]
            refine' wpAnyH_take (i := 3) (oi := _) (v := ?_) rfl (by kernel_rfl) (by kernel_rfl) (by kernel_rfl) (fun _ _ _ h => h) (Or.inl ⟨by rfl, ?_⟩) (by assumption) ?_
            rotate_left
            · intro W hSw
              go_simp
              first | done | (with_reducible rfl)
            try simp only [Act.put, sQa, sQb, sQc, gQa, gQb, gQc]
            refine' wpAnyH_take (i := 5) (oi := _) (v := ?_) rfl (by kernel_rfl) (by kernel_rfl) (by kernel_rfl) (fun _ _ _ h => h) (Or.inl ⟨by rfl, ?_⟩) (by assumption) ?_
            rotate_left
            · intro W hSw
              go_simp
              first | done | (with_reducible rfl)
            try simp only [Act.put, sQa, sQb, sQc, gQa, gQb, gQc]
            refine' wpAnyH_take (i := 6) (oi := _) (v := ?_) rfl (by kernel_rfl) (by kernel_rfl) (by kernel_rfl) (fun _ _ _ h => h) (Or.inl ⟨by rfl, ?_⟩) (by assumption) ?_
            rotate_left
            · intro W hSw
              go_simp
              first | done | (with_reducible rfl)
            try simp only [Act.put, sQa, sQb, sQc, gQa, gQb, gQc]
            refine' wpAnyH_take (i := 7) (oi := _) (v := _) rfl (by kernel_rfl) (by kernel_rfl) (by kernel_rfl) (fun _ _ _ h => h) (yieldsIf_load_mid (by rfl) _ _ rfl _ _ rfl _ _ (fun _ h => h) hu rfl hi.out) (by assumption) ?_
            try simp only [Act.put, sQa, sQb, sQc, gQa, gQb, gQc]
            refine wpAnyH_ready (rs := [4]) (by kernel_rfl) (by simp) ?_
            refine AllReadyH.cons (o := _) rfl (fun K hK => ?_) AllReadyH.nil
            go_simp
            refine hK.out _ _ ?_ (fun hHeld => ?_)
            · exact hHeld
            clear hK K
            try simp only [Act.put, sQa, sQb, sQc, gQa, gQb, gQc]
            refine wpAnyH_ready (rs := [8]) (by kernel_rfl) (by simp) ?_
            refine AllReadyH.cons (o := _) rfl (fun K hK => ?_) AllReadyH.nil
            go_simp
            refine (iha.out _ (fun b => (P b ∨ b = w.heap.size) ∨ b = b3) hg1.out (T5.out.bel (bel_drew w5)) (Nat.le_trans h8B.out B5.out.size) (fun b hb => .inl (.inl (hFP.out b hb)))).mono ?_
            rintro r w7 ⟨rfl, T7, S7, B7⟩
            have g7 := (S7 b3 (.inr rfl)).trans e5.out
            have f7 := block_frozen g7 0
            have d7 := block_cell g7 0
            simp only [List.getElem?_toArray, List.getElem?_cons_zero, List.getElem?_cons_succ] at d7
            replace g7 := hid g7
            replace T7 := hid T7
            replace S7 := hid S7
            replace B7 := hid (undrew B7)
            go_wp2_with fail
            refine hK.out _ _ ?_ (fun hHeld => ?_)
            · exact rangeAt_kept hHeld (fun _ => S7 w.heap.size (.inl (.inr rfl)))
            clear hK K
            try simp only [Act.put, sQa, sQb, sQc, gQa, gQb, gQc]
            refine' wpAnyH_take (i := 9) (oi := _) (v := ?_) rfl (by kernel_rfl) (by kernel_rfl) (by kernel_rfl) (fun _ _ _ h => h) (Or.inl ⟨by rfl, ?_⟩) (by assumption) ?_
            rotate_left
            · intro W hSw
              go_simp
              first | done | (with_reducible rfl)
            try simp only [Act.put, sQa, sQb, sQc, gQa, gQb, gQc]
            refine wpAnyH_ready (rs := [10]) (by kernel_rfl) (by simp) ?_
            refine AllReadyH.cons (o := _) rfl (fun K hK => ?_) AllReadyH.nil
            go_simp
            refine hK.out _ _ ?_ (fun hHeld => ?_)
            · exact rangeAt_kept hHeld (fun _ => Below.heap_setCell _ _ _ _ (by have := rb.out; have := sz0.out; show w.heap.size ≠ b3; omega))
            clear hK K
            try simp only [Act.put, sQa, sQb, sQc, gQa, gQb, gQc]
            refine wpAnyH_done (by kernel_rfl) ?_ _
            refine NoPanic.normal ?_
            have g8 := hid (block_set g7.out 0 (.int .i64 M))
            have T8 := hid (T7.out.at_ (b0 := b3) (w' := w7.setCell ⟨b3, 0, none⟩ (.int .i64 M)) (.inr rfl) (fun h => by have := hFl.out b3 h; have := rb.out; have := sz0.out; omega) (by simp [World.setCell]) (fun b _ hn => Below.heap_setCell _ _ _ _ hn))
            have S8 := hid (fun b (hp : P b) => (Below.heap_setCell w7 ⟨b3, 0, none⟩ (.int .i64 M) b (by have := hPl.out b hp; have := rb.out; have := sz0.out; show b ≠ b3; omega)).trans ((S7.out b (.inl (.inl hp))).trans ((B5.out.block b (by have := hPl.out b hp; have := sz0.out; omega)).trans (S0.out b hp))))
            have B8 := hid (((W0.out.trans (B5.out.mono h8B.out)).trans B7.out).setCell (p := ⟨b3, 0, none⟩) (Nat.le_trans h8B.out rb.out) (.int .i64 M))
            rw [set2_0] at g8
            have hsz8 := hid (show B0 ≤ (w7.setCell ⟨b3, 0, none⟩ (.int .i64 M)).heap.size by have := B8.out.size; omega)
            have r8 := hid (rangeOf (l := [Value.int .i64 M, .int .i64 RR]) g8.out)
            clear T7 S7 B7 g7 f7 d7 e5c e5 T5 q6 hHeld iha
            generalize w7.setCell ⟨b3, 0, none⟩ (.int .i64 M) = w8 at *
            have hi8 := hid (show (Tryd.prog.info? 109).map (·.size) = some ([Value.int .i64 M, .int .i64 RR]).length from size2)
            obtain ⟨A8, c8, R8, row8⟩ := T8.out.cap
            have hiT8 := hid (show (Tryd.prog.info? 77).map (·.size) = some ([Value.slice A8 ns2.length c8, .int .i64 root]).length from sizeTrie)
            replace R8 := hid R8
            replace row8 := hid row8
            obtain ⟨sg, hsgv⟩ : ∃ sg, singleP ns2 M RR = sg := ⟨_, rfl⟩
            rw [hsgv] at hsg
            have hJ0 := hid (fun (h : sg = 0) => (show joinN ns2 M RR = (ns2 ++ [forkN M RR], (ns2.length : Int) + 1) from by unfold joinN; rw [← single_Q, hsgv, if_pos h]))
            have hJ1 := hid (fun (h : sg ≠ 0) => (show joinN ns2 M RR = (ns2, sg) from by unfold joinN; rw [← single_Q, hsgv, if_neg h]))
            replace hsgv := hid hsgv
            go_wp2
            refine wp_region_noPanic ?_
            refine wp_region_held_drew (S := fun w' => Below w8.heap.size w8 w') (by kernel_rfl) ?_ (fun hHeld => ?_)
            · exact bel_drew w8
            refine' wpAnyH_take (i := 0) (oi := _) (v := ?_) rfl (by kernel_rfl) (by kernel_rfl) (by kernel_rfl) (fun _ _ _ h => h) (Or.inl ⟨by rfl, ?_⟩) (by assumption) ?_
            rotate_left
            · intro W hSw
              go_simp
              first | done | (with_reducible rfl)
            try simp only [Act.put, sQa, sQb, sQc, gQa, gQb, gQc]
            refine' wpAnyH_take (i := 1) (oi := _) (v := ?_) rfl (by kernel_rfl) (by kernel_rfl) (by kernel_rfl) (fun _ _ _ h => h) (Or.inl ⟨by rfl, ?_⟩) (by assumption) ?_
            rotate_left
            · intro W hSw
              go_simp
              first | done | (with_reducible rfl)
            try simp only [Act.put, sQa, sQb, sQc, gQa, gQb, gQc]
            refine' wpAnyH_take (i := 2) (oi := _) (v := _) rfl (by kernel_rfl) (by kernel_rfl) (by kernel_rfl) (fun _ _ _ h => h) (yieldsIf_load_mid (by rfl) _ _ rfl _ _ rfl _ _ (fun _ h => rangeBel2 h R8.out) hutr rfl hiT8.out) (by assumption) ?_
            try simp only [Act.put, sQa, sQb, sQc, gQa, gQb, gQc]
            refine' wpAnyH_take (i := 3) (oi := _) (v := _) rfl (by kernel_rfl) (by kernel_rfl) (by kernel_rfl) (fun _ _ _ h => h) (yieldsIf_load_mid (by rfl) _ _ rfl _ _ rfl _ _ (fun _ h => rangeBel2 h r8.out) hu2 rfl hi8.out) (by assumption) ?_
            try simp only [Act.put, sQa, sQb, sQc, gQa, gQb, gQc]
            refine wpAnyH_ready (rs := [4]) (by kernel_rfl) (by simp) ?_
            refine AllReadyH.cons (o := _) rfl (fun K hK => ?_) AllReadyH.nil
            go_simp
            refine (hsg.out _ A8 c8 _ (row8.out.bel hHeld)).mono ?_
            rintro r w9 ⟨rfl, hB⟩
            go_wp2_with fail
            refine hK.out _ _ ?_ (fun hHeld => ?_)
            · exact hHeld.trans (hB.mono hHeld.size)
            clear hK K
            try simp only [Act.put, sQa, sQb, sQc, gQa, gQb, gQc]
            refine' wpAnyH_take (i := 5) (oi := _) (v := ?_) rfl (by kernel_rfl) (by kernel_rfl) (by kernel_rfl) (fun _ _ _ h => h) (Or.inl ⟨by rfl, ?_⟩) (by assumption) ?_
            rotate_left
            · intro W hSw
              go_simp
              first | done | (with_reducible rfl)
            try simp only [Act.put, sQa, sQb, sQc, gQa, gQb, gQc]
            refine wpAnyH_done (by kernel_rfl) ?_ _
            refine NoPanic.normal ?_
            have S9 := hid (stay_old (P := P) (fun b hb => Nat.lt_of_lt_of_le (hPl.out b hb) (by have := sz0.out; have := B5.out.size; have := T8.out.lt.1; obtain ⟨_, _, _, _, _, _, _, h6⟩ := T8.out; have := (h6 w.heap.size (.inl (.inr rfl))).1; omega)) hHeld)
            by_cases hs0 : sg = 0
            · subst hs0
              go_wp2_with (first
                | ((with_reducible refine wpList_load_rng rfl 109 (.tmp 9) rfl b3 0 rfl [Value.int .i64 M, .int .i64 RR] _ ?_ hu2 rfl hi8.out ?_); exact rangeBel2 hHeld r8.out))
              refine (hfk.out _ (T8.out.bel hHeld) (Nat.le_trans hsz8.out hHeld.size)).mono ?_
              rintro r w10 ⟨rfl, T9, S10, B9⟩
              go_wp2
              go_ret
              rw [hres.out, hJ0.out (by first | trivial | rfl)]
              exact ⟨rfl, T9.less (fun b hb => .inl (.inl hb)), fun b hp => (S10 b (.inl (.inl hp))).trans ((S9.out b hp).trans (S8.out b hp)), (B8.out.trans (hHeld.mono hsz8.out)).trans B9⟩
            · have hsb : (sg != 0) = true := bne_iff_ne.2 hs0
              go_wp2
              go_ret
              rw [hres.out, hJ1.out (by first | exact hs0 | trivial)]
              exact ⟨rfl, (T8.out.bel hHeld).less (fun b hb => .inl (.inl hb)), fun b hp => (S9.out b hp).trans (S8.out b hp), B8.out.trans (hHeld.mono hsz8.out)⟩
          exact AllReadyH.nil
        refine AllReadyH.cons (o := _) rfl (fun K hK => ?_) ?_
        · skip
          refine step_alloc_rowT rfl 109 rfl z2C zInfo2 ?_
          intro b3 w8 b6 e6 hB
          have m6 := Nat.le_trans hHeld.size b6
          refine hK.out _ _ ?_ (fun hHeld => ?_)
          · exact hHeld.trans (hB.mono hHeld.size)
          clear hK K
          try simp only [Act.put, sQa, sQb, sQc, gQa, gQb, gQc]
          refine wpAnyH_ready (rs := [4]) (by kernel_rfl) (by simp) ?_
          refine AllReadyH.cons (o := _) rfl (fun K hK => ?_) AllReadyH.nil
          go_simp
          refine (hRd.out _ (rangeBel2 hHeld q2.out)).mono ?_
          rintro r w3 ⟨rfl, hB⟩
          try replace e6 := (hB.block _ (block_lt e6)).trans e6
          go_wp2_with fail
          refine hK.out _ _ ?_ (fun hHeld => ?_)
          · exact hHeld.trans (hB.mono hHeld.size)
          clear hK K
          try simp only [Act.put, sQa, sQb, sQc, gQa, gQb, gQc]
          refine wpAnyH_ready (rs := [7]) (by kernel_rfl) (by simp) ?_
          refine AllReadyH.cons (o := _) rfl (fun K hK => ?_) AllReadyH.nil
          go_simp
          refine (hBt.out _).mono ?_
          rintro r w4 ⟨rfl, hB⟩
          try replace e6 := (hB.block _ (block_lt e6)).trans e6
          go_wp2_with fail
          refine hK.out _ _ ?_ (fun hHeld => ?_)
          · exact hHeld.trans (hB.mono hHeld.size)
          clear hK K
          try simp only [Act.put, sQa, sQb, sQc, gQa, gQb, gQc]
          refine wpAnyH_ready (rs := [9]) (by kernel_rfl) (by simp) ?_
          refine AllReadyH.cons (o := _) rfl (fun K hK => ?_) AllReadyH.nil
          refine step_store_rowT rfl 109 (.tmp 9) (.tmp 21) rfl b3 _ rfl rfl 109 z2C e6 size2 rfl (one2 L RR) ?_
          intro w5 d6 hG
          refine hK.out _ _ ?_ (fun hHeld => ?_)
          · exact hHeld.grown hG hHeld.size (by intro k hk; injection hk with hk; omega)
          clear hK K
          try simp only [Act.put, sQa, sQb, sQc, gQa, gQb, gQc]
          refine' wpAnyH_take (i := 10) (oi := _) (v := ?_) rfl (by kernel_rfl) (by kernel_rfl) (by kernel_rfl) (fun _ _ _ h => h) (Or.inl ⟨by rfl, ?_⟩) (by assumption) ?_
          rotate_left
          · intro W hSw
            go_simp
            first | done | (with_reducible rfl)
          try simp only [Act.put, sQa, sQb, sQc, gQa, gQb, gQc]
          refine wpAnyH_done (by kernel_rfl) ?_ _
          refine NoPanic.normal ?_
          have e5 := hid d6
          have rb := hid (Nat.le_trans B2.out.size m6)
          have lt5 := hid (block_lt d6)
          have B5 := hid (B2.out.trans (hHeld.mono B2.out.size))
          clear hHeld
          try clear hB
          try clear e6
          clear d6 hG m6 b6
          have hres := hst0.out (by first | trivial | rfl)
          have hg1 := gl.out (by first | trivial | rfl)
          obtain ⟨⟨ms, p0⟩, p1, p2, p3⟩ := hFk.out _ hg1
          have iha := ihF.out L
          generalize dropN ns k e L = rp at *
          obtain ⟨ns2, M⟩ := rp
          dsimp only at p0 p1 p2 p3 hres
          have p4 : ns.length ≤ ns2.length := by rw [p0, List.length_append]; omega
          replace hres := hid hres
          have hg1 := hid hg1
          replace iha := hid iha
          replace p0 := hid p0
          have hsg := hid (fun (G : Nat → Prop) A c W hW => PSingle_any G A c ns2 root M RR W hW (by omega) (by omega) (by omega) (by omega) (by omega))
          have hfk := hid (fun W h1 h2 => PAddFork_any W g B0 F (fun b => (P b ∨ b = w.heap.size) ∨ b = b3) ns2 root M RR h1 h2 (by omega) ⟨by omega, by omega⟩ ⟨by omega, by omega⟩)
          clear hst0 hst1 gl gr ihF hFk
          have e5c := block_cell e5.out 0
          simp only [List.getElem?_toArray, List.getElem?_cons_zero, List.getElem?_cons_succ] at e5c
          have T5 := hid ((T0.out.more (Q := fun b => b = b3) B5.out (fun b hb => by subst hb; exact ⟨rb.out, lt5.out⟩)))
          have q6 := hid (rangeBel2 B5.out k0.out)
          go_wp2
          refine wp_region_noPanic ?_
          refine wp_region_held_drew (S := fun w' => w'.rangeAt w.heap.size 0 dk) (by kernel_rfl) ?_ (fun hHeld => ?_)
          · exact q6.out
          refine' wpAnyH_take (i := 0) (oi := _) (v := ?_) rfl (by kernel_rfl) (by kernel_rfl) (by kernel_rfl) (fun _ _ _ h => h) (Or.inl ⟨by rfl, ?_⟩) (by assumption) ?_
          rotate_left
          · intro W hSw
            go_simp
            first | done | (with_reducible rfl)
          try simp only [Act.put, sQa, sQb, sQc, gQa, gQb, gQc]
          refine' wpAnyH_take (i := 1) (oi := _) (v := ?_) rfl (by kernel_rfl) (by kernel_rfl) (by kernel_rfl) (fun _ _ _ h => h) (Or.inl ⟨by rfl, ?_⟩) (by assumption) ?_
          rotate_left
          · intro W hSw
            go_simp
            first | done | (with_reducible rfl)
          try simp only [Act.put, sQa, sQb, sQc, gQa, gQb, gQc]
          refine' wpAnyH_take (i := 2) (oi := _) (v := ?_) rfl (by kernel_rfl) (by kernel_rfl) (by kernel_rfl) (fun _ _ _ h => h) (Or.inl ⟨by rfl, ?_⟩) (by assumption) ?_
          rotate_left
          · intro W hSw
            go_simp
            first | done | (with_reducible rfl)
          try simp only [Act.put, sQa, sQb, sQc, gQa, gQb, gQc]
          refine' wpAnyH_take (i := 3) (oi := _) (v := ?_) rfl (by kernel_rfl) (by kernel_rfl) (by kernel_rfl) (fun _ _ _ h => h) (Or.inl ⟨by rfl, ?_⟩) (by assumption) ?_
          rotate_left
          · intro W hSw
            go_simp
            first | done | (with_reducible rfl)
          try simp only [Act.put, sQa, sQb, sQc, gQa, gQb, gQc]
          refine' wpAnyH_take (i := 5) (oi := _) (v := ?_) rfl (by kernel_rfl) (by kernel_rfl) (by kernel_rfl) (fun _ _ _ h => h) (Or.inl ⟨by rfl, ?_⟩) (by assumption) ?_
          rotate_left
          · intro W hSw
            go_simp
            first | done | (with_reducible rfl)
          try simp only [Act.put, sQa, sQb, sQc, gQa, gQb, gQc]
          refine' wpAnyH_take (i := 6) (oi := _) (v := ?_) rfl (by kernel_rfl) (by kernel_rfl) (by kernel_rfl) (fun _ _ _ h => h) (Or.inl ⟨by rfl, ?_⟩) (by assumption) ?_
          rotate_left
          · intro W hSw
            go_simp
            first | done | (with_reducible rfl)
          try simp only [Act.put, sQa, sQb, sQc, gQa, gQb, gQc]
          refine' wpAnyH_take (i := 7) (oi := _) (v := _) rfl (by kernel_rfl) (by kernel_rfl) (by kernel_rfl) (fun _ _ _ h => h) (yieldsIf_load_mid (by rfl) _ _ rfl _ _ rfl _ _ (fun _ h => h) hu rfl hi.out) (by assumption) ?_
          try simp only [Act.put, sQa, sQb, sQc, gQa, gQb, gQc]
          refine wpAnyH_ready (rs := [4]) (by kernel_rfl) (by simp) ?_
          refine AllReadyH.cons (o := _) rfl (fun K hK => ?_) AllReadyH.nil
          go_simp
          refine hK.out _ _ ?_ (fun hHeld => ?_)
          · exact hHeld
          clear hK K
          try simp only [Act.put, sQa, sQb, sQc, gQa, gQb, gQc]
          refine wpAnyH_ready (rs := [8]) (by kernel_rfl) (by simp) ?_
          refine AllReadyH.cons (o := _) rfl (fun K hK => ?_) AllReadyH.nil
          go_simp
          refine (iha.out _ (fun b => (P b ∨ b = w.heap.size) ∨ b = b3) hg1.out (T5.out.bel (bel_drew w5)) (Nat.le_trans h8B.out B5.out.size) (fun b hb => .inl (.inl (hFP.out b hb)))).mono ?_
          rintro r w7 ⟨rfl, T7, S7, B7⟩
          have g7 := (S7 b3 (.inr rfl)).trans e5.out
          have f7 := block_frozen g7 0
          have d7 := block_cell g7 0
          simp only [List.getElem?_toArray, List.getElem?_cons_zero, List.getElem?_cons_succ] at d7
          replace g7 := hid g7
          replace T7 := hid T7
          replace S7 := hid S7
          replace B7 := hid (undrew B7)
          go_wp2_with fail
          refine hK.out _ _ ?_ (fun hHeld => ?_)
          · exact rangeAt_kept hHeld (fun _ => S7 w.heap.size (.inl (.inr rfl)))
          clear hK K
          try simp only [Act.put, sQa, sQb, sQc, gQa, gQb, gQc]
          refine' wpAnyH_take (i := 9) (oi := _) (v := ?_) rfl (by kernel_rfl) (by kernel_rfl) (by kernel_rfl) (fun _ _ _ h => h) (Or.inl ⟨by rfl, ?_⟩) (by assumption) ?_
          rotate_left
          · intro W hSw
            go_simp
            first | done | (with_reducible rfl)
          try simp only [Act.put, sQa, sQb, sQc, gQa, gQb, gQc]
          refine wpAnyH_ready (rs := [10]) (by kernel_rfl) (by simp) ?_
          refine AllReadyH.cons (o := _) rfl (fun K hK => ?_) AllReadyH.nil
          go_simp
          refine hK.out _ _ ?_ (fun hHeld => ?_)
          · exact rangeAt_kept hHeld (fun _ => Below.heap_setCell _ _ _ _ (by have := rb.out; have := sz0.out; show w.heap.size ≠ b3; omega))
          clear hK K
          try simp only [Act.put, sQa, sQb, sQc, gQa, gQb, gQc]
          refine wpAnyH_done (by kernel_rfl) ?_ _
          refine NoPanic.normal ?_
          have g8 := hid (block_set g7.out 0 (.int .i64 M))
          have T8 := hid (T7.out.at_ (b0 := b3) (w' := w7.setCell ⟨b3, 0, none⟩ (.int .i64 M)) (.inr rfl) (fun h => by have := hFl.out b3 h; have := rb.out; have := sz0.out; omega) (by simp [World.setCell]) (fun b _ hn => Below.heap_setCell _ _ _ _ hn))
          have S8 := hid (fun b (hp : P b) => (Below.heap_setCell w7 ⟨b3, 0, none⟩ (.int .i64 M) b (by have := hPl.out b hp; have := rb.out; have := sz0.out; show b ≠ b3; omega)).trans ((S7.out b (.inl (.inl hp))).trans ((B5.out.block b (by have := hPl.out b hp; have := sz0.out; omega)).trans (S0.out b hp))))
          have B8 := hid (((W0.out.trans (B5.out.mono h8B.out)).trans B7.out).setCell (p := ⟨b3, 0, none⟩) (Nat.le_trans h8B.out rb.out) (.int .i64 M))
          rw [set2_0] at g8
          have hsz8 := hid (show B0 ≤ (w7.setCell ⟨b3, 0, none⟩ (.int .i64 M)).heap.size by have := B8.out.size; omega)
          have r8 := hid (rangeOf (l := [Value.int .i64 M, .int .i64 RR]) g8.out)
          clear T7 S7 B7 g7 f7 d7 e5c e5 T5 q6 hHeld iha
          generalize w7.setCell ⟨b3, 0, none⟩ (.int .i64 M) = w8 at *
          have hi8 := hid (show (Tryd.prog.info? 109).map (·.size) = some ([Value.int .i64 M, .int .i64 RR]).length from size2)
          obtain ⟨A8, c8, R8, row8⟩ := T8.out.cap
          have hiT8 := hid (show (Tryd.prog.info? 77).map (·.size) = some ([Value.slice A8 ns2.length c8, .int .i64 root]).length from sizeTrie)
          replace R8 := hid R8
          replace row8 := hid row8
          obtain ⟨sg, hsgv⟩ : ∃ sg, singleP ns2 M RR = sg := ⟨_, rfl⟩
          rw [hsgv] at hsg
          have hJ0 := hid (fun (h : sg = 0) => (show joinN ns2 M RR = (ns2 ++ [forkN M RR], (ns2.length : Int) + 1) from by unfold joinN; rw [← single_Q, hsgv, if_pos h]))
          have hJ1 := hid (fun (h : sg ≠ 0) => (show joinN ns2 M RR = (ns2, sg) from by unfold joinN; rw [← single_Q, hsgv, if_neg h]))
          replace hsgv := hid hsgv
          go_wp2
          refine wp_region_noPanic ?_
          refine wp_region_held_drew (S := fun w' => Below w8.heap.size w8 w') (by kernel_rfl) ?_ (fun hHeld => ?_)
          · exact bel_drew w8
          refine' wpAnyH_take (i := 0) (oi := _) (v := ?_) rfl (by kernel_rfl) (by kernel_rfl) (by kernel_rfl) (fun _ _ _ h => h) (Or.inl ⟨by rfl, ?_⟩) (by assumption) ?_
          rotate_left
          · intro W hSw
            go_simp
            first | done | (with_reducible rfl)
          try simp only [Act.put, sQa, sQb, sQc, gQa, gQb, gQc]
          refine' wpAnyH_take (i := 1) (oi := _) (v := ?_) rfl (by kernel_rfl) (by kernel_rfl) (by kernel_rfl) (fun _ _ _ h => h) (Or.inl ⟨by rfl, ?_⟩) (by assumption) ?_
          rotate_left
          · intro W hSw
            go_simp
            first | done | (with_reducible rfl)
          try simp only [Act.put, sQa, sQb, sQc, gQa, gQb, gQc]
          refine' wpAnyH_take (i := 2) (oi := _) (v := _) rfl (by kernel_rfl) (by kernel_rfl) (by kernel_rfl) (fun _ _ _ h => h) (yieldsIf_load_mid (by rfl) _ _ rfl _ _ rfl _ _ (fun _ h => rangeBel2 h R8.out) hutr rfl hiT8.out) (by assumption) ?_
          try simp only [Act.put, sQa, sQb, sQc, gQa, gQb, gQc]
          refine' wpAnyH_take (i := 3) (oi := _) (v := _) rfl (by kernel_rfl) (by kernel_rfl) (by kernel_rfl) (fun _ _ _ h => h) (yieldsIf_load_mid (by rfl) _ _ rfl _ _ rfl _ _ (fun _ h => rangeBel2 h r8.out) hu2 rfl hi8.out) (by assumption) ?_
          try simp only [Act.put, sQa, sQb, sQc, gQa, gQb, gQc]
          refine wpAnyH_ready (rs := [4]) (by kernel_rfl) (by simp) ?_
          refine AllReadyH.cons (o := _) rfl (fun K hK => ?_) AllReadyH.nil
          go_simp
          refine (hsg.out _ A8 c8 _ (row8.out.bel hHeld)).mono ?_
          rintro r w9 ⟨rfl, hB⟩
          go_wp2_with fail
          refine hK.out _ _ ?_ (fun hHeld => ?_)
          · exact hHeld.trans (hB.mono hHeld.size)
          clear hK K
          try simp only [Act.put, sQa, sQb, sQc, gQa, gQb, gQc]
          refine' wpAnyH_take (i := 5) (oi := _) (v := ?_) rfl (by kernel_rfl) (by kernel_rfl) (by kernel_rfl) (fun _ _ _ h => h) (Or.inl ⟨by rfl, ?_⟩) (by assumption) ?_
          rotate_left
          · intro W hSw
            go_simp
            first | done | (with_reducible rfl)
          try simp only [Act.put, sQa, sQb, sQc, gQa, gQb, gQc]
          refine wpAnyH_done (by kernel_rfl) ?_ _
          refine NoPanic.normal ?_
          have S9 := hid (stay_old (P := P) (fun b hb => Nat.lt_of_lt_of_le (hPl.out b hb) (by have := sz0.out; have := B5.out.size; have := T8.out.lt.1; obtain ⟨_, _, _, _, _, _, _, h6⟩ := T8.out; have := (h6 w.heap.size (.inl (.inr rfl))).1; omega)) hHeld)
          by_cases hs0 : sg = 0
          · subst hs0
            go_wp2_with (first
              | ((with_reducible refine wpList_load_rng rfl 109 (.tmp 9) rfl b3 0 rfl [Value.int .i64 M, .int .i64 RR] _ ?_ hu2 rfl hi8.out ?_); exact rangeBel2 hHeld r8.out))
            refine (hfk.out _ (T8.out.bel hHeld) (Nat.le_trans hsz8.out hHeld.size)).mono ?_
            rintro r w10 ⟨rfl, T9, S10, B9⟩
            go_wp2
            go_ret
            rw [hres.out, hJ0.out (by first | trivial | rfl)]
            exact ⟨rfl, T9.less (fun b hb => .inl (.inl hb)), fun b hp => (S10 b (.inl (.inl hp))).trans ((S9.out b hp).trans (S8.out b hp)), (B8.out.trans (hHeld.mono hsz8.out)).trans B9⟩
          · have hsb : (sg != 0) = true := bne_iff_ne.2 hs0
            go_wp2
            go_ret
            rw [hres.out, hJ1.out (by first | exact hs0 | trivial)]
            exact ⟨rfl, (T8.out.bel hHeld).less (fun b hb => .inl (.inl hb)), fun b hp => (S9.out b hp).trans (S8.out b hp), B8.out.trans (hHeld.mono hsz8.out)⟩
        exact AllReadyH.nil
    · as_aux_lemma =>
        go_wp2
        refine wp_region_noPanic ?_
        refine wp_region_held_drew (S := fun w' => Below w2.heap.size w2 w') (by kernel_rfl) ?_ (fun hHeld => ?_)
        · exact bel_drew w2
        refine' wpAnyH_take (i := 0) (oi := _) (v := ?_) rfl (by kernel_rfl) (by kernel_rfl) (by kernel_rfl) (fun _ _ _ h => h) (Or.inl ⟨by rfl, ?_⟩) (by assumption) ?_
        rotate_left
        · intro W hSw
          go_simp
          first | done | (with_reducible rfl)
        try simp only [Act.put, sQa, sQb, sQc, gQa, gQb, gQc]
        refine' wpAnyH_take (i := 1) (oi := _) (v := ?_) rfl (by kernel_rfl) (by kernel_rfl) (by kernel_rfl) (fun _ _ _ h => h) (Or.inl ⟨by rfl, ?_⟩) (by assumption) ?_
        rotate_left
        · intro W hSw
          go_simp
          first | done | (with_reducible rfl)
        try simp only [Act.put, sQa, sQb, sQc, gQa, gQb, gQc]
        refine' wpAnyH_take (i := 2) (oi := _) (v := _) rfl (by kernel_rfl) (by kernel_rfl) (by kernel_rfl) (fun _ _ _ h => h) (yieldsIf_load_mid (by rfl) _ _ rfl _ _ rfl _ _ (fun _ h => rangeBel2 h R2.out) hutr rfl hiTr.out) (by assumption) ?_
        try simp only [Act.put, sQa, sQb, sQc, gQa, gQb, gQc]
        refine' wpAnyH_take (i := 3) (oi := _) (v := ?_) rfl (by kernel_rfl) (by kernel_rfl) (by kernel_rfl) (fun _ _ _ h => h) (Or.inl ⟨by rfl, ?_⟩) (by assumption) ?_
        rotate_left
        · intro W hSw
          go_simp
          first | done | (with_reducible rfl)
        try simp only [Act.put, sQa, sQb, sQc, gQa, gQb, gQc]
        refine' wpAnyH_take (i := 5) (oi := _) (v := _) rfl (by kernel_rfl) (by kernel_rfl) (by kernel_rfl) (fun _ _ _ h => h) (yieldsIf_load_mid (by rfl) _ _ rfl _ _ rfl _ _ (fun _ h => rangeBel2 h k2.out) hu rfl hi.out) (by assumption) ?_
        try simp only [Act.put, sQa, sQb, sQc, gQa, gQb, gQc]
        refine' wpAnyH_take (i := 6) (oi := _) (v := ?_) rfl (by kernel_rfl) (by kernel_rfl) (by kernel_rfl) (fun _ _ _ h => h) (Or.inl ⟨by rfl, ?_⟩) (by assumption) ?_
        rotate_left
        · intro W hSw
          go_simp
          first | done | (with_reducible rfl)
        try simp only [Act.put, sQa, sQb, sQc, gQa, gQb, gQc]
        refine wpAnyH_ready (rs := [4, 8]) (by kernel_rfl) (by simp) ?_
        refine AllReadyH.cons (o := _) rfl (fun K hK => ?_) ?_
        · skip
          go_simp
          refine (hRd.out _ (rangeBel2 hHeld q2.out)).mono ?_
          rintro r w3 ⟨rfl, hB⟩
          try replace e6 := (hB.block _ (block_lt e6)).trans e6
          go_wp2_with fail
          refine hK.out _ _ ?_ (fun hHeld => ?_)
          · exact hHeld.trans (hB.mono hHeld.size)
          clear hK K
          try simp only [Act.put, sQa, sQb, sQc, gQa, gQb, gQc]
          refine wpAnyH_ready (rs := [7, 8]) (by kernel_rfl) (by simp) ?_
          refine AllReadyH.cons (o := _) rfl (fun K hK => ?_) ?_
          · skip
            go_simp
            refine (hBt.out _).mono ?_
            rintro r w4 ⟨rfl, hB⟩
            try replace e6 := (hB.block _ (block_lt e6)).trans e6
            go_wp2_with fail
            refine hK.out _ _ ?_ (fun hHeld => ?_)
            · exact hHeld.trans (hB.mono hHeld.size)
            clear hK K
            try simp only [Act.put, sQa, sQb, sQc, gQa, gQb, gQc]
            refine wpAnyH_ready (rs := [8]) (by kernel_rfl) (by simp) ?_
            refine AllReadyH.cons (o := _) rfl (fun K hK => ?_) AllReadyH.nil
            refine step_alloc_rowT rfl 109 rfl z2C zInfo2 ?_
            intro b3 w8 b6 e6 hB
            have m6 := Nat.le_trans hHeld.size b6
            refine hK.out _ _ ?_ (fun hHeld => ?_)
            · exact hHeld.trans (hB.mono hHeld.size)
            clear hK K
            try simp only [Act.put, sQa, sQb, sQc, gQa, gQb, gQc]
            refine wpAnyH_ready (rs := [9]) (by kernel_rfl) (by simp) ?_
            refine AllReadyH.cons (o := _) rfl (fun K hK => ?_) AllReadyH.nil
            refine step_store_rowT rfl 109 (.tmp 9) (.tmp 21) rfl b3 _ rfl rfl 109 z2C e6 size2 rfl (one2 L RR) ?_
            intro w5 d6 hG
            refine hK.out _ _ ?_ (fun hHeld => ?_)
            · exact hHeld.grown hG hHeld.size (by intro k hk; injection hk with hk; omega)
            clear hK K
            try simp only [Act.put, sQa, sQb, sQc, gQa, gQb, gQc]
            refine' wpAnyH_take (i := 10) (oi := _) (v := ?_) rfl (by kernel_rfl) (by kernel_rfl) (by kernel_rfl) (fun _ _ _ h => h) (Or.inl ⟨by rfl, ?_⟩) (by assumption) ?_
            rotate_left
            · intro W hSw
              go_simp
              first | done | (with_reducible rfl)
            try simp only [Act.put, sQa, sQb, sQc, gQa, gQb, gQc]
            refine wpAnyH_done (by kernel_rfl) ?_ _
            refine NoPanic.normal ?_
            have e5 := hid d6
            have rb := hid (Nat.le_trans B2.out.size m6)
            have lt5 := hid (block_lt d6)
            have B5 := hid (B2.out.trans (hHeld.mono B2.out.size))
            clear hHeld
            try clear hB
            try clear e6
            clear d6 hG m6 b6
            have hres := hst1.out (by first | trivial | rfl)
            have hg1 := gr.out (by first | trivial | rfl)
            obtain ⟨⟨ms, p0⟩, p1, p2, p3⟩ := hFk.out _ hg1
            have iha := ihF.out RR
            generalize dropN ns k e RR = rp at *
            obtain ⟨ns2, M⟩ := rp
            dsimp only at p0 p1 p2 p3 hres
            have p4 : ns.length ≤ ns2.length := by rw [p0, List.length_append]; omega
            replace hres := hid hres
            have hg1 := hid hg1
            replace iha := hid iha
            replace p0 := hid p0
            have hsg := hid (fun (G : Nat → Prop) A c W hW => PSingle_any G A c ns2 root L M W hW (by omega) (by omega) (by omega) (by omega) (by omega))
            have hfk := hid (fun W h1 h2 => PAddFork_any W g B0 F (fun b => (P b ∨ b = w.heap.size) ∨ b = b3) ns2 root L M h1 h2 (by omega) ⟨by omega, by omega⟩ ⟨by omega, by omega⟩)
            clear hst0 hst1 gl gr ihF hFk
            have e5c := block_cell e5.out 1
            simp only [List.getElem?_toArray, List.getElem?_cons_zero, List.getElem?_cons_succ] at e5c
            have T5 := hid ((T0.out.more (Q := fun b => b = b3) B5.out (fun b hb => by subst hb; exact ⟨rb.out, lt5.out⟩)))
            have q6 := hid (rangeBel2 B5.out k0.out)
            go_wp2
            refine wp_region_noPanic ?_
            refine wp_region_held_drew (S := fun w' => w'.rangeAt w.heap.size 0 dk) (by kernel_rfl) ?_ (fun hHeld => ?_)
            · exact q6.out
            refine' wpAnyH_take (i := 0) (oi := _) (v := ?_) rfl (by kernel_rfl) (by kernel_rfl) (by kernel_rfl) (fun _ _ _ h => h) (Or.inl ⟨by rfl, ?_⟩) (by assumption) ?_
            rotate_left
            · intro W hSw
              go_simp
              first | done | (with_reducible rfl)
            try simp only [Act.put, sQa, sQb, sQc, gQa, gQb, gQc]
            refine' wpAnyH_take (i := 1) (oi := _) (v := ?_) rfl (by kernel_rfl) (by kernel_rfl) (by kernel_rfl) (fun _ _ _ h => h) (Or.inl ⟨by rfl, ?_⟩) (by assumption) ?_
            rotate_left
            · intro W hSw
              go_simp
              first | done | (with_reducible rfl)
            try simp only [Act.put, sQa, sQb, sQc, gQa, gQb, gQc]
            refine' wpAnyH_take (i := 2) (oi := _) (v := ?_) rfl (by kernel_rfl) (by kernel_rfl) (by kernel_rfl) (fun _ _ _ h => h) (Or.inl ⟨by rfl, ?_⟩) (by assumption) ?_
            rotate_left
            · intro W hSw
              go_simp
              first | done | (with_reducible rfl)
            try simp only [Act.put, sQa, sQb, sQc, gQa, gQb, gQc]
            refine' wpAnyH_take (i := 3) (oi := _) (v := ?_) rfl (by kernel_rfl) (by kernel_rfl) (by kernel_rfl) (fun _ _ _ h => h) (Or.inl ⟨by rfl, ?_⟩) (by assumption) ?_
            rotate_left
            · intro W hSw
              go_simp
              first | done | (with_reducible rfl)
            try simp only [Act.put, sQa, sQb, sQc, gQa, gQb, gQc]
            refine' wpAnyH_take (i := 5) (oi := _) (v := ?_) rfl (by kernel_rfl) (by kernel_rfl) (by kernel_rfl) (fun _ _ _ h => h) (Or.inl ⟨by rfl, ?_⟩) (by assumption) ?_
            rotate_left
            · intro W hSw
              go_simp
              first | done | (with_reducible rfl)
            try simp only [Act.put, sQa, sQb, sQc, gQa, gQb, gQc]
            refine' wpAnyH_take (i := 6) (oi := _) (v := ?_) rfl (by kernel_rfl) (by kernel_rfl) (by kernel_rfl) (fun _ _ _ h => h) (Or.inl ⟨by rfl, ?_⟩) (by assumption) ?_
            rotate_left
            · intro W hSw
              go_simp
              first | done | (with_reducible rfl)
            try simp only [Act.put, sQa, sQb, sQc, gQa, gQb, gQc]
            refine' wpAnyH_take (i := 7) (oi := _) (v := _) rfl (by kernel_rfl) (by kernel_rfl) (by kernel_rfl) (fun _ _ _ h => h) (yieldsIf_load_mid (by rfl) _ _ rfl _ _ rfl _ _ (fun _ h => h) hu rfl hi.out) (by assumption) ?_
            try simp only [Act.put, sQa, sQb, sQc, gQa, gQb, gQc]
            refine wpAnyH_ready (rs := [4]) (by kernel_rfl) (by simp) ?_
            refine AllReadyH.cons (o := _) rfl (fun K hK => ?_) AllReadyH.nil
            go_simp
            refine hK.out _ _ ?_ (fun hHeld => ?_)
            · exact hHeld
            clear hK K
            try simp only [Act.put, sQa, sQb, sQc, gQa, gQb, gQc]
            refine wpAnyH_ready (rs := [8]) (by kernel_rfl) (by simp) ?_
            refine AllReadyH.cons (o := _) rfl (fun K hK => ?_) AllReadyH.nil
            go_simp
            refine (iha.out _ (fun b => (P b ∨ b = w.heap.size) ∨ b = b3) hg1.out (T5.out.bel (bel_drew w5)) (Nat.le_trans h8B.out B5.out.size) (fun b hb => .inl (.inl (hFP.out b hb)))).mono ?_
            rintro r w7 ⟨rfl, T7, S7, B7⟩
            have g7 := (S7 b3 (.inr rfl)).trans e5.out
            have f7 := block_frozen g7 1
            have d7 := block_cell g7 1
            simp only [List.getElem?_toArray, List.getElem?_cons_zero, List.getElem?_cons_succ] at d7
            replace g7 := hid g7
            replace T7 := hid T7
            replace S7 := hid S7
            replace B7 := hid (undrew B7)
            go_wp2_with fail
            refine hK.out _ _ ?_ (fun hHeld => ?_)
            · exact rangeAt_kept hHeld (fun _ => S7 w.heap.size (.inl (.inr rfl)))
            clear hK K
            try simp only [Act.put, sQa, sQb, sQc, gQa, gQb, gQc]
            refine' wpAnyH_take (i := 9) (oi := _) (v := ?_) rfl (by kernel_rfl) (by kernel_rfl) (by kernel_rfl) (fun _ _ _ h => h) (Or.inl ⟨by rfl, ?_⟩) (by assumption) ?_
            rotate_left
            · intro W hSw
              go_simp
              first | done | (with_reducible rfl)
            try simp only [Act.put, sQa, sQb, sQc, gQa, gQb, gQc]
            refine wpAnyH_ready (rs := [10]) (by kernel_rfl) (by simp) ?_
            refine AllReadyH.cons (o := _) rfl (fun K hK => ?_) AllReadyH.nil
            go_simp
            refine hK.out _ _ ?_ (fun hHeld => ?_)
            · exact rangeAt_kept hHeld (fun _ => Below.heap_setCell _ _ _ _ (by have := rb.out; have := sz0.out; show w.heap.size ≠ b3; omega))
            clear hK K
            try simp only [Act.put, sQa, sQb, sQc, gQa, gQb, gQc]
            refine wpAnyH_done (by kernel_rfl) ?_ _
            refine NoPanic.normal ?_
            have g8 := hid (block_set g7.out 1 (.int .i64 M))
            have T8 := hid (T7.out.at_ (b0 := b3) (w' := w7.setCell ⟨b3, 1, none⟩ (.int .i64 M)) (.inr rfl) (fun h => by have := hFl.out b3 h; have := rb.out; have := sz0.out; omega) (by simp [World.setCell]) (fun b _ hn => Below.heap_setCell _ _ _ _ hn))
            have S8 := hid (fun b (hp : P b) => (Below.heap_setCell w7 ⟨b3, 1, none⟩ (.int .i64 M) b (by have := hPl.out b hp; have := rb.out; have := sz0.out; show b ≠ b3; omega)).trans ((S7.out b (.inl (.inl hp))).trans ((B5.out.block b (by have := hPl.out b hp; have := sz0.out; omega)).trans (S0.out b hp))))
            have B8 := hid (((W0.out.trans (B5.out.mono h8B.out)).trans B7.out).setCell (p := ⟨b3, 1, none⟩) (Nat.le_trans h8B.out rb.out) (.int .i64 M))
            rw [set2_1] at g8
            have hsz8 := hid (show B0 ≤ (w7.setCell ⟨b3, 1, none⟩ (.int .i64 M)).heap.size by have := B8.out.size; omega)
            have r8 := hid (rangeOf (l := [Value.int .i64 L, .int .i64 M]) g8.out)
            clear T7 S7 B7 g7 f7 d7 e5c e5 T5 q6 hHeld iha
            generalize w7.setCell ⟨b3, 1, none⟩ (.int .i64 M) = w8 at *
            have hi8 := hid (show (Tryd.prog.info? 109).map (·.size) = some ([Value.int .i64 L, .int .i64 M]).length from size2)
            obtain ⟨A8, c8, R8, row8⟩ := T8.out.cap
            have hiT8 := hid (show (Tryd.prog.info? 77).map (·.size) = some ([Value.slice A8 ns2.length c8, .int .i64 root]).length from sizeTrie)
            replace R8 := hid R8
            replace row8 := hid row8
            obtain ⟨sg, hsgv⟩ : ∃ sg, singleP ns2 L M = sg := ⟨_, rfl⟩
            rw [hsgv] at hsg
            have hJ0 := hid (fun (h : sg = 0) => (show joinN ns2 L M = (ns2 ++ [forkN L M], (ns2.length : Int) + 1) from by unfold joinN; rw [← single_Q, hsgv, if_pos h]))
            have hJ1 := hid (fun (h : sg ≠ 0) => (show joinN ns2 L M = (ns2, sg) from by unfold joinN; rw [← single_Q, hsgv, if_neg h]))
            replace hsgv := hid hsgv
            go_wp2
            refine wp_region_noPanic ?_
            refine wp_region_held_drew (S := fun w' => Below w8.heap.size w8 w') (by kernel_rfl) ?_ (fun hHeld => ?_)
            · exact bel_drew w8
            refine' wpAnyH_take (i := 0) (oi := _) (v := ?_) rfl (by kernel_rfl) (by kernel_rfl) (by kernel_rfl) (fun _ _ _ h => h) (Or.inl ⟨by rfl, ?_⟩) (by assumption) ?_
            rotate_left
            · intro W hSw
              go_simp
              first | done | (with_reducible rfl)
            try simp only [Act.put, sQa, sQb, sQc, gQa, gQb, gQc]
            refine' wpAnyH_take (i := 1) (oi := _) (v := ?_) rfl (by kernel_rfl) (by kernel_rfl) (by kernel_rfl) (fun _ _ _ h => h) (Or.inl ⟨by rfl, ?_⟩) (by assumption) ?_
            rotate_left
            · intro W hSw
              go_simp
              first | done | (with_reducible rfl)
            try simp only [Act.put, sQa, sQb, sQc, gQa, gQb, gQc]
            refine' wpAnyH_take (i := 2) (oi := _) (v := _) rfl (by kernel_rfl) (by kernel_rfl) (by kernel_rfl) (fun _ _ _ h => h) (yieldsIf_load_mid (by rfl) _ _ rfl _ _ rfl _ _ (fun _ h => rangeBel2 h R8.out) hutr rfl hiT8.out) (by assumption) ?_
            try simp only [Act.put, sQa, sQb, sQc, gQa, gQb, gQc]
            refine' wpAnyH_take (i := 3) (oi := _) (v := _) rfl (by kernel_rfl) (by kernel_rfl) (by kernel_rfl) (fun _ _ _ h => h) (yieldsIf_load_mid (by rfl) _ _ rfl _ _ rfl _ _ (fun _ h => rangeBel2 h r8.out) hu2 rfl hi8.out) (by assumption) ?_
            try simp only [Act.put, sQa, sQb, sQc, gQa, gQb, gQc]
            refine wpAnyH_ready (rs := [4]) (by kernel_rfl) (by simp) ?_
            refine AllReadyH.cons (o := _) rfl (fun K hK => ?_) AllReadyH.nil
            go_simp
            refine (hsg.out _ A8 c8 _ (row8.out.bel hHeld)).mono ?_
            rintro r w9 ⟨rfl, hB⟩
            go_wp2_with fail
            refine hK.out _ _ ?_ (fun hHeld => ?_)
            · exact hHeld.trans (hB.mono hHeld.size)
            clear hK K
            try simp only [Act.put, sQa, sQb, sQc, gQa, gQb, gQc]
            refine' wpAnyH_take (i := 5) (oi := _) (v := ?_) rfl (by kernel_rfl) (by kernel_rfl) (by kernel_rfl) (fun _ _ _ h => h) (Or.inl ⟨by rfl, ?_⟩) (by assumption) ?_
            rotate_left
            · intro W hSw
              go_simp
              first | done | (with_reducible rfl)
            try simp only [Act.put, sQa, sQb, sQc, gQa, gQb, gQc]
            refine wpAnyH_done (by kernel_rfl) ?_ _
            refine NoPanic.normal ?_
            have S9 := hid (stay_old (P := P) (fun b hb => Nat.lt_of_lt_of_le (hPl.out b hb) (by have := sz0.out; have := B5.out.size; have := T8.out.lt.1; obtain ⟨_, _, _, _, _, _, _, h6⟩ := T8.out; have := (h6 w.heap.size (.inl (.inr rfl))).1; omega)) hHeld)
            by_cases hs0 : sg = 0
            · subst hs0
              go_wp2_with (first
                | ((with_reducible refine wpList_load_rng rfl 109 (.tmp 9) rfl b3 0 rfl [Value.int .i64 L, .int .i64 M] _ ?_ hu2 rfl hi8.out ?_); exact rangeBel2 hHeld r8.out))
              refine (hfk.out _ (T8.out.bel hHeld) (Nat.le_trans hsz8.out hHeld.size)).mono ?_
              rintro r w10 ⟨rfl, T9, S10, B9⟩
              go_wp2
              go_ret
              rw [hres.out, hJ0.out (by first | trivial | rfl)]
              exact ⟨rfl, T9.less (fun b hb => .inl (.inl hb)), fun b hp => (S10 b (.inl (.inl hp))).trans ((S9.out b hp).trans (S8.out b hp)), (B8.out.trans (hHeld.mono hsz8.out)).trans B9⟩
            · have hsb : (sg != 0) = true := bne_iff_ne.2 hs0
              go_wp2
              go_ret
              rw [hres.out, hJ1.out (by first | exact hs0 | trivial)]
              exact ⟨rfl, (T8.out.bel hHeld).less (fun b hb => .inl (.inl hb)), fun b hp => (S9.out b hp).trans (S8.out b hp), B8.out.trans (hHeld.mono hsz8.out)⟩
          refine AllReadyH.cons (o := _) rfl (fun K hK => ?_) ?_
          · skip
            refine step_alloc_rowT rfl 109 rfl z2C zInfo2 ?_
            intro b3 w8 b6 e6 hB
            have m6 := Nat.le_trans hHeld.size b6
            refine hK.out _ _ ?_ (fun hHeld => ?_)
            · exact hHeld.trans (hB.mono hHeld.size)
            clear hK K
            try simp only [Act.put, sQa, sQb, sQc, gQa, gQb, gQc]
            refine wpAnyH_ready (rs := [7]) (by kernel_rfl) (by simp) ?_
            refine AllReadyH.cons (o := _) rfl (fun K hK => ?_) AllReadyH.nil
            go_simp
            refine (hBt.out _).mono ?_
            rintro r w4 ⟨rfl, hB⟩
            try replace e6 := (hB.block _ (block_lt e6)).trans e6
            go_wp2_with fail
            refine hK.out _ _ ?_ (fun hHeld => ?_)
            · exact hHeld.trans (hB.mono hHeld.size)
            clear hK K
            try simp only [Act.put, sQa, sQb, sQc, gQa, gQb, gQc]
            refine wpAnyH_ready (rs := [9]) (by kernel_rfl) (by simp) ?_
            refine AllReadyH.cons (o := _) rfl (fun K hK => ?_) AllReadyH.nil
            refine step_store_rowT rfl 109 (.tmp 9) (.tmp 21) rfl b3 _ rfl rfl 109 z2C e6 size2 rfl (one2 L RR) ?_
            intro w5 d6 hG
            refine hK.out _ _ ?_ (fun hHeld => ?_)
            · exact hHeld.grown hG hHeld.size (by intro k hk; injection hk with hk; omega)
            clear hK K
            try simp only [Act.put, sQa, sQb, sQc, gQa, gQb, gQc]
            refine' wpAnyH_take (i := 10) (oi := _) (v := ?_) rfl (by kernel_rfl) (by kernel_rfl) (by kernel_rfl) (fun _ _ _ h => h) (Or.inl ⟨by rfl, ?_⟩) (by assumption) ?_
            rotate_left
            · intro W hSw
              go_simp
              first | done | (with_reducible rfl)
            try simp only [Act.put, sQa, sQb, sQc, gQa, gQb, gQc]
            refine wpAnyH_done (by kernel_rfl) ?_ _
            refine NoPanic.normal ?_
            have e5 := hid d6
            have rb := hid (Nat.le_trans B2.out.size m6)
            have lt5 := hid (block_lt d6)
            have B5 := hid (B2.out.trans (hHeld.mono B2.out.size))
            clear hHeld
            try clear hB
            try clear e6
            clear d6 hG m6 b6
            have hres := hst1.out (by first | trivial | rfl)
            have hg1 := gr.out (by first | trivial | rfl)
            obtain ⟨⟨ms, p0⟩, p1, p2, p3⟩ := hFk.out _ hg1
            have iha := ihF.out RR
            generalize dropN ns k e RR = rp at *
            obtain ⟨ns2, M⟩ := rp
            dsimp only at p0 p1 p2 p3 hres
            have p4 : ns.length ≤ ns2.length := by rw [p0, List.length_append]; omega
            replace hres := hid hres
            have hg1 := hid hg1
            replace iha := hid iha
            replace p0 := hid p0
            have hsg := hid (fun (G : Nat → Prop) A c W hW => PSingle_any G A c ns2 root L M W hW (by omega) (by omega) (by omega) (by omega) (by omega))
            have hfk := hid (fun W h1 h2 => PAddFork_any W g B0 F (fun b => (P b ∨ b = w.heap.size) ∨ b = b3) ns2 root L M h1 h2 (by omega) ⟨by omega, by omega⟩ ⟨by omega, by omega⟩)
            clear hst0 hst1 gl gr ihF hFk
            have e5c := block_cell e5.out 1
            simp only [List.getElem?_toArray, List.getElem?_cons_zero, List.getElem?_cons_succ] at e5c
            have T5 := hid ((T0.out.more (Q := fun b => b = b3) B5.out (fun b hb => by subst hb; exact ⟨rb.out, lt5.out⟩)))
            have q6 := hid (rangeBel2 B5.out k0.out)
            go_wp2
            refine wp_region_noPanic ?_
            refine wp_region_held_drew (S := fun w' => w'.rangeAt w.heap.size 0 dk) (by kernel_rfl) ?_ (fun hHeld => ?_)
            · exact q6.out
            refine' wpAnyH_take (i := 0) (oi := _) (v := ?_) rfl (by kernel_rfl) (by kernel_rfl) (by kernel_rfl) (fun _ _ _ h => h) (Or.inl ⟨by rfl, ?_⟩) (by assumption) ?_
            rotate_left
            · intro W hSw
              go_simp
              first | done | (with_reducible rfl)
            try simp only [Act.put, sQa, sQb, sQc, gQa, gQb, gQc]
            refine' wpAnyH_take (i := 1) (oi := _) (v := ?_) rfl (by kernel_rfl) (by kernel_rfl) (by kernel_rfl) (fun _ _ _ h => h) (Or.inl ⟨by rfl, ?_⟩) (by assumption) ?_
            rotate_left
            · intro W hSw
              go_simp
              first | done | (with_reducible rfl)
            try simp only [Act.put, sQa, sQb, sQc, gQa, gQb, gQc]
            refine' wpAnyH_take (i := 2) (oi := _) (v := ?_) rfl (by kernel_rfl) (by kernel_rfl) (by kernel_rfl) (fun _ _ _ h => h) (Or.inl ⟨by rfl, ?_⟩) (by assumption) ?_
            rotate_left
            · intro W hSw
              go_simp
              first | done | (with_reducible rfl)
            try simp only [Act.put, sQa, sQb, sQc, gQa, gQb, gQc]
            refine' wpAnyH_take (i := 3) (oi := _) (v := ?_) rfl (by kernel_rfl) (by kernel_rfl) (by kernel_rfl) (fun _ _ _ h => h) (Or.inl ⟨by rfl, ?_⟩) (by assumption) ?_
            rotate_left
            · intro W hSw
              go_simp
              first | done | (with_reducible rfl)
            try simp only [Act.put, sQa, sQb, sQc, gQa, gQb, gQc]
            refine' wpAnyH_take (i := 5) (oi := _) (v := ?_) rfl (by kernel_rfl) (by kernel_rfl) (by kernel_rfl) (fun _ _ _ h => h) (Or.inl ⟨by rfl, ?_⟩) (by assumption) ?_
            rotate_left
            · intro W hSw
              go_simp
              first | done | (with_reducible rfl)
            try simp only [Act.put, sQa, sQb, sQc, gQa, gQb, gQc]
            refine' wpAnyH_take (i := 6) (oi := _) (v := ?_) rfl (by kernel_rfl) (by kernel_rfl) (by kernel_rfl) (fun _ _ _ h => h) (Or.inl ⟨by rfl, ?_⟩) (by assumption) ?_
            rotate_left
            · intro W hSw
              go_simp
              first | done | (with_reducible rfl)
            try simp only [Act.put, sQa, sQb, sQc, gQa, gQb, gQc]
            refine' wpAnyH_take (i := 7) (oi := _) (v := _) rfl (by kernel_rfl) (by kernel_rfl) (by kernel_rfl) (fun _ _ _ h => h) (yieldsIf_load_mid (by rfl) _ _ rfl _ _ rfl _ _ (fun _ h => h) hu rfl hi.out) (by assumption) ?_
            try simp only [Act.put, sQa, sQb, sQc, gQa, gQb, gQc]
            refine wpAnyH_ready (rs := [4]) (by kernel_rfl) (by simp) ?_
            refine AllReadyH.cons (o := _) rfl (fun K hK => ?_) AllReadyH.nil
            go_simp
            refine hK.out _ _ ?_ (fun hHeld => ?_)
            · exact hHeld
            clear hK K
            try simp only [Act.put, sQa, sQb, sQc, gQa, gQb, gQc]
            refine wpAnyH_ready (rs := [8]) (by kernel_rfl) (by simp) ?_
            refine AllReadyH.cons (o := _) rfl (fun K hK => ?_) AllReadyH.nil
            go_simp
            refine (iha.out _ (fun b => (P b ∨ b = w.heap.size) ∨ b = b3) hg1.out (T5.out.bel (bel_drew w5)) (Nat.le_trans h8B.out B5.out.size) (fun b hb => .inl (.inl (hFP.out b hb)))).mono ?_
            rintro r w7 ⟨rfl, T7, S7, B7⟩
            have g7 := (S7 b3 (.inr rfl)).trans e5.out
            have f7 := block_frozen g7 1
            have d7 := block_cell g7 1
            simp only [List.getElem?_toArray, List.getElem?_cons_zero, List.getElem?_cons_succ] at d7
            replace g7 := hid g7
            replace T7 := hid T7
            replace S7 := hid S7
            replace B7 := hid (undrew B7)
            go_wp2_with fail
            refine hK.out _ _ ?_ (fun hHeld => ?_)
            · exact rangeAt_kept hHeld (fun _ => S7 w.heap.size (.inl (.inr rfl)))
            clear hK K
            try simp only [Act.put, sQa, sQb, sQc, gQa, gQb, gQc]
            refine' wpAnyH_take (i := 9) (oi := _) (v := ?_) rfl (by kernel_rfl) (by kernel_rfl) (by kernel_rfl) (fun _ _ _ h => h) (Or.inl ⟨by rfl, ?_⟩) (by assumption) ?_
            rotate_left
            · intro W hSw
              go_simp
              first | done | (with_reducible rfl)
            try simp only [Act.put, sQa, sQb, sQc, gQa, gQb, gQc]
            refine wpAnyH_ready (rs := [10]) (by kernel_rfl) (by simp) ?_
            refine AllReadyH.cons (o := _) rfl (fun K hK => ?_) AllReadyH.nil
            go_simp
            refine hK.out _ _ ?_ (fun hHeld => ?_)
            · exact rangeAt_kept hHeld (fun _ => Below.heap_setCell _ _ _ _ (by have := rb.out; have := sz0.out; show w.heap.size ≠ b3; omega))
            clear hK K
            try simp only [Act.put, sQa, sQb, sQc, gQa, gQb, gQc]
            refine wpAnyH_done (by kernel_rfl) ?_ _
            refine NoPanic.normal ?_
            have g8 := hid (block_set g7.out 1 (.int .i64 M))
            have T8 := hid (T7.out.at_ (b0 := b3) (w' := w7.setCell ⟨b3, 1, none⟩ (.int .i64 M)) (.inr rfl) (fun h => by have := hFl.out b3 h; have := rb.out; have := sz0.out; omega) (by simp [World.setCell]) (fun b _ hn => Below.heap_setCell _ _ _ _ hn))
            have S8 := hid (fun b (hp : P b) => (Below.heap_setCell w7 ⟨b3, 1, none⟩ (.int .i64 M) b (by have := hPl.out b hp; have := rb.out; have := sz0.out; show b ≠ b3; omega)).trans ((S7.out b (.inl (.inl hp))).trans ((B5.out.block b (by have := hPl.out b hp; have := sz0.out; omega)).trans (S0.out b hp))))
            have B8 := hid (((W0.out.trans (B5.out.mono h8B.out)).trans B7.out).setCell (p := ⟨b3, 1, none⟩) (Nat.le_trans h8B.out rb.out) (.int .i64 M))
            rw [set2_1] at g8
            have hsz8 := hid (show B0 ≤ (w7.setCell ⟨b3, 1, none⟩ (.int .i64 M)).heap.size by have := B8.out.size; omega)
            have r8 := hid (rangeOf (l := [Value.int .i64 L, .int .i64 M]) g8.out)
            clear T7 S7 B7 g7 f7 d7 e5c e5 T5 q6 hHeld iha
            generalize w7.setCell ⟨b3, 1, none⟩ (.int .i64 M) = w8 at *
            have hi8 := hid (show (Tryd.prog.info? 109).map (·.size) = some ([Value.int .i64 L, .int .i64 M]).length from size2)
            obtain ⟨A8, c8, R8, row8⟩ := T8.out.cap
            have hiT8 := hid (show (Tryd.prog.info? 77).map (·.size) = some ([Value.slice A8 ns2.length c8, .int .i64 root]).length from sizeTrie)
            replace R8 := hid R8
            replace row8 := hid row8
            obtain ⟨sg, hsgv⟩ : ∃ sg, singleP ns2 L M = sg := ⟨_, rfl⟩
            rw [hsgv] at hsg
            have hJ0 := hid (fun (h : sg = 0) => (show joinN ns2 L M = (ns2 ++ [forkN L M], (ns2.length : Int) + 1) from by unfold joinN; rw [← single_Q, hsgv, if_pos h]))
            have hJ1 := hid (fun (h : sg ≠ 0) => (show joinN ns2 L M = (ns2, sg) from by unfold joinN; rw [← single_Q, hsgv, if_neg h]))
            replace hsgv := hid hsgv
            go_wp2
            refine wp_region_noPanic ?_
            refine wp_region_held_drew (S := fun w' => Below w8.heap.size w8 w') (by kernel_rfl) ?_ (fun hHeld => ?_)
            · exact bel_drew w8
            refine' wpAnyH_take (i := 0) (oi := _) (v := ?_) rfl (by kernel_rfl) (by kernel_rfl) (by kernel_rfl) (fun _ _ _ h => h) (Or.inl ⟨by rfl, ?_⟩) (by assumption) ?_
            rotate_left
            · intro W hSw
              go_simp
              first | done | (with_reducible rfl)
            try simp only [Act.put, sQa, sQb, sQc, gQa, gQb, gQc]
            refine' wpAnyH_take (i := 1) (oi := _) (v := ?_) rfl (by kernel_rfl) (by kernel_rfl) (by kernel_rfl) (fun _ _ _ h => h) (Or.inl ⟨by rfl, ?_⟩) (by assumption) ?_
            rotate_left
            · intro W hSw
              go_simp
              first | done | (with_reducible rfl)
            try simp only [Act.put, sQa, sQb, sQc, gQa, gQb, gQc]
            refine' wpAnyH_take (i := 2) (oi := _) (v := _) rfl (by kernel_rfl) (by kernel_rfl) (by kernel_rfl) (fun _ _ _ h => h) (yieldsIf_load_mid (by rfl) _ _ rfl _ _ rfl _ _ (fun _ h => rangeBel2 h R8.out) hutr rfl hiT8.out) (by assumption) ?_
            try simp only [Act.put, sQa, sQb, sQc, gQa, gQb, gQc]
            refine' wpAnyH_take (i := 3) (oi := _) (v := _) rfl (by kernel_rfl) (by kernel_rfl) (by kernel_rfl) (fun _ _ _ h => h) (yieldsIf_load_mid (by rfl) _ _ rfl _ _ rfl _ _ (fun _ h => rangeBel2 h r8.out) hu2 rfl hi8.out) (by assumption) ?_
            try simp only [Act.put, sQa, sQb, sQc, gQa, gQb, gQc]
            refine wpAnyH_ready (rs := [4]) (by kernel_rfl) (by simp) ?_
            refine AllReadyH.cons (o := _) rfl (fun K hK => ?_) AllReadyH.nil
            go_simp
            refine (hsg.out _ A8 c8 _ (row8.out.bel hHeld)).mono ?_
            rintro r w9 ⟨rfl, hB⟩
            go_wp2_with fail
            refine hK.out _ _ ?_ (fun hHeld => ?_)
            · exact hHeld.trans (hB.mono hHeld.size)
            clear hK K
            try simp only [Act.put, sQa, sQb, sQc, gQa, gQb, gQc]
            refine' wpAnyH_take (i := 5) (oi := _) (v := ?_) rfl (by kernel_rfl) (by kernel_rfl) (by kernel_rfl) (fun _ _ _ h => h) (Or.inl ⟨by rfl, ?_⟩) (by assumption) ?_
            rotate_left
            · intro W hSw
              go_simp
              first | done | (with_reducible rfl)
            try simp only [Act.put, sQa, sQb, sQc, gQa, gQb, gQc]
            refine wpAnyH_done (by kernel_rfl) ?_ _
            refine NoPanic.normal ?_
            have S9 := hid (stay_old (P := P) (fun b hb => Nat.lt_of_lt_of_le (hPl.out b hb) (by have := sz0.out; have := B5.out.size; have := T8.out.lt.1; obtain ⟨_, _, _, _, _, _, _, h6⟩ := T8.out; have := (h6 w.heap.size (.inl (.inr rfl))).1; omega)) hHeld)
            by_cases hs0 : sg = 0
            · subst hs0
              go_wp2_with (first
                | ((with_reducible refine wpList_load_rng rfl 109 (.tmp 9) rfl b3 0 rfl [Value.int .i64 L, .int .i64 M] _ ?_ hu2 rfl hi8.out ?_); exact rangeBel2 hHeld r8.out))
              refine (hfk.out _ (T8.out.bel hHeld) (Nat.le_trans hsz8.out hHeld.size)).mono ?_
              rintro r w10 ⟨rfl, T9, S10, B9⟩
              go_wp2
              go_ret
              rw [hres.out, hJ0.out (by first | trivial | rfl)]
              exact ⟨rfl, T9.less (fun b hb => .inl (.inl hb)), fun b hp => (S10 b (.inl (.inl hp))).trans ((S9.out b hp).trans (S8.out b hp)), (B8.out.trans (hHeld.mono hsz8.out)).trans B9⟩
            · have hsb : (sg != 0) = true := bne_iff_ne.2 hs0
              go_wp2
              go_ret
              rw [hres.out, hJ1.out (by first | exact hs0 | trivial)]
              exact ⟨rfl, (T8.out.bel hHeld).less (fun b hb => .inl (.inl hb)), fun b hp => (S9.out b hp).trans (S8.out b hp), B8.out.trans (hHeld.mono hsz8.out)⟩
          exact AllReadyH.nil
        refine AllReadyH.cons (o := _) rfl (fun K hK => ?_) ?_
        · skip
          refine step_alloc_rowT rfl 109 rfl z2C zInfo2 ?_
          intro b3 w8 b6 e6 hB
          have m6 := Nat.le_trans hHeld.size b6
          refine hK.out _ _ ?_ (fun hHeld => ?_)
          · exact hHeld.trans (hB.mono hHeld.size)
          clear hK K
          try simp only [Act.put, sQa, sQb, sQc, gQa, gQb, gQc]
          refine wpAnyH_ready (rs := [4]) (by kernel_rfl) (by simp) ?_
          refine AllReadyH.cons (o := _) rfl (fun K hK => ?_) AllReadyH.nil
          go_simp
          refine (hRd.out _ (rangeBel2 hHeld q2.out)).mono ?_
          rintro r w3 ⟨rfl, hB⟩
          try replace e6 := (hB.block _ (block_lt e6)).trans e6
          go_wp2_with fail
          refine hK.out _ _ ?_ (fun hHeld => ?_)
          · exact hHeld.trans (hB.mono hHeld.size)
          clear hK K
          try simp only [Act.put, sQa, sQb, sQc, gQa, gQb, gQc]
          refine wpAnyH_ready (rs := [7]) (by kernel_rfl) (by simp) ?_
          refine AllReadyH.cons (o := _) rfl (fun K hK => ?_) AllReadyH.nil
          go_simp
          refine (hBt.out _).mono ?_
          rintro r w4 ⟨rfl, hB⟩
          try replace e6 := (hB.block _ (block_lt e6)).trans e6
          go_wp2_with fail
          refine hK.out _ _ ?_ (fun hHeld => ?_)
          · exact hHeld.trans (hB.mono hHeld.size)
          clear hK K
          try simp only [Act.put, sQa, sQb, sQc, gQa, gQb, gQc]
          refine wpAnyH_ready (rs := [9]) (by kernel_rfl) (by simp) ?_
          refine AllReadyH.cons (o := _) rfl (fun K hK => ?_) AllReadyH.nil
          refine step_store_rowT rfl 109 (.tmp 9) (.tmp 21) rfl b3 _ rfl rfl 109 z2C e6 size2 rfl (one2 L RR) ?_
          intro w5 d6 hG
          refine hK.out _ _ ?_ (fun hHeld => ?_)
          · exact hHeld.grown hG hHeld.size (by intro k hk; injection hk with hk; omega)
          clear hK K
          try simp only [Act.put, sQa, sQb, sQc, gQa, gQb, gQc]
          refine' wpAnyH_take (i := 10) (oi := _) (v := ?_) rfl (by kernel_rfl) (by kernel_rfl) (by kernel_rfl) (fun _ _ _ h => h) (Or.inl ⟨by rfl, ?_⟩) (by assumption) ?_
          rotate_left
          · intro W hSw
            go_simp
            first | done | (with_reducible rfl)
          try simp only [Act.put, sQa, sQb, sQc, gQa, gQb, gQc]
          refine wpAnyH_done (by kernel_rfl) ?_ _
          refine NoPanic.normal ?_
          have e5 := hid d6
          have rb := hid (Nat.le_trans B2.out.size m6)
          have lt5 := hid (block_lt d6)
          have B5 := hid (B2.out.trans (hHeld.mono B2.out.size))
          clear hHeld
          try clear hB
          try clear e6
          clear d6 hG m6 b6
          have hres := hst1.out (by first | trivial | rfl)
          have hg1 := gr.out (by first | trivial | rfl)
          obtain ⟨⟨ms, p0⟩, p1, p2, p3⟩ := hFk.out _ hg1
          have iha := ihF.out RR
          generalize dropN ns k e RR = rp at *
          obtain ⟨ns2, M⟩ := rp
          dsimp only at p0 p1 p2 p3 hres
          have p4 : ns.length ≤ ns2.length := by rw [p0, List.length_append]; omega
          replace hres := hid hres
          have hg1 := hid hg1
          replace iha := hid iha
          replace p0 := hid p0
          have hsg := hid (fun (G : Nat → Prop) A c W hW => PSingle_any G A c ns2 root L M W hW (by omega) (by omega) (by omega) (by omega) (by omega))
          have hfk := hid (fun W h1 h2 => PAddFork_any W g B0 F (fun b => (P b ∨ b = w.heap.size) ∨ b = b3) ns2 root L M h1 h2 (by omega) ⟨by omega, by omega⟩ ⟨by omega, by omega⟩)
          clear hst0 hst1 gl gr ihF hFk
          have e5c := block_cell e5.out 1
          simp only [List.getElem?_toArray, List.getElem?_cons_zero, List.getElem?_cons_succ] at e5c
          have T5 := hid ((T0.out.more (Q := fun b => b = b3) B5.out (fun b hb => by subst hb; exact ⟨rb.out, lt5.out⟩)))
          have q6 := hid (rangeBel2 B5.out k0.out)
          go_wp2
          refine wp_region_noPanic ?_
          refine wp_region_held_drew (S := fun w' => w'.rangeAt w.heap.size 0 dk) (by kernel_rfl) ?_ (fun hHeld => ?_)
          · exact q6.out
          refine' wpAnyH_take (i := 0) (oi := _) (v := ?_) rfl (by kernel_rfl) (by kernel_rfl) (by kernel_rfl) (fun _ _ _ h => h) (Or.inl ⟨by rfl, ?_⟩) (by assumption) ?_
          rotate_left
          · intro W hSw
            go_simp
            first | done | (with_reducible rfl)
          try simp only [Act.put, sQa, sQb, sQc, gQa, gQb, gQc]
          refine' wpAnyH_take (i := 1) (oi := _) (v := ?_) rfl (by kernel_rfl) (by kernel_rfl) (by kernel_rfl) (fun _ _ _ h => h) (Or.inl ⟨by rfl, ?_⟩) (by assumption) ?_
          rotate_left
          · intro W hSw
            go_simp
            first | done | (with_reducible rfl)
          try simp only [Act.put, sQa, sQb, sQc, gQa, gQb, gQc]
          refine' wpAnyH_take (i := 2) (oi := _) (v := ?_) rfl (by kernel_rfl) (by kernel_rfl) (by kernel_rfl) (fun _ _ _ h => h) (Or.inl ⟨by rfl, ?_⟩) (by assumption) ?_
          rotate_left
          · intro W hSw
            go_simp
            first | done | (with_reducible rfl)
          try simp only [Act.put, sQa, sQb, sQc, gQa, gQb, gQc]
          refine' wpAnyH_take (i := 3) (oi := _) (v := ?_) rfl (by kernel_rfl) (by kernel_rfl) (by kernel_rfl) (fun _ _ _ h => h) (Or.inl ⟨by rfl, ?_⟩) (by assumption) ?_
          rotate_left
          · intro W hSw
            go_simp
            first | done | (with_reducible rfl)
          try simp only [Act.put, sQa, sQb, sQc, gQa, gQb, gQc]
          refine' wpAnyH_take (i := 5) (oi := _) (v := ?_) rfl (by kernel_rfl) (by kernel_rfl) (by kernel_rfl) (fun _ _ _ h => h) (Or.inl ⟨by rfl, ?_⟩) (by assumption) ?_
          rotate_left
          · intro W hSw
            go_simp
            first | done | (with_reducible rfl)
          try simp only [Act.put, sQa, sQb, sQc, gQa, gQb, gQc]
          refine' wpAnyH_take (i := 6) (oi := _) (v := ?_) rfl (by kernel_rfl) (by kernel_rfl) (by kernel_rfl) (fun _ _ _ h => h) (Or.inl ⟨by rfl, ?_⟩) (by assumption) ?_
          rotate_left
          · intro W hSw
            go_simp
            first | done | (with_reducible rfl)
          try simp only [Act.put, sQa, sQb, sQc, gQa, gQb, gQc]
          refine' wpAnyH_take (i := 7) (oi := _) (v := _) rfl (by kernel_rfl) (by kernel_rfl) (by kernel_rfl) (fun _ _ _ h => h) (yieldsIf_load_mid (by rfl) _ _ rfl _ _ rfl _ _ (fun _ h => h) hu rfl hi.out) (by assumption) ?_
          try simp only [Act.put, sQa, sQb, sQc, gQa, gQb, gQc]
          refine wpAnyH_ready (rs := [4]) (by kernel_rfl) (by simp) ?_
          refine AllReadyH.cons (o := _) rfl (fun K hK => ?_) AllReadyH.nil
          go_simp
          refine hK.out _ _ ?_ (fun hHeld => ?_)
          · exact hHeld
          clear hK K
          try simp only [Act.put, sQa, sQb, sQc, gQa, gQb, gQc]
          refine wpAnyH_ready (rs := [8]) (by kernel_rfl) (by simp) ?_
          refine AllReadyH.cons (o := _) rfl (fun K hK => ?_) AllReadyH.nil
          go_simp
          refine (iha.out _ (fun b => (P b ∨ b = w.heap.size) ∨ b = b3) hg1.out (T5.out.bel (bel_drew w5)) (Nat.le_trans h8B.out B5.out.size) (fun b hb => .inl (.inl (hFP.out b hb)))).mono ?_
          rintro r w7 ⟨rfl, T7, S7, B7⟩
          have g7 := (S7 b3 (.inr rfl)).trans e5.out
          have f7 := block_frozen g7 1
          have d7 := block_cell g7 1
          simp only [List.getElem?_toArray, List.getElem?_cons_zero, List.getElem?_cons_succ] at d7
          replace g7 := hid g7
          replace T7 := hid T7
          replace S7 := hid S7
          replace B7 := hid (undrew B7)
          go_wp2_with fail
          refine hK.out _ _ ?_ (fun hHeld => ?_)
          · exact rangeAt_kept hHeld (fun _ => S7 w.heap.size (.inl (.inr rfl)))
          clear hK K
          try simp only [Act.put, sQa, sQb, sQc, gQa, gQb, gQc]
          refine' wpAnyH_take (i := 9) (oi := _) (v := ?_) rfl (by kernel_rfl) (by kernel_rfl) (by kernel_rfl) (fun _ _ _ h => h) (Or.inl ⟨by rfl, ?_⟩) (by assumption) ?_
          rotate_left
          · intro W hSw
            go_simp
            first | done | (with_reducible rfl)
          try simp only [Act.put, sQa, sQb, sQc, gQa, gQb, gQc]
          refine wpAnyH_ready (rs := [10]) (by kernel_rfl) (by simp) ?_
          refine AllReadyH.cons (o := _) rfl (fun K hK => ?_) AllReadyH.nil
          go_simp
          refine hK.out _ _ ?_ (fun hHeld => ?_)
          · exact rangeAt_kept hHeld (fun _ => Below.heap_setCell _ _ _ _ (by have := rb.out; have := sz0.out; show w.heap.size ≠ b3; omega))
          clear hK K
          try simp only [Act.put, sQa, sQb, sQc, gQa, gQb, gQc]
          refine wpAnyH_done (by kernel_rfl) ?_ _
          refine NoPanic.normal ?_
          have g8 := hid (block_set g7.out 1 (.int .i64 M))
          have T8 := hid (T7.out.at_ (b0 := b3) (w' := w7.setCell ⟨b3, 1, none⟩ (.int .i64 M)) (.inr rfl) (fun h => by have := hFl.out b3 h; have := rb.out; have := sz0.out; omega) (by simp [World.setCell]) (fun b _ hn => Below.heap_setCell _ _ _ _ hn))
          have S8 := hid (fun b (hp : P b) => (Below.heap_setCell w7 ⟨b3, 1, none⟩ (.int .i64 M) b (by have := hPl.out b hp; have := rb.out; have := sz0.out; show b ≠ b3; omega)).trans ((S7.out b (.inl (.inl hp))).trans ((B5.out.block b (by have := hPl.out b hp; have := sz0.out; omega)).trans (S0.out b hp))))
          have B8 := hid (((W0.out.trans (B5.out.mono h8B.out)).trans B7.out).setCell (p := ⟨b3, 1, none⟩) (Nat.le_trans h8B.out rb.out) (.int .i64 M))
          rw [set2_1] at g8
          have hsz8 := hid (show B0 ≤ (w7.setCell ⟨b3, 1, none⟩ (.int .i64 M)).heap.size by have := B8.out.size; omega)
          have r8 := hid (rangeOf (l := [Value.int .i64 L, .int .i64 M]) g8.out)
          clear T7 S7 B7 g7 f7 d7 e5c e5 T5 q6 hHeld iha
          generalize w7.setCell ⟨b3, 1, none⟩ (.int .i64 M) = w8 at *
          have hi8 := hid (show (Tryd.prog.info? 109).map (·.size) = some ([Value.int .i64 L, .int .i64 M]).length from size2)
          obtain ⟨A8, c8, R8, row8⟩ := T8.out.cap
          have hiT8 := hid (show (Tryd.prog.info? 77).map (·.size) = some ([Value.slice A8 ns2.length c8, .int .i64 root]).length from sizeTrie)
          replace R8 := hid R8
          replace row8 := hid row8
          obtain ⟨sg, hsgv⟩ : ∃ sg, singleP ns2 L M = sg := ⟨_, rfl⟩
          rw [hsgv] at hsg
          have hJ0 := hid (fun (h : sg = 0) => (show joinN ns2 L M = (ns2 ++ [forkN L M], (ns2.length : Int) + 1) from by unfold joinN; rw [← single_Q, hsgv, if_pos h]))
          have hJ1 := hid (fun (h : sg ≠ 0) => (show joinN ns2 L M = (ns2, sg) from by unfold joinN; rw [← single_Q, hsgv, if_neg h]))
          replace hsgv := hid hsgv
          go_wp2
          refine wp_region_noPanic ?_
          refine wp_region_held_drew (S := fun w' => Below w8.heap.size w8 w') (by kernel_rfl) ?_ (fun hHeld => ?_)
          · exact bel_drew w8
          refine' wpAnyH_take (i := 0) (oi := _) (v := ?_) rfl (by kernel_rfl) (by kernel_rfl) (by kernel_rfl) (fun _ _ _ h => h) (Or.inl ⟨by rfl, ?_⟩) (by assumption) ?_
          rotate_left
          · intro W hSw
            go_simp
            first | done | (with_reducible rfl)
          try simp only [Act.put, sQa, sQb, sQc, gQa, gQb, gQc]
          refine' wpAnyH_take (i := 1) (oi := _) (v := ?_) rfl (by kernel_rfl) (by kernel_rfl) (by kernel_rfl) (fun _ _ _ h => h) (Or.inl ⟨by rfl, ?_⟩) (by assumption) ?_
          rotate_left
          · intro W hSw
            go_simp
            first | done | (with_reducible rfl)
          try simp only [Act.put, sQa, sQb, sQc, gQa, gQb, gQc]
          refine' wpAnyH_take (i := 2) (oi := _) (v := _) rfl (by kernel_rfl) (by kernel_rfl) (by kernel_rfl) (fun _ _ _ h => h) (yieldsIf_load_mid (by rfl) _ _ rfl _ _ rfl _ _ (fun _ h => rangeBel2 h R8.out) hutr rfl hiT8.out) (by assumption) ?_
          try simp only [Act.put, sQa, sQb, sQc, gQa, gQb, gQc]
          refine' wpAnyH_take (i := 3) (oi := _) (v := _) rfl (by kernel_rfl) (by kernel_rfl) (by kernel_rfl) (fun _ _ _ h => h) (yieldsIf_load_mid (by rfl) _ _ rfl _ _ rfl _ _ (fun _ h => rangeBel2 h r8.out) hu2 rfl hi8.out) (by assumption) ?_
          try simp only [Act.put, sQa, sQb, sQc, gQa, gQb, gQc]
          refine wpAnyH_ready (rs := [4]) (by kernel_rfl) (by simp) ?_
          refine AllReadyH.cons (o := _) rfl (fun K hK => ?_) AllReadyH.nil
          go_simp
          refine (hsg.out _ A8 c8 _ (row8.out.bel hHeld)).mono ?_
          rintro r w9 ⟨rfl, hB⟩
          go_wp2_with fail
          refine hK.out _ _ ?_ (fun hHeld => ?_)
          · exact hHeld.trans (hB.mono hHeld.size)
          clear hK K
          try simp only [Act.put, sQa, sQb, sQc, gQa, gQb, gQc]
          refine' wpAnyH_take (i := 5) (oi := _) (v := ?_) rfl (by kernel_rfl) (by kernel_rfl) (by kernel_rfl) (fun _ _ _ h => h) (Or.inl ⟨by rfl, ?_⟩) (by assumption) ?_
          rotate_left
          · intro W hSw
            go_simp
            first | done | (with_reducible rfl)
          try simp only [Act.put, sQa, sQb, sQc, gQa, gQb, gQc]
          refine wpAnyH_done (by kernel_rfl) ?_ _
          refine NoPanic.normal ?_
          have S9 := hid (stay_old (P := P) (fun b hb => Nat.lt_of_lt_of_le (hPl.out b hb) (by have := sz0.out; have := B5.out.size; have := T8.out.lt.1; obtain ⟨_, _, _, _, _, _, _, h6⟩ := T8.out; have := (h6 w.heap.size (.inl (.inr rfl))).1; omega)) hHeld)
          by_cases hs0 : sg = 0
          · subst hs0
            go_wp2_with (first
              | ((with_reducible refine wpList_load_rng rfl 109 (.tmp 9) rfl b3 0 rfl [Value.int .i64 L, .int .i64 M] _ ?_ hu2 rfl hi8.out ?_); exact rangeBel2 hHeld r8.out))
            refine (hfk.out _ (T8.out.bel hHeld) (Nat.le_trans hsz8.out hHeld.size)).mono ?_
            rintro r w10 ⟨rfl, T9, S10, B9⟩
            go_wp2
            go_ret
            rw [hres.out, hJ0.out (by first | trivial | rfl)]
            exact ⟨rfl, T9.less (fun b hb => .inl (.inl hb)), fun b hp => (S10 b (.inl (.inl hp))).trans ((S9.out b hp).trans (S8.out b hp)), (B8.out.trans (hHeld.mono hsz8.out)).trans B9⟩
          · have hsb : (sg != 0) = true := bne_iff_ne.2 hs0
            go_wp2
            go_ret
            rw [hres.out, hJ1.out (by first | exact hs0 | trivial)]
            exact ⟨rfl, (T8.out.bel hHeld).less (fun b hb => .inl (.inl hb)), fun b hp => (S9.out b hp).trans (S8.out b hp), B8.out.trans (hHeld.mono hsz8.out)⟩
        exact AllReadyH.nil
theorem PTdrop_any (g B0 : Nat) (F : Nat → Prop) (k : Dg) (ns : List Nd) (root : Int) (ho : Ones ns) (hlen : ns.length + 600 ≤ 1000000) : ∀ (e d : Nat) (n : Int) (w : World) (P : Nat → Prop), e + d = 256 → DG ns k e n →
    TrieAt w g B0 F P ns root → B0 ≤ w.heap.size → (∀ b, F b → P b) →
    Calls Tryd.prog 43 #[.pointer (some ⟨g, 0, none⟩), .int .i64 n, .int .i64 (d : Int), .agg (k.1.map bv).toArray] w (PutPost g B0 F P root w (dropN ns k e n))
  | 0, d, n, w, P, hd, hG, hT, hB, hFP => PTdrop_step g B0 F k ns root ho hlen 0 d n hd hG w P hT hB hFP fun f hf => by omega
  | e + 1, d, n, w, P, hd, hG, hT, hB, hFP => PTdrop_step g B0 F k ns root ho hlen (e + 1) d n hd hG w P hT hB hFP fun f hf n w P hG hT hB hFP => by
    obtain rfl : e = f := by omega
    exact PTdrop_any g B0 F k ns root ho hlen e (d + 1) n w P (by omega) hG hT hB hFP
end Go.Proofs.YtcifncmfjlbhjaaDoor
