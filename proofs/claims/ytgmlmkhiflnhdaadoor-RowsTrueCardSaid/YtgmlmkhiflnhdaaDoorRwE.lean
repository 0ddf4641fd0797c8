/-
  Contracts of the landed package rows over the table sha.k: climb.
-/
import Derived.Test.YtgmlmkhiflnhdaaDoorRwC
import Derived.Test.YtgmlmkhiflnhdaaDoorRwD
namespace Go.Proofs.YtgmlmkhiflnhdaaDoor
open Go.RowKit
set_option linter.unusedVariables false
set_option linter.unusedSimpArgs false
set_option maxRecDepth 100000

def fkC (x : Fk) : List Value := [.int .i64 (x.f : Int), .int .i64 (x.t : Int), .bool x.l]
theorem infoFk : (Tryd.prog.info? 50).map (fun i => (i.zero, i.size)) = some (some (.agg zFkC), zFkC.size) := by kernel_rfl
theorem sizeFk (x : Fk) : (Tryd.prog.info? 50).map (·.size) = some (fkC x).length := by kernel_rfl
theorem sizeFkA (x : Fk) : (Tryd.prog.info? 50).map (·.size) = some (fkC x).toArray.size := by kernel_rfl
theorem oneFk (x : Fk) : (fkC x).toArray.all (·.oneCell') = true := by simp [fkC]; exact ⟨rfl, rfl, rfl⟩
theorem row_dgA {F : Nat → Prop} {w : World} {A : Option Addr} {xs : List Dg} (h : Row F w A xs) {j : Nat} (hj : j < xs.length) : ∃ b o, A = some ⟨b, o, none⟩ ∧ w.rangeAt b (o + j * 32) (xs[j].1.map bv) := by
  obtain ⟨b, o, rfl, hF, _, h3⟩ := h (by omega)
  obtain ⟨vs, h1, h2⟩ := h3 j _ (List.getElem?_eq_getElem hj)
  have h1 : vs = xs[j].1.map bv := h1
  subst h1
  exact ⟨b, o, rfl, h2⟩
theorem row_fkA {F : Nat → Prop} {w : World} {A : Option Addr} {xs : List Fk} (h : Row F w A xs) {j : Nat} (hj : j < xs.length) : ∃ b o, A = some ⟨b, o, none⟩ ∧ w.rangeAt b (o + j * 3) (fkC xs[j]) := by
  obtain ⟨b, o, rfl, hF, _, h3⟩ := h (by omega)
  obtain ⟨vs, h1, h2⟩ := h3 j _ (List.getElem?_eq_getElem hj)
  have h1 : vs = fkC xs[j] := h1
  subst h1
  exact ⟨b, o, rfl, h2⟩
theorem fkL_cell {w : World} {g : Nat} {x : Fk} {l : Bool} {t : TypeId} (h : w.heap[g]? = some (.cells (fkC x).toArray t (0, 0))) (hl : x.l = l) : w.cell? ⟨g, 2, none⟩ = some (.bool l) := by
  subst hl
  exact block_cell h 2
theorem forkR_is (a b : Dg) : sha256 (tagB 8 [a.1, b.1]) = (forkR a b).1 := rfl
set_option maxHeartbeats 4000000 in
theorem PRwClimb_any (A : Option Addr) (c : Nat) (x : List UInt8) (F G : Nat → Prop) (fA D : Option Addr) (fc dc : Nat) (fs : List Fk) (ss : List Dg) (w : World) (hx : Rd w A x) (hc : x.length ≤ c ∧ c ≤ maxLen) (hx4 : x.length ≤ 4096)
    (hf : Row F w fA fs) (hs : Row G w D ss) (hl : fs.length = ss.length) (hn : fs.length ≤ 1000) (hT : Tab w) :
    Calls Tryd.prog 27 #[.slice A x.length c, .slice fA fs.length fc, .slice D ss.length dc] w fun e w' => e = .returned (.agg ((climbP (leafR x) fs ss).1.map bv).toArray) ∧ Below w.heap.size w w' := by
  have hu := Tryd.underlying29
  have huf := Tryd.underlying50
  have hsl := run_all32P
  have h0 := hid (heap_alloc_new w (.cells z32 29))
  have W0 := hid (ext_alloc w (.cells z32 29))
  have hlow := hid hT.low
  have hN := of_one_any 7 A c x (w.alloc (.cells z32 29)) (hx.bel W0.out) hc (Nat.le_trans hx4 (by decide)) (hT.bel W0.out hT.low)
  rw [show sha256 (tagB 7 [x]) = (leafR x).1 from rfl, show (((7 : UInt8).toNat : Nat) : Int) = 7 from rfl, World.size_alloc] at hN
  replace hN := hid hN
  have js := hid (sizeDgR (leafR x))
  have zs := hid (zDgR (leafR x))
  have os := hid (oneDgR (leafR x))
  obtain ⟨d0, hd0⟩ : ∃ d, leafR x = d := ⟨_, rfl⟩
  rw [hd0] at hN js zs os ⊢
  obtain ⟨rd, hrd⟩ : ∃ d, climbP d0 fs ss = d := ⟨_, rfl⟩
  rw [hrd]
  replace hrd := hid hrd
  have hOf : Hid (∀ (a b : Dg) (g : Nat) (W : World), Rds W (some ⟨g, 0, none⟩) [a.1, b.1] → Tab W → Calls Tryd.prog 29 #[.int .u8 8, .slice (some ⟨g, 0, none⟩) 2 2] W fun e w' => e = .returned (.agg ((forkR a b).1.map bv).toArray) ∧ Below W.heap.size W w') :=
    hid (fun a b g W h hT => TOf_any 8 (some ⟨g, 0, none⟩) 2 2 [a.1, b.1] W h rfl (by simp) (fork_lenR a b) hT)
  have hlt := hid (show w.heap.size < w.heap.size + 1 from Nat.lt_succ_self _)
  replace hf := hid hf
  replace hs := hid hs
  replace hT := hid hT
  replace hl := hid hl
  clear hx hd0
  go_enter Tryd.func27, Tryd.ntmps27
  go_wp2_with (first
    | (with_reducible refine wpList_alloc_row rfl 29 rfl z32 info32 ?_))
  refine hN.out.mono ?_
  rintro e w1 ⟨rfl, hb⟩
  have R1 := hid ((hb.block _ hlt.out).trans h0.out)
  have W1 := hid (W0.out.trans (hb.mono (Nat.le_succ _)))
  have e1 := hid (heap_alloc_new w1 (.cells z32 29))
  clear hb h0 W0
  go_wp2_with (first
    | (with_reducible refine wpList_alloc_row rfl 29 rfl z32 info32 ?_)
    | ((with_reducible refine wpList_store_row rfl 29 (.tmp 7) (.tmp 13) rfl w1.heap.size _ rfl rfl 29 z32 ?_ ?_ ?_ ?_ ?_); exact e1.out; exact js.out; exact zs.out; exact os.out; intro w3 hgS hbS hsS; have X3 := hid (xnewP rfl hbS); have q3 := hid hgS; clear hgS hbS hsS))
  go_loopw [16] (fun i wr => ∃ j : Nat, j ≤ fs.length ∧ i = .int .i64 j ∧ wr.heap[w1.heap.size]? = some (.cells ((climbP d0 (fs.take j) (ss.take j)).1.map bv).toArray 29 (0, 0)) ∧ Below w1.heap.size w1 wr) (fun i _ => fs.length - (intOf i).toNat)
  case atStart => exact ⟨0, Nat.zero_le _, rfl, q3.out, X3.out⟩
  case round =>
    obtain ⟨j, hj, rfl, hg7, hB⟩ := hrel
    have Wr := hid (W1.out.trans (hB.mono W1.out.size))
    by_cases hlt : j < fs.length
    · have hlt2 : (j : Int) < (fs.length : Int) := by omega
      have hlt3 : (j : Int) < (ss.length : Int) := by have := hl.out; omega
      have hjs : j < ss.length := by have := hl.out; omega
      obtain ⟨b, o, rfl, hr0⟩ := row_fkA (hf.out.bel Wr.out) hlt
      obtain ⟨b2, o2, rfl, hr2⟩ := row_dgA (hs.out.bel Wr.out) hjs
      have hk := climbP_take (d := d0) hl.out hlt
      replace hr0 := hid hr0
      replace hr2 := hid hr2
      generalize climbP d0 (fs.take j) (ss.take j) = dd at *
      generalize ss[j] = s at *
      generalize fs[j] = q at *
      obtain ⟨nd, hnd⟩ : ∃ d, upR q dd s = d := ⟨_, rfl⟩
      rw [hnd] at hk
      replace hk := hid hk
      unfold upR at hnd
      have k1 := hid (sizeFk q)
      have k2 := hid (sizeFkA q)
      have k4 := hid (oneFk q)
      have e0 := hid (heap_alloc_new wr (.cells zFkC 50))
      have s1 := hid (sizeDgR s)
      have s2 := hid (show (Tryd.prog.info? 29).map (·.size) = some (s.1.map bv).length from by rw [List.length_map, s.2]; exact size32)
      have s3 := hid (zDgR s)
      have s4 := hid (oneDgR s)
      have t1 := hid (sizeDgR nd)
      have t3 := hid (show (dd.1.map bv).toArray.size = (nd.1.map bv).toArray.size from by simp [dd.2, nd.2])
      have t4 := hid (oneDgR nd)
      have ls := s.2
      have ld := dd.2
      replace hg7 := hid hg7
      replace hB := hid hB
      obtain ⟨lb, hlb⟩ : ∃ l, q.l = l := ⟨_, rfl⟩
      rw [hlb] at hnd
      replace hlb := hid hlb
      cases lb
      all_goals
        simp only [Bool.false_eq_true, if_false, if_true] at hnd
        replace hnd := hid hnd
        go_wp2_with (first
          | ((with_reducible refine wpList_load_rng rfl 50 (.tmp 19) rfl b (o + j * 3) rfl (fkC q) _ ?_ huf rfl k1.out ?_); exact hr0.out)
          | (with_reducible refine wpList_alloc_row rfl 50 rfl zFkC infoFk ?_)
          | ((with_reducible refine wpList_store_row rfl 50 (.tmp 9) (.tmp 20) rfl wr.heap.size _ rfl rfl 50 zFkC ?_ ?_ ?_ ?_ ?_); exact e0.out; exact k2.out; rfl; exact k4.out; intro w4 hgS hbS hsS; have X4 := hid (xnewP rfl hbS); have q4 := hid hgS; clear hgS hbS hsS)
          | ((with_reducible refine wpList_load_rng rfl 29 (.tmp 23) rfl b2 (o2 + j * 32) rfl (s.1.map bv) _ ?_ hu rfl s2.out ?_); exact rangeBel2 X4.out hr2.out)
          | (with_reducible refine wpList_alloc_row rfl 29 rfl z32 info32 ?_)
          | ((with_reducible refine wpList_store_row rfl 29 (.tmp 10) (.tmp 24) rfl w4.heap.size _ rfl rfl 29 z32 ?_ ?_ ?_ ?_ ?_); exact heap_alloc_new w4 _; exact s1.out; exact s3.out; exact s4.out; intro w5 hgS hbS hsS; have X5 := hid (xnewP rfl hbS); have q5 := hid hgS; have c5 := hid ((X5.out.block _ (block_lt q4.out)).trans q4.out); have c6 := fkL_cell c5.out hlb.out; clear hgS hbS hsS))
        have Y5 := hid (X4.out.trans ((X5.out.mono X4.out.size).trans ((bel_drew w5).mono (Nat.le_trans X4.out.size X5.out.size))))
        have G5 := hid ((Y5.out.block _ (block_lt hg7.out)).trans hg7.out)
        have B5 := hid (hB.out.trans (Y5.out.mono hB.out.size))
        have q6 := hid (((bel_drew w5).block _ (block_lt q5.out)).trans q5.out)
        have S5 := hid (rd_blockP (l := s.1) q6.out)
        have D5 := hid (rd_blockP (l := dd.1) G5.out)
        have T5 := hid (hT.out.bel (W1.out.trans (B5.out.mono W1.out.size)) hlow.out)
      · refine wp_region_noPanic ?_
        refine wp_region_held_drew (S := fun _ => True) (by kernel_rfl) ?_ (fun hHeld => ?_)
        · exact trivial
        refine' wpAnyH_take (i := 0) (oi := _) (v := _) rfl (by kernel_rfl) (by kernel_rfl) (by kernel_rfl) (fun _ _ _ h => h) (yieldsIf_slice (by rfl) _ _ _ _ _ rfl _ _ _ _ _ (fun W => run_all32P _ W) rfl rfl rfl rfl) (by assumption) ?_
        try simp only [Act.put, sQa, sQb, sQc, gQa, gQb, gQc]
        refine' wpAnyH_take (i := 1) (oi := _) (v := _) rfl (by kernel_rfl) (by kernel_rfl) (by kernel_rfl) (fun _ _ _ h => h) (yieldsIf_slice (by rfl) _ _ _ _ _ rfl _ _ _ _ _ (fun W => run_all32P _ W) rfl rfl rfl rfl) (by assumption) ?_
        try simp only [Act.put, sQa, sQb, sQc, gQa, gQb, gQc]
        refine wpAnyH_ready (rs := [2]) (by kernel_rfl) (by simp) ?_
        refine AllReadyH.cons (o := _) rfl (fun K hK => ?_) AllReadyH.nil
        refine step_buildSls rfl 2 _ rfl [(some ⟨w1.heap.size, 0, none⟩, 32, dd.1), (some ⟨w4.heap.size, 0, none⟩, 32, s.1)] [.slice (some ⟨w1.heap.size, 0, none⟩) 32 32, .slice (some ⟨w4.heap.size, 0, none⟩) 32 32] (by simp [slV, ls, ld]) rfl (by decide) (by decide) rfl ?_ ?_
        · intro p hp
          simp at hp
          rcases hp with rfl | rfl
          · exact ⟨D5.out, Nat.le_of_eq ld, by show 32 ≤ maxLen; decide⟩
          · exact ⟨S5.out, Nat.le_of_eq ls, by show 32 ≤ maxLen; decide⟩
        intro g6 v6 e6 J6 E6
        refine hK.out _ _ ?_ (fun hHeld => ?_)
        · exact trivial
        clear hK K
        try simp only [Act.put, sQa, sQb, sQc, gQa, gQb, gQc]
        refine wpAnyH_ready (rs := [3]) (by kernel_rfl) (by simp) ?_
        refine AllReadyH.cons (o := _) rfl (fun K hK => ?_) AllReadyH.nil
        go_simp
        refine (hOf.out dd s g6 _ J6 (T5.out.bel E6 (Nat.lt_of_lt_of_le hlow.out (Nat.le_trans W1.out.size B5.out.size)))).mono ?_
        rintro e v7 ⟨rfl, hB7⟩
        have Z7 := hid (E6.trans (hB7.mono E6.size))
        have R7 := hid ((Z7.out.block _ (block_lt G5.out)).trans G5.out)
        rw [hnd.out]
        go_wp2_with fail
        refine hK.out _ _ ?_ (fun hHeld => ?_)
        · exact trivial
        clear hK K
        try simp only [Act.put, sQa, sQb, sQc, gQa, gQb, gQc]
        refine wpAnyH_ready (rs := [4]) (by kernel_rfl) (by simp) ?_
        refine AllReadyH.cons (o := _) rfl (fun K hK => ?_) AllReadyH.nil
        refine step_store_rowT rfl 29 (.tmp 7) (.tmp 34) rfl w1.heap.size _ rfl rfl 29 (dd.1.map bv).toArray R7.out t1.out t3.out t4.out ?_
        intro w8 d8 hG
        refine hK.out _ _ ?_ (fun hHeld => ?_)
        · exact trivial
        clear hK K
        try simp only [Act.put, sQa, sQb, sQc, gQa, gQb, gQc]
        refine wpAnyH_done (by kernel_rfl) ?_ _
        refine NoPanic.normal ?_
        go_wp2
        go_round
        case rel => exact ⟨j + 1, by omega, by go_num, by rw [hk.out]; exact d8, (B5.out.trans (Z7.out.mono B5.out.size)).grown hG (Nat.le_trans B5.out.size Z7.out.size) (fun g e => by injection e with e; omega)⟩
        case measure => simp [intOf]; omega
      · refine wp_region_noPanic ?_
        refine wp_region_held_drew (S := fun _ => True) (by kernel_rfl) ?_ (fun hHeld => ?_)
        · exact trivial
        refine' wpAnyH_take (i := 0) (oi := _) (v := _) rfl (by kernel_rfl) (by kernel_rfl) (by kernel_rfl) (fun _ _ _ h => h) (yieldsIf_slice (by rfl) _ _ _ _ _ rfl _ _ _ _ _ (fun W => run_all32P _ W) rfl rfl rfl rfl) (by assumption) ?_
        try simp only [Act.put, sQa, sQb, sQc, gQa, gQb, gQc]
        refine' wpAnyH_take (i := 1) (oi := _) (v := _) rfl (by kernel_rfl) (by kernel_rfl) (by kernel_rfl) (fun _ _ _ h => h) (yieldsIf_slice (by rfl) _ _ _ _ _ rfl _ _ _ _ _ (fun W => run_all32P _ W) rfl rfl rfl rfl) (by assumption) ?_
        try simp only [Act.put, sQa, sQb, sQc, gQa, gQb, gQc]
        refine wpAnyH_ready (rs := [2]) (by kernel_rfl) (by simp) ?_
        refine AllReadyH.cons (o := _) rfl (fun K hK => ?_) AllReadyH.nil
        refine step_buildSls rfl 2 _ rfl [(some ⟨w4.heap.size, 0, none⟩, 32, s.1), (some ⟨w1.heap.size, 0, none⟩, 32, dd.1)] [.slice (some ⟨w4.heap.size, 0, none⟩) 32 32, .slice (some ⟨w1.heap.size, 0, none⟩) 32 32] (by simp [slV, ls, ld]) rfl (by decide) (by decide) rfl ?_ ?_
        · intro p hp
          simp at hp
          rcases hp with rfl | rfl
          · exact ⟨S5.out, Nat.le_of_eq ls, by show 32 ≤ maxLen; decide⟩
          · exact ⟨D5.out, Nat.le_of_eq ld, by show 32 ≤ maxLen; decide⟩
        intro g6 v6 e6 J6 E6
        refine hK.out _ _ ?_ (fun hHeld => ?_)
        · exact trivial
        clear hK K
        try simp only [Act.put, sQa, sQb, sQc, gQa, gQb, gQc]
        refine wpAnyH_ready (rs := [3]) (by kernel_rfl) (by simp) ?_
        refine AllReadyH.cons (o := _) rfl (fun K hK => ?_) AllReadyH.nil
        go_simp
        refine (hOf.out s dd g6 _ J6 (T5.out.bel E6 (Nat.lt_of_lt_of_le hlow.out (Nat.le_trans W1.out.size B5.out.size)))).mono ?_
        rintro e v7 ⟨rfl, hB7⟩
        have Z7 := hid (E6.trans (hB7.mono E6.size))
        have R7 := hid ((Z7.out.block _ (block_lt G5.out)).trans G5.out)
        rw [hnd.out]
        go_wp2_with fail
        refine hK.out _ _ ?_ (fun hHeld => ?_)
        · exact trivial
        clear hK K
        try simp only [Act.put, sQa, sQb, sQc, gQa, gQb, gQc]
        refine wpAnyH_ready (rs := [4]) (by kernel_rfl) (by simp) ?_
        refine AllReadyH.cons (o := _) rfl (fun K hK => ?_) AllReadyH.nil
        refine step_store_rowT rfl 29 (.tmp 7) (.tmp 30) rfl w1.heap.size _ rfl rfl 29 (dd.1.map bv).toArray R7.out t1.out t3.out t4.out ?_
        intro w8 d8 hG
        refine hK.out _ _ ?_ (fun hHeld => ?_)
        · exact trivial
        clear hK K
        try simp only [Act.put, sQa, sQb, sQc, gQa, gQb, gQc]
        refine wpAnyH_done (by kernel_rfl) ?_ _
        refine NoPanic.normal ?_
        go_wp2
        go_round
        case rel => exact ⟨j + 1, by omega, by go_num, by rw [hk.out]; exact d8, (B5.out.trans (Z7.out.mono B5.out.size)).grown hG (Nat.le_trans B5.out.size Z7.out.size) (fun g e => by injection e with e; omega)⟩
        case measure => simp [intOf]; omega
    · obtain rfl : j = fs.length := by omega
      rw [List.take_length, hl.out, List.take_length] at hg7
      rw [hrd.out] at hg7
      have g6 := hid ((hB.block _ (block_lt R1.out)).trans R1.out)
      have t0 := hid (show (Tryd.prog.info? 29).map (·.size) = some (rd.1.map bv).length from by rw [List.length_map, rd.2]; exact size32)
      have t1 := hid (sizeDgR rd)
      have t3 := hid (zDgR rd)
      have t4 := hid (oneDgR rd)
      have h7 := hid (rangeOf (l := rd.1.map bv) hg7)
      replace hB := hid hB
      clear hg7 hl
      go_wp2_with (first
        | ((with_reducible refine wpList_load_rng rfl 29 (.tmp 7) rfl w1.heap.size 0 rfl (rd.1.map bv) _ ?_ hu rfl t0.out ?_); exact h7.out)
        | ((with_reducible refine wpList_store_row rfl 29 (.tmp 6) (.tmp 36) rfl w.heap.size _ rfl rfl 29 z32 ?_ ?_ ?_ ?_ ?_); exact g6.out; exact t1.out; exact t3.out; exact t4.out; intro w5 hg5 hb5 hs5))
      exact bodyPost_ret (v := .agg (rd.1.map bv).toArray) (results_cell_row Tryd.results27 _ _ w.heap.size 29 _ (0, 0) _ rfl hg5 hu rfl t1.out) rfl ⟨rfl, Wr.out.grown hb5 Wr.out.size (fun g e => by injection e with e; omega)⟩
end Go.Proofs.YtgmlmkhiflnhdaaDoor
