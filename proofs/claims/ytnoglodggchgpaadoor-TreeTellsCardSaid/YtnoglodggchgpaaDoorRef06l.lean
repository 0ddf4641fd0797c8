/-
  The document's answers of layer 6: Same, of any two trees.
-/
import Derived.Test.YtnoglodggchgpaaDoorRef06f
import Derived.Test.YtnoglodggchgpaaDoorTreeLs
namespace Go.Proofs.YtnoglodggchgpaaDoor
open Go.RowKit
set_option linter.unusedVariables false
set_option linter.unusedSimpArgs false
set_option maxRecDepth 100000

set_option maxHeartbeats 8000000 in
theorem RSameT_is (F G : Nat → Prop) (A D : Option Addr) (c d : Nat) (ns ms : List Nd) (r1 r2 : Int) (b : Bool) (w : World) (hr : Row F w A ns) (hs : Row G w D ms) (hc : ns.length ≤ 9223372036854775807) (hd : ms.length ≤ 9223372036854775807) (hb : sameT ⟨ns, r1⟩ ⟨ms, r2⟩ = b) :
    Calls Tryd.prog 40 #[.agg #[.slice A ns.length c, .int .i64 r1], .agg #[.slice D ms.length d, .int .i64 r2]] w fun e w' => e = .returned (.bool b) ∧ Below w.heap.size w w' := by
  obtain ⟨T1, T2, W0⟩ := boxesTwo w A D ns.length ms.length c d r1 r2
  have hr0 := hr.bel W0
  have hs0 := hs.bel W0
  have y1 := T1.ns
  have y2 := T2.ns
  have y3 := T1.rt
  have y4 := T2.rt
  have hun := Tryd.underlying50
  have hu := Tryd.underlying23
  clear hr hs
  obtain ⟨rb, hrb⟩ : ∃ rb, (r1 != r2) = rb := ⟨_, rfl⟩
  cases rb with
  | true =>
    have h0 : b = false := by
      rw [← hb]
      have : (r1 == r2) = false := by simpa using hrb
      unfold sameT
      dsimp only
      rw [this, Bool.false_and]
    subst h0
    clear hb
    go_enter Tryd.func40, Tryd.ntmps40
    go_wp2
    go_ret
    exact ⟨rfl, W0⟩
  | false =>
    have h1 : sameT ⟨ns, r1⟩ ⟨ms, r2⟩ = decide (ns = ms) := by
      have : (r1 == r2) = true := by simpa using hrb
      unfold sameT
      dsimp only
      rw [this, Bool.true_and]
    rw [h1] at hb
    clear h1
    by_cases hl : ns.length = ms.length
    · have hln : ((ns.length : Int) != (ms.length : Int)) = false := by rw [hl]; simp
      rw [← hl] at hd hln y2 T2 W0 hr0 hs0 T1 y1 y3 y4 ⊢
      replace hl := hid hl
      replace hb := hid hb
      go_enter Tryd.func40, Tryd.ntmps40
      go_wp2
      generalize (w.alloc (.cells #[.slice A ns.length c, .int .i64 r1] 44)).alloc (.cells #[.slice D ns.length d, .int .i64 r2] 44) = w0 at *
      clear y1 y2 y3 y4 hln hrb
      go_loopw [5] (fun i wr => ∃ j : Nat, j ≤ ns.length ∧ i = .int .i64 j ∧ ns.take j = ms.take j ∧ Below w0.heap.size w0 wr) (fun i _ => ns.length - (intOf i).toNat)
      case atStart => exact ⟨0, Nat.zero_le _, rfl, by simp, Below.refl _ _⟩
      case round =>
        obtain ⟨j, hj, rfl, hrel, hbw⟩ := hrel
        have y1 := (T1.bel hbw).ns
        have y2 := (T2.bel hbw).ns
        by_cases hlt : j < ns.length
        · have hlt2 : j < ms.length := by rw [← hl.out]; exact hlt
          have E := hid (take_eq_succN hlt hlt2 hrel)
          replace hrel := hid hrel
          obtain ⟨q, o, hA, A1, c1, hR1, hv1, hm1, ha1, hI1, hI2⟩ := row_nd (hr0.bel hbw) hlt
          obtain ⟨q2, o2, hD, A2, c2, hR2, hv2, hm2, ha2, -, -⟩ := row_nd (hs0.bel hbw) hlt2
          subst hA hD
          have hi1 := hid (show (Tryd.prog.info? 50).map (·.size) = some (ndC ns[j] A1 c1).length by rw [len_nd]; exact sizeNd)
          have hi2 := hid (show (Tryd.prog.info? 50).map (·.size) = some (ndC ms[j] A2 c2).length by rw [len_nd]; exact sizeNd)
          have hs1 := hid (show (Tryd.prog.info? 50).map (·.size) = some (ndC ns[j] A1 c1).toArray.size by rw [List.size_toArray, len_nd]; exact sizeNd)
          have hs2 := hid (show (Tryd.prog.info? 50).map (·.size) = some (ndC ms[j] A2 c2).toArray.size by rw [List.size_toArray, len_nd]; exact sizeNd)
          have hz1 := hid (show zNdC.size = (ndC ns[j] A1 c1).toArray.size by rw [zSizeNd, List.size_toArray, len_nd])
          have hz2 := hid (show zNdC.size = (ndC ms[j] A2 c2).toArray.size by rw [zSizeNd, List.size_toArray, len_nd])
          have ho1 := hid (one_nd ns[j] A1 c1)
          have ho2 := hid (one_nd ms[j] A2 c2)
          have rd1 := hid ha1.rd
          have rd2 := hid ha2.rd
          have hB1 := hid (fun (W : World) (g : Nat) (tt : TypeId) (h : W.heap[g]? = some (.cells (ndC ns[j] A1 c1).toArray tt (0, 0))) => BoxN.heap h)
          have hB2 := hid (fun (W : World) (g : Nat) (tt : TypeId) (h : W.heap[g]? = some (.cells (ndC ms[j] A2 c2).toArray tt (0, 0))) => BoxN.heap h)
          have hik := hid (sizeDgT ns[j].k)
          have hik2 := hid (sizeDgT ms[j].k)
          obtain ⟨eb, heb⟩ : ∃ eb, eqN ns[j] ms[j] = eb := ⟨_, rfl⟩
          obtain ⟨fb, e2⟩ : ∃ fb, (ns[j].leaf != ms[j].leaf) = fb := ⟨_, rfl⟩
          obtain ⟨kb, hkb⟩ : ∃ kb, decide (ns[j].k = ms[j].k) = kb := ⟨_, rfl⟩
          obtain ⟨vb, hvb⟩ : ∃ vb, decide (ns[j].v = ms[j].v) = vb := ⟨_, rfl⟩
          obtain ⟨lb, e3⟩ : ∃ lb, (ns[j].l != ms[j].l) = lb := ⟨_, rfl⟩
          obtain ⟨qb, e4⟩ : ∃ qb, (ns[j].r != ms[j].r) = qb := ⟨_, rfl⟩
          have hE : ∀ W, (Op.equalIn 10000 23 (.agg (ns[j].k.1.map bv).toArray) (.agg (ms[j].k.1.map bv).toArray)).run Tryd.prog W = .ok kb W := fun W => eqd_is ns[j].k ms[j].k kb hkb W
          have hV := hid (fun (W : World) (p1 : Rd W A1 ns[j].v) (p2 : Rd W A2 ms[j].v) => Same_is A1 A2 c1 c2 ns[j].v ms[j].v vb W p1 p2 hvb)
          have hall : eb = (!fb && kb && vb && !lb && !qb) := by
            rw [← heb, ← e2, ← hkb, ← hvb, ← e3, ← e4]
            unfold eqN
            simp [bne]
          have hno : eb = false → b = false := by
            intro h
            rw [← hb.out, decide_eq_false]
            intro e
            have := eqN_iff.2 (E.out.1 (by rw [e]))
            rw [heb, h] at this
            cases this
          have hyes : eb = true → ns.take (j + 1) = ms.take (j + 1) := fun h1 => E.out.2 (eqN_iff.1 (heb.trans h1))
          replace hno := hid hno
          replace hyes := hid hyes
          replace heb := hid heb
          replace hall := hid hall
          replace hR1 := hid hR1
          replace hR2 := hid hR2
          have hlen := hid hl
          have hbs := hid hbw.size
          clear hv1 hm1 ha1 hI1 hI2 hv2 hm2 ha2 E hkb hvb hrel
          generalize ndC ns[j] A1 c1 = cs1 at *
          generalize ndC ms[j] A2 c2 = cs2 at *
          go_wp2
          refine wp_region_noPanic ?_
          refine wp_region_held_drew (S := fun w' => Below wr.heap.size wr w') (by kernel_rfl) ?_ (fun hHeld => ?_)
          · exact bel_drew wr
          refine' wpAnyH_take (i := 0) (oi := _) (v := ?_) rfl (by kernel_rfl) (by kernel_rfl) (by kernel_rfl) (fun _ _ _ h => h) (Or.inl ⟨by rfl, ?_⟩) (by assumption) ?_
          rotate_left
          · intro W hSw
            go_simp
            first | done | (with_reducible rfl)
          try simp only [Act.put, List.setIfInBounds_toArray, List.set_cons_zero, List.set_cons_succ, List.getElem_toArray, List.getElem_cons_succ, List.getElem_cons_zero]
          refine' wpAnyH_take (i := 1) (oi := _) (v := ?_) rfl (by kernel_rfl) (by kernel_rfl) (by kernel_rfl) (fun _ _ _ h => h) (Or.inl ⟨by rfl, ?_⟩) (by assumption) ?_
          rotate_left
          · intro W hSw
            have hCell := (hSw.cell (World.block_lt_of_cell? _ _ y1)).trans y1
            go_simp
            first | done | (with_reducible rfl)
          try simp only [Act.put, List.setIfInBounds_toArray, List.set_cons_zero, List.set_cons_succ, List.getElem_toArray, List.getElem_cons_succ, List.getElem_cons_zero]
          refine' wpAnyH_take (i := 2) (oi := _) (v := ?_) rfl (by kernel_rfl) (by kernel_rfl) (by kernel_rfl) (fun _ _ _ h => h) (Or.inl ⟨by rfl, ?_⟩) (by assumption) ?_
          rotate_left
          · intro W hSw
            go_simp
            first | done | (with_reducible rfl)
          try simp only [Act.put, List.setIfInBounds_toArray, List.set_cons_zero, List.set_cons_succ, List.getElem_toArray, List.getElem_cons_succ, List.getElem_cons_zero]
          refine' wpAnyH_take (i := 3) (oi := _) (v := ?_) rfl (by kernel_rfl) (by kernel_rfl) (by kernel_rfl) (fun _ _ _ h => h) (Or.inl ⟨by rfl, ?_⟩) (by assumption) ?_
          rotate_left
          · intro W hSw
            go_simp
            first | done | (with_reducible rfl)
          try simp only [Act.put, List.setIfInBounds_toArray, List.set_cons_zero, List.set_cons_succ, List.getElem_toArray, List.getElem_cons_succ, List.getElem_cons_zero]
          refine' wpAnyH_take (i := 4) (oi := _) (v := _) rfl (by kernel_rfl) (by kernel_rfl) (by kernel_rfl) (fun _ _ _ h => h) (yieldsIf_load_mid (by rfl) _ _ rfl _ _ rfl _ _ (fun _ h => rangeBel2 h hR1.out) hun rfl hi1.out) (by assumption) ?_
          try simp only [Act.put, List.setIfInBounds_toArray, List.set_cons_zero, List.set_cons_succ, List.getElem_toArray, List.getElem_cons_succ, List.getElem_cons_zero]
          refine' wpAnyH_take (i := 5) (oi := _) (v := ?_) rfl (by kernel_rfl) (by kernel_rfl) (by kernel_rfl) (fun _ _ _ h => h) (Or.inl ⟨by rfl, ?_⟩) (by assumption) ?_
          rotate_left
          · intro W hSw
            go_simp
            first | done | (with_reducible rfl)
          try simp only [Act.put, List.setIfInBounds_toArray, List.set_cons_zero, List.set_cons_succ, List.getElem_toArray, List.getElem_cons_succ, List.getElem_cons_zero]
          refine' wpAnyH_take (i := 6) (oi := _) (v := ?_) rfl (by kernel_rfl) (by kernel_rfl) (by kernel_rfl) (fun _ _ _ h => h) (Or.inl ⟨by rfl, ?_⟩) (by assumption) ?_
          rotate_left
          · intro W hSw
            have hCell := (hSw.cell (World.block_lt_of_cell? _ _ y2)).trans y2
            go_simp
            first | done | (with_reducible rfl)
          try simp only [Act.put, List.setIfInBounds_toArray, List.set_cons_zero, List.set_cons_succ, List.getElem_toArray, List.getElem_cons_succ, List.getElem_cons_zero]
          refine' wpAnyH_take (i := 7) (oi := _) (v := ?_) rfl (by kernel_rfl) (by kernel_rfl) (by kernel_rfl) (fun _ _ _ h => h) (Or.inl ⟨by rfl, ?_⟩) (by assumption) ?_
          rotate_left
          · intro W hSw
            go_simp
            first | done | (with_reducible rfl)
          try simp only [Act.put, List.setIfInBounds_toArray, List.set_cons_zero, List.set_cons_succ, List.getElem_toArray, List.getElem_cons_succ, List.getElem_cons_zero]
          refine' wpAnyH_take (i := 8) (oi := _) (v := ?_) rfl (by kernel_rfl) (by kernel_rfl) (by kernel_rfl) (fun _ _ _ h => h) (Or.inl ⟨by rfl, ?_⟩) (by assumption) ?_
          rotate_left
          · intro W hSw
            go_simp
            first | done | (with_reducible rfl)
          try simp only [Act.put, List.setIfInBounds_toArray, List.set_cons_zero, List.set_cons_succ, List.getElem_toArray, List.getElem_cons_succ, List.getElem_cons_zero]
          refine' wpAnyH_take (i := 9) (oi := _) (v := _) rfl (by kernel_rfl) (by kernel_rfl) (by kernel_rfl) (fun _ _ _ h => h) (yieldsIf_load_mid (by rfl) _ _ rfl _ _ rfl _ _ (fun _ h => rangeBel2 h hR2.out) hun rfl hi2.out) (by assumption) ?_
          try simp only [Act.put, List.setIfInBounds_toArray, List.set_cons_zero, List.set_cons_succ, List.getElem_toArray, List.getElem_cons_succ, List.getElem_cons_zero]
          refine wpAnyH_ready (rs := [10, 11]) (by kernel_rfl) (by simp) ?_
          refine AllReadyH.cons (o := _) rfl (fun K hK => ?_) ?_
          · skip
            refine step_alloc_rowT rfl 50 rfl zNdC zInfoNd ?_
            intro g6 w8 b6 e6 hB
            have m6 := Nat.le_trans hHeld.size b6
            try have n67 : g6 ≠ g7 := fun h => by have := block_lt e7; omega
            try replace e7 := (hB.block _ (block_lt e7)).trans e7
            refine hK.out _ _ ?_ (fun hHeld => ?_)
            · exact hHeld.trans (hB.mono hHeld.size)
            clear hK K
            try simp only [Act.put, List.setIfInBounds_toArray, List.set_cons_zero, List.set_cons_succ, List.getElem_toArray, List.getElem_cons_succ, List.getElem_cons_zero]
            refine wpAnyH_ready (rs := [11]) (by kernel_rfl) (by simp) ?_
            refine AllReadyH.cons (o := _) rfl (fun K hK => ?_) AllReadyH.nil
            refine step_alloc_rowT rfl 50 rfl zNdC zInfoNd ?_
            intro g7 w8 b7 e7 hB
            have m7 := Nat.le_trans hHeld.size b7
            try have n67 : g6 ≠ g7 := fun h => by have := block_lt e6; omega
            try replace e6 := (hB.block _ (block_lt e6)).trans e6
            refine hK.out _ _ ?_ (fun hHeld => ?_)
            · exact hHeld.trans (hB.mono hHeld.size)
            clear hK K
            try simp only [Act.put, List.setIfInBounds_toArray, List.set_cons_zero, List.set_cons_succ, List.getElem_toArray, List.getElem_cons_succ, List.getElem_cons_zero]
            refine wpAnyH_ready (rs := [12]) (by kernel_rfl) (by simp) ?_
            refine AllReadyH.cons (o := _) rfl (fun K hK => ?_) AllReadyH.nil
            refine step_store_rowT rfl 50 (.tmp 6) (.tmp 33) rfl g6 _ rfl rfl 50 zNdC e6 hs1.out hz1.out ho1.out ?_
            intro w8 d6 hG
            replace e7 := (hG.block _ (block_lt e7) (by simpa using n67.symm)).trans e7
            refine hK.out _ _ ?_ (fun hHeld => ?_)
            · exact hHeld.grown hG hHeld.size (by intro k hk; injection hk with hk; omega)
            clear hK K
            try simp only [Act.put, List.setIfInBounds_toArray, List.set_cons_zero, List.set_cons_succ, List.getElem_toArray, List.getElem_cons_succ, List.getElem_cons_zero]
            refine wpAnyH_ready (rs := [13]) (by kernel_rfl) (by simp) ?_
            refine AllReadyH.cons (o := _) rfl (fun K hK => ?_) AllReadyH.nil
            refine step_store_rowT rfl 50 (.tmp 7) (.tmp 38) rfl g7 _ rfl rfl 50 zNdC e7 hs2.out hz2.out ho2.out ?_
            intro w9 d7 hG
            replace d6 := (hG.block _ (block_lt d6) (by simpa using n67)).trans d6
            refine hK.out _ _ ?_ (fun hHeld => ?_)
            · exact hHeld.grown hG hHeld.size (by intro k hk; injection hk with hk; omega)
            clear hK K
            try simp only [Act.put, List.setIfInBounds_toArray, List.set_cons_zero, List.set_cons_succ, List.getElem_toArray, List.getElem_cons_succ, List.getElem_cons_zero]
            refine wpAnyH_done (by kernel_rfl) ?_ _
            refine NoPanic.normal ?_
            have N6 := hB1.out _ _ _ d6
            have N7 := hB2.out _ _ _ d7
            have u1 := N6.leaf
            have u2 := N7.leaf
            have u3 := N6.val
            have u4 := N7.val
            have u5 := N6.l
            have u6 := N7.l
            have u7 := N6.r
            have u8 := N7.r
            have k6 := hid N6.key
            have k7 := hid N7.key
            have p1 := hid (rd1.out.bel hHeld)
            have p2 := hid (rd2.out.bel hHeld)
            have W9 := hid (hbw.trans (hHeld.mono hbs.out))
            clear N6 N7 d6 d7 hHeld rd1 rd2 hB1 hB2 hR1 hR2 hbw
            try clear hB
            try clear hG
            try clear e6 e7
            cases fb
            rotate_left
            · have h9 := hid (hno.out (by rw [hall.out]; rfl))
              have ep : ¬ ns[j].leaf = ms[j].leaf := by simpa using e2
              clear hno hyes e2
              go_wp2
              go_ret
              exact ⟨ret_bN h9.out.symm, W0.trans (W9.out.mono W0.size)⟩
            replace e2 : ns[j].leaf = ms[j].leaf := by simpa using e2
            rw [← e2] at u2
            clear e2
            cases kb
            · have h9 := hid (hno.out (by rw [hall.out]; rfl))
              clear hno hyes
              go_wp2_with (first
                | ((with_reducible refine wpList_load_rng ?_ 23 (.tmp 45) rfl g6 1 rfl (ns[j].k.1.map bv) _ ?_ hu rfl hik.out ?_); rfl; exact k6.out)
                | ((with_reducible refine wpList_load_rng ?_ 23 (.tmp 47) rfl g7 1 rfl (ms[j].k.1.map bv) _ ?_ hu rfl hik2.out ?_); rfl; exact k7.out))
              go_ret
              exact ⟨ret_bN h9.out.symm, W0.trans (W9.out.mono W0.size)⟩
            go_wp2_with (first
              | ((with_reducible refine wpList_load_rng ?_ 23 (.tmp 45) rfl g6 1 rfl (ns[j].k.1.map bv) _ ?_ hu rfl hik.out ?_); rfl; exact k6.out)
              | ((with_reducible refine wpList_load_rng ?_ 23 (.tmp 47) rfl g7 1 rfl (ms[j].k.1.map bv) _ ?_ hu rfl hik2.out ?_); rfl; exact k7.out))
            refine (hV.out _ p1.out p2.out).mono ?_
            rintro e w10 ⟨rfl, rfl⟩
            cases vb
            · have h9 := hid (hno.out (by rw [hall.out]; rfl))
              clear hno hyes
              go_wp2
              go_ret
              exact ⟨ret_bN h9.out.symm, W0.trans (W9.out.mono W0.size)⟩
            cases lb
            rotate_left
            · have h9 := hid (hno.out (by rw [hall.out]; rfl))
              have ep : ¬ ns[j].l = ms[j].l := by simpa using e3
              clear hno hyes e3
              go_wp2
              go_ret
              exact ⟨ret_bN h9.out.symm, W0.trans (W9.out.mono W0.size)⟩
            replace e3 : ns[j].l = ms[j].l := by simpa using e3
            rw [← e3] at u6
            clear e3
            cases qb
            rotate_left
            · have h9 := hid (hno.out (by rw [hall.out]; rfl))
              have ep : ¬ ns[j].r = ms[j].r := by simpa using e4
              clear hno hyes e4
              go_wp2
              go_ret
              exact ⟨ret_bN h9.out.symm, W0.trans (W9.out.mono W0.size)⟩
            replace e4 : ns[j].r = ms[j].r := by simpa using e4
            rw [← e4] at u8
            clear e4
            have h9 := hid (hyes.out (by rw [hall.out]; rfl))
            clear hno hyes
            go_wp2
            go_roundw
            case rel => exact ⟨j + 1, by omega, by go_num, h9.out, W9.out⟩
            case measure => simp [intOf]; omega
          refine AllReadyH.cons (o := _) rfl (fun K hK => ?_) ?_
          · skip
            refine step_alloc_rowT rfl 50 rfl zNdC zInfoNd ?_
            intro g7 w8 b7 e7 hB
            have m7 := Nat.le_trans hHeld.size b7
            try have n67 : g6 ≠ g7 := fun h => by have := block_lt e6; omega
            try replace e6 := (hB.block _ (block_lt e6)).trans e6
            refine hK.out _ _ ?_ (fun hHeld => ?_)
            · exact hHeld.trans (hB.mono hHeld.size)
            clear hK K
            try simp only [Act.put, List.setIfInBounds_toArray, List.set_cons_zero, List.set_cons_succ, List.getElem_toArray, List.getElem_cons_succ, List.getElem_cons_zero]
            refine wpAnyH_ready (rs := [10]) (by kernel_rfl) (by simp) ?_
            refine AllReadyH.cons (o := _) rfl (fun K hK => ?_) AllReadyH.nil
            refine step_alloc_rowT rfl 50 rfl zNdC zInfoNd ?_
            intro g6 w8 b6 e6 hB
            have m6 := Nat.le_trans hHeld.size b6
            try have n67 : g6 ≠ g7 := fun h => by have := block_lt e7; omega
            try replace e7 := (hB.block _ (block_lt e7)).trans e7
            refine hK.out _ _ ?_ (fun hHeld => ?_)
            · exact hHeld.trans (hB.mono hHeld.size)
            clear hK K
            try simp only [Act.put, List.setIfInBounds_toArray, List.set_cons_zero, List.set_cons_succ, List.getElem_toArray, List.getElem_cons_succ, List.getElem_cons_zero]
            refine wpAnyH_ready (rs := [12]) (by kernel_rfl) (by simp) ?_
            refine AllReadyH.cons (o := _) rfl (fun K hK => ?_) AllReadyH.nil
            refine step_store_rowT rfl 50 (.tmp 6) (.tmp 33) rfl g6 _ rfl rfl 50 zNdC e6 hs1.out hz1.out ho1.out ?_
            intro w8 d6 hG
            replace e7 := (hG.block _ (block_lt e7) (by simpa using n67.symm)).trans e7
            refine hK.out _ _ ?_ (fun hHeld => ?_)
            · exact hHeld.grown hG hHeld.size (by intro k hk; injection hk with hk; omega)
            clear hK K
            try simp only [Act.put, List.setIfInBounds_toArray, List.set_cons_zero, List.set_cons_succ, List.getElem_toArray, List.getElem_cons_succ, List.getElem_cons_zero]
            refine wpAnyH_ready (rs := [13]) (by kernel_rfl) (by simp) ?_
            refine AllReadyH.cons (o := _) rfl (fun K hK => ?_) AllReadyH.nil
            refine step_store_rowT rfl 50 (.tmp 7) (.tmp 38) rfl g7 _ rfl rfl 50 zNdC e7 hs2.out hz2.out ho2.out ?_
            intro w9 d7 hG
            replace d6 := (hG.block _ (block_lt d6) (by simpa using n67)).trans d6
            refine hK.out _ _ ?_ (fun hHeld => ?_)
            · exact hHeld.grown hG hHeld.size (by intro k hk; injection hk with hk; omega)
            clear hK K
            try simp only [Act.put, List.setIfInBounds_toArray, List.set_cons_zero, List.set_cons_succ, List.getElem_toArray, List.getElem_cons_succ, List.getElem_cons_zero]
            refine wpAnyH_done (by kernel_rfl) ?_ _
            refine NoPanic.normal ?_
            have N6 := hB1.out _ _ _ d6
            have N7 := hB2.out _ _ _ d7
            have u1 := N6.leaf
            have u2 := N7.leaf
            have u3 := N6.val
            have u4 := N7.val
            have u5 := N6.l
            have u6 := N7.l
            have u7 := N6.r
            have u8 := N7.r
            have k6 := hid N6.key
            have k7 := hid N7.key
            have p1 := hid (rd1.out.bel hHeld)
            have p2 := hid (rd2.out.bel hHeld)
            have W9 := hid (hbw.trans (hHeld.mono hbs.out))
            clear N6 N7 d6 d7 hHeld rd1 rd2 hB1 hB2 hR1 hR2 hbw
            try clear hB
            try clear hG
            try clear e6 e7
            cases fb
            rotate_left
            · have h9 := hid (hno.out (by rw [hall.out]; rfl))
              have ep : ¬ ns[j].leaf = ms[j].leaf := by simpa using e2
              clear hno hyes e2
              go_wp2
              go_ret
              exact ⟨ret_bN h9.out.symm, W0.trans (W9.out.mono W0.size)⟩
            replace e2 : ns[j].leaf = ms[j].leaf := by simpa using e2
            rw [← e2] at u2
            clear e2
            cases kb
            · have h9 := hid (hno.out (by rw [hall.out]; rfl))
              clear hno hyes
              go_wp2_with (first
                | ((with_reducible refine wpList_load_rng ?_ 23 (.tmp 45) rfl g6 1 rfl (ns[j].k.1.map bv) _ ?_ hu rfl hik.out ?_); rfl; exact k6.out)
                | ((with_reducible refine wpList_load_rng ?_ 23 (.tmp 47) rfl g7 1 rfl (ms[j].k.1.map bv) _ ?_ hu rfl hik2.out ?_); rfl; exact k7.out))
              go_ret
              exact ⟨ret_bN h9.out.symm, W0.trans (W9.out.mono W0.size)⟩
            go_wp2_with (first
              | ((with_reducible refine wpList_load_rng ?_ 23 (.tmp 45) rfl g6 1 rfl (ns[j].k.1.map bv) _ ?_ hu rfl hik.out ?_); rfl; exact k6.out)
              | ((with_reducible refine wpList_load_rng ?_ 23 (.tmp 47) rfl g7 1 rfl (ms[j].k.1.map bv) _ ?_ hu rfl hik2.out ?_); rfl; exact k7.out))
            refine (hV.out _ p1.out p2.out).mono ?_
            rintro e w10 ⟨rfl, rfl⟩
            cases vb
            · have h9 := hid (hno.out (by rw [hall.out]; rfl))
              clear hno hyes
              go_wp2
              go_ret
              exact ⟨ret_bN h9.out.symm, W0.trans (W9.out.mono W0.size)⟩
            cases lb
            rotate_left
            · have h9 := hid (hno.out (by rw [hall.out]; rfl))
              have ep : ¬ ns[j].l = ms[j].l := by simpa using e3
              clear hno hyes e3
              go_wp2
              go_ret
              exact ⟨ret_bN h9.out.symm, W0.trans (W9.out.mono W0.size)⟩
            replace e3 : ns[j].l = ms[j].l := by simpa using e3
            rw [← e3] at u6
            clear e3
            cases qb
            rotate_left
            · have h9 := hid (hno.out (by rw [hall.out]; rfl))
              have ep : ¬ ns[j].r = ms[j].r := by simpa using e4
              clear hno hyes e4
              go_wp2
              go_ret
              exact ⟨ret_bN h9.out.symm, W0.trans (W9.out.mono W0.size)⟩
            replace e4 : ns[j].r = ms[j].r := by simpa using e4
            rw [← e4] at u8
            clear e4
            have h9 := hid (hyes.out (by rw [hall.out]; rfl))
            clear hno hyes
            go_wp2
            go_roundw
            case rel => exact ⟨j + 1, by omega, by go_num, h9.out, W9.out⟩
            case measure => simp [intOf]; omega
          exact AllReadyH.nil
        · obtain rfl : j = ns.length := by omega
          have hans : b = true := by
            rw [← hb.out, decide_eq_true]
            rw [List.take_length] at hrel
            rw [hrel, hl.out, List.take_length]
          replace hans := hid hans
          replace hrel := hid hrel
          go_wp2
          go_ret
          exact ⟨ret_bN hans.out.symm, W0.trans (hbw.mono W0.size)⟩
    · have h0 : b = false := by
        rw [← hb, decide_eq_false]
        intro e
        exact hl (by rw [e])
      subst h0
      have hln : ((ns.length : Int) != (ms.length : Int)) = true := by
        have : ¬ ((ns.length : Int) = (ms.length : Int)) := by omega
        simpa using this
      clear hb
      go_enter Tryd.func40, Tryd.ntmps40
      go_wp2
      go_ret
      exact ⟨rfl, W0⟩
end Go.Proofs.YtnoglodggchgpaaDoor
