/-
  The document's answers of layer 6: right, May, Check.
-/
import Derived.Test.YtnoglodggchgpaaDoorRef06a
import Derived.Test.YtnoglodggchgpaaDoorRefD
import Derived.Test.YtnoglodggchgpaaDoorRef04t
namespace Go.Proofs.YtnoglodggchgpaaDoor
open Go.RowKit
set_option linter.unusedVariables false
set_option linter.unusedSimpArgs false
set_option maxRecDepth 100000

theorem RTurn_is (k : Dg) (d : Nat) (hd : d < 256) (u : Value) (hu : u = .agg (k.1.map bv).toArray) (w : World) :
    Calls Tryd.prog 150 #[u, .int .i64 (d : Int)] w fun e w' => e = .returned (.tuple #[.agg ((turnD k d).1.map bv).toArray, .int .i64 0]) ∧ Below w.heap.size w w' := by
  subst hu
  have h := RTurn_any k.1 d w k.2
  rw [show turnV k.1 (d : Int) = turn k.1 d by unfold turnV; rw [if_pos (by omega)]; rfl, show bitE (d : Int) = 0 by unfold bitE; rw [if_pos (by omega)]] at h
  exact h
theorem RShared_is (a b : Dg) (u v : Value) (s : Nat) (hu : u = .agg (a.1.map bv).toArray) (hv : v = .agg (b.1.map bv).toArray) (hs : shared a.1 b.1 = s) (w : World) :
    Calls Tryd.prog 136 #[u, v] w fun e w' => e = .returned (.int .i64 (s : Int)) ∧ Below w.heap.size w w' := by
  subst hu hv hs
  exact RShared_any a.1 b.1 w a.2 b.2
theorem boxesTD (w : World) (A : Option Addr) (n c : Nat) (root : Int) (b : Dg) (t u : TypeId) :
    BoxT ((w.alloc (.cells #[.slice A n c, .int .i64 root] t)).alloc (.cells (b.1.map bv).toArray u)) w.heap.size A n c root ∧ ((w.alloc (.cells #[.slice A n c, .int .i64 root] t)).alloc (.cells (b.1.map bv).toArray u)).rangeAt (w.heap.size + 1) 0 (b.1.map bv) ∧
    Below w.heap.size w ((w.alloc (.cells #[.slice A n c, .int .i64 root] t)).alloc (.cells (b.1.map bv).toArray u)) := by
  have h1 := BoxT.new w A n c root t
  have h2 := rangeOf (heap_alloc_new (w.alloc (.cells #[.slice A n c, .int .i64 root] t)) (.cells (b.1.map bv).toArray u))
  rw [World.size_alloc] at h2
  exact ⟨h1.bel (ext_alloc _ _), h2, ext_trans (ext_alloc _ _) (ext_alloc _ _)⟩

theorem xnew_ {w0 w4 : World} {o : Obj} {k : Nat} (hk : k = w0.heap.size) (hb : (w0.alloc o).grownBy w4 (some k)) : Below w0.heap.size w0 w4 :=
  (ext_alloc w0 o).grown hb (ext_alloc w0 o).size (fun g e => by injection e with e; omega)
set_option maxHeartbeats 4000000 in
theorem RRight_step (F : Nat → Prop) (A : Option Addr) (c : Nat) (ns : List Nd) (root : Int) (ho : Ones ns) (hc : ns.length ≤ 9223372036854775807) (e d : Nat) (n : Int) (b : Dg) (w : World) (hd : e + d = 256) (h0 : 0 ≤ n) (hn : n ≤ ns.length) (hr : Row F w A ns)
    (ih : ∀ f, e = f + 1 → ∀ (n : Int) (b : Dg) (w : World), 0 ≤ n → n ≤ ns.length → Row F w A ns →
      Calls Tryd.prog 123 #[.agg #[.slice A ns.length c, .int .i64 root], .int .i64 n, .int .i64 ((d : Int) + 1), .agg (b.1.map bv).toArray] w fun r w' => r = .returned (.int .i64 (rgt ns f n b)) ∧ Below w.heap.size w w') :
    Calls Tryd.prog 123 #[.agg #[.slice A ns.length c, .int .i64 root], .int .i64 n, .int .i64 (d : Int), .agg (b.1.map bv).toArray] w fun r w' => r = .returned (.int .i64 (rgt ns e n b)) ∧ Below w.heap.size w w' := by
  obtain ⟨hb0, hk0, W0⟩ := boxesTD w A ns.length c root b 44 23
  have hu := Tryd.underlying23
  have hun := Tryd.underlying50
  have hut := Tryd.underlying44
  by_cases hz : n = 0
  · subst hz
    rw [rgt_zero]
    go_enter Tryd.func123, Tryd.ntmps123
    go_wp2
    go_ret
    exact ⟨rfl, W0⟩
  · obtain ⟨j, hj, rfl, hx, h1⟩ := ones_at ho (by omega) hn
    have hr0 := hr.bel W0
    obtain ⟨q, o, rfl, A', c', hR, hv1, hv2, hv3, hI1, hI2⟩ := row_nd hr0 hj
    have hw : IntKind.i64.wrap ((j : Int) + 1 - 1) = j := by rw [IntKind.wrap_i64]; omega
    have hne : ((j : Int) + 1 == 0) = false := beq_eq_false_iff_ne.2 hz
    obtain ⟨ans, hans⟩ : ∃ ans, rgt ns e ((j : Int) + 1) b = ans := ⟨_, rfl⟩
    rw [hans]
    have hA := hans
    have hi := hid (sizeDgT b)
    have hiN := hid (show (Tryd.prog.info? 50).map (·.size) = some (ndC ns[j] A' c').length by rw [len_nd]; exact sizeNd)
    have hiS := hid (show (Tryd.prog.info? 50).map (·.size) = some (ndC ns[j] A' c').toArray.size by rw [List.size_toArray, len_nd]; exact sizeNd)
    have hzs := hid (show zNdC.size = (ndC ns[j] A' c').toArray.size by rw [zSizeNd, List.size_toArray, len_nd])
    have hone := hid (one_nd ns[j] A' c')
    have hz9 := hid (heap_alloc_new ((w.alloc (.cells #[.slice (some ⟨q, o, none⟩) ns.length c, .int .i64 root] 44)).alloc (.cells (b.1.map bv).toArray 23)) (.cells zNdC 50))
    replace hR := hid hR
    replace hr0 := hid hr0
    have hbT := hb0.ns
    replace hb0 := hid hb0
    replace hk0 := hid hk0
    cases hl : ns[j].leaf with
    | true =>
      rw [rgt_leaf hz (by rw [hx]; exact hl), hx] at hA
      obtain ⟨s, hs⟩ : ∃ s, shared ns[j].k.1 b.1 = s := ⟨_, rfl⟩
      have hs256 := shared_le ns[j].k.1 b.1
      rw [hs] at hA hs256
      have hik := hid (sizeDgT ns[j].k)
      have hS := fun W => RShared_is ns[j].k b _ _ s rfl rfl hs W
      clear hs hans
      replace hA := hid hA
      go_enter Tryd.func123, Tryd.ntmps123
      go_wp2_with (first
        | (with_reducible refine wpList_alloc_row rfl 50 rfl zNdC zInfoNd ?_)
        | ((with_reducible refine wpList_load_rng rfl 50 (.tmp 20) rfl q (o + j * 36) rfl (ndC ns[j] A' c') _ ?_ hun rfl hiN.out ?_); exact hR.out)
        | ((with_reducible refine wpList_store_row rfl 50 (.tmp 9) (.tmp 21) rfl _ _ rfl rfl 50 zNdC ?_ ?_ ?_ ?_ ?_); exact hz9.out; exact hiS.out; exact hzs.out; exact hone.out; intro w4 hg4 hb4 hs4; simp only [World.size_alloc] at hg4 hb4; have X4 := hid (xnew_ (by simp) hb4); have N4 := BoxN.heap hg4; have y1 := N4.leaf; rw [hl] at y1; have y2 := N4.l; have y3 := N4.r; have T4 := hb0.out.bel X4.out; have b4 := rangeBel2 X4.out hk0.out; have y4 := T4.ns; have y5 := T4.rt; have W4 := hid (W0.trans (X4.out.mono W0.size)); clear hg4 hb4 hs4)
        | ((with_reducible refine wpList_load_rng rfl 23 (.tmp 24) rfl _ 1 rfl (ns[j].k.1.map bv) _ ?_ hu rfl hik.out ?_); exact N4.key)
        | ((with_reducible refine wpList_load_rng rfl 23 (.tmp 7) rfl (w.heap.size + 1) 0 rfl (b.1.map bv) _ ?_ hu rfl hi.out ?_); exact b4))
      refine (hS _).mono ?_
      rintro r w5 ⟨rfl, hb5⟩
      have W5 := hid (W4.out.trans (hb5.mono W4.out.size))
      by_cases hsd : s < d
      · have e1 : ans = -1 := by rw [← hA.out, if_pos (by omega)]
        subst e1
        go_wp2
        go_ret
        exact ⟨rfl, W5.out⟩
      · have e1 : ans = 1 := by rw [← hA.out, if_neg (by omega)]
        subst e1
        go_wp2
        go_ret
        exact ⟨rfl, W5.out⟩
    | false =>
      obtain ⟨k1, k2, k3, k4, k5, k6, k7⟩ := one_fork h1 hl
      cases e with
      | zero =>
        rw [rgt_end hz (by rw [hx]; exact hl)] at hA
        obtain rfl : d = 256 := by omega
        subst hA
        go_enter Tryd.func123, Tryd.ntmps123
        go_wp2_with (first
          | (with_reducible refine wpList_alloc_row rfl 50 rfl zNdC zInfoNd ?_)
          | ((with_reducible refine wpList_load_rng rfl 50 (.tmp 20) rfl q (o + j * 36) rfl (ndC ns[j] A' c') _ ?_ hun rfl hiN.out ?_); exact hR.out)
          | ((with_reducible refine wpList_store_row rfl 50 (.tmp 9) (.tmp 21) rfl _ _ rfl rfl 50 zNdC ?_ ?_ ?_ ?_ ?_); exact hz9.out; exact hiS.out; exact hzs.out; exact hone.out; intro w4 hg4 hb4 hs4; simp only [World.size_alloc] at hg4 hb4; have X4 := hid (xnew_ (by simp) hb4); have N4 := BoxN.heap hg4; have y1 := N4.leaf; rw [hl] at y1; have y2 := N4.l; have y3 := N4.r; have T4 := hb0.out.bel X4.out; have b4 := rangeBel2 X4.out hk0.out; have y4 := T4.ns; have y5 := T4.rt; have W4 := hid (W0.trans (X4.out.mono W0.size)); clear hg4 hb4 hs4))
        go_ret
        exact ⟨rfl, W4.out⟩
      | succ f =>
        rw [rgt_fork hz (by rw [hx]; exact hl), hx] at hA
        have hfd : 255 - f = d := by omega
        have hd2 : d < 256 := by omega
        rw [hfd] at hA
        have hge : decide ((256 : Int) ≤ (d : Int)) = false := decide_eq_false (by omega)
        have hwd : IntKind.i64.wrap ((d : Int) + 1) = d + 1 := by rw [IntKind.wrap_i64]; omega
        have hT := fun W => RTurn_is b d hd2 _ rfl W
        have iL := fun W => ih f rfl ns[j].l b W k1 (by omega)
        have iR := fun W => ih f rfl ns[j].r (turnD b d) W k3 (by omega)
        have rL := @rgt_le ns f ns[j].l b
        have rR := @rgt_le ns f ns[j].r (turnD b d)
        have lt2 := hid (sizeDgT (turnD b d))
        have one2 := bvs_all (turnD b d).1
        have z1 : (((turnD b d).1.map bv).toArray).size = 32 := by simp [(turnD b d).2]
        generalize rgt ns f ns[j].l b = ra at *
        generalize rgt ns f ns[j].r (turnD b d) = rb at *
        generalize (turnD b d).1.map bv = dt at *
        clear hans ih
        replace iL := hid iL
        replace iR := hid iR
        replace hA := hid hA
        go_enter Tryd.func123, Tryd.ntmps123
        go_wp2_with (first
          | (with_reducible refine wpList_alloc_row rfl 50 rfl zNdC zInfoNd ?_)
          | ((with_reducible refine wpList_load_rng rfl 50 (.tmp 20) rfl q (o + j * 36) rfl (ndC ns[j] A' c') _ ?_ hun rfl hiN.out ?_); exact hR.out)
          | ((with_reducible refine wpList_store_row rfl 50 (.tmp 9) (.tmp 21) rfl _ _ rfl rfl 50 zNdC ?_ ?_ ?_ ?_ ?_); exact hz9.out; exact hiS.out; exact hzs.out; exact hone.out; intro w4 hg4 hb4 hs4; simp only [World.size_alloc] at hg4 hb4; have X4 := hid (xnew_ (by simp) hb4); have N4 := BoxN.heap hg4; have y1 := N4.leaf; rw [hl] at y1; have y2 := N4.l; have y3 := N4.r; have T4 := hb0.out.bel X4.out; have b4 := rangeBel2 X4.out hk0.out; have y4 := T4.ns; have y5 := T4.rt; have W4 := hid (W0.trans (X4.out.mono W0.size)); clear hg4 hb4 hs4)
          | ((with_reducible refine wpList_load_rng rfl 23 (.tmp 7) rfl (w.heap.size + 1) 0 rfl (b.1.map bv) _ ?_ hu rfl hi.out ?_); exact b4))
        refine (hT _).mono ?_
        rintro r w5 ⟨rfl, hb5⟩
        have W5 := hid (W4.out.trans (hb5.mono W4.out.size))
        have N5 := N4.bel hb5
        have T5 := T4.bel hb5
        have b5 := rangeBel2 hb5 b4
        have r5 := (hr0.out.bel X4.out).bel hb5
        have e5 := hid (heap_alloc_new w5 (.cells z32 23))
        have hiT := hid (show (Tryd.prog.info? 44).map (·.size) = some ([Value.slice (some ⟨q, o, none⟩) ns.length c, .int .i64 root]).length from sizeTr)
        clear N4 T4 b4 y1 y2 y3 y4 y5 hb5 hT X4 W4 hz9 hb0 hk0 hr0 hR
        go_wp2_with (first
          | (with_reducible refine wpList_alloc_row rfl 23 rfl z32 info32 ?_)
          | ((with_reducible refine wpList_store_row rfl 23 (.tmp 10) (.tmp 36) rfl _ _ rfl rfl 23 z32 ?_ ?_ ?_ ?_ ?_); exact e5.out; (rw [z1]; exact size32); (rw [z1]; exact z32_size); exact one2; intro w6 hg6 hb6 hs6; have X6 := hid (xnew_ rfl hb6); have N6 := N5.bel X6.out; have T6 := T5.bel X6.out; have b6 := rangeBel2 X6.out b5; have r6 := hid (r5.bel X6.out); have d6 := rangeOf hg6; have y2 := N6.l; have y3 := N6.r; have W6 := hid (W5.out.trans (X6.out.mono W5.out.size)); clear hg6 hb6 hs6)
          | ((with_reducible refine wpList_load_rng rfl 44 (.tmp 4) rfl w.heap.size 0 rfl [Value.slice (some ⟨q, o, none⟩) ns.length c, .int .i64 root] _ ?_ hut rfl hiT.out ?_); exact T6.all)
          | ((with_reducible refine wpList_load_rng rfl 23 (.tmp 7) rfl (w.heap.size + 1) 0 rfl (b.1.map bv) _ ?_ hu rfl hi.out ?_); exact b6))
        refine (iL.out _ r6.out).mono ?_
        rintro r w7 ⟨rfl, hb7⟩
        have N7 := N6.bel hb7
        have T7 := T6.bel hb7
        have d7 := rangeBel2 hb7 d6
        have r7 := hid (r6.out.bel hb7)
        have W7 := hid (W6.out.trans (hb7.mono W6.out.size))
        have y7 := N7.r
        clear N5 T5 b5 r5 N6 T6 b6 d6 y2 y3 hb7 X6 W5 W6 iL e5
        by_cases hra : ra < 0
        · have e1 : ans = -1 := by rw [← hA.out, if_pos hra]
          subst e1
          go_wp2
          go_ret
          exact ⟨rfl, W7.out⟩
        go_wp2_with (first
          | ((with_reducible refine wpList_load_rng rfl 44 (.tmp 4) rfl w.heap.size 0 rfl [Value.slice (some ⟨q, o, none⟩) ns.length c, .int .i64 root] _ ?_ hut rfl hiT.out ?_); exact T7.all)
          | ((with_reducible refine wpList_load_rng rfl 23 (.tmp 10) rfl w5.heap.size 0 rfl dt _ ?_ hu rfl lt2.out ?_); exact d7))
        refine (iR.out _ r7.out).mono ?_
        rintro r w8 ⟨rfl, hb8⟩
        have W8 := hid (W7.out.trans (hb8.mono W7.out.size))
        by_cases hrb : rb < 0
        · have e1 : ans = -1 := by rw [← hA.out, if_neg (by omega), if_pos (.inl hrb)]
          subst e1
          go_wp2
          go_ret
          exact ⟨rfl, W8.out⟩
        have hrbf : decide (rb < 0) = false := decide_eq_false hrb
        have hww : IntKind.i64.wrap (ra + rb) = ra + rb := by rw [IntKind.wrap_i64]; omega
        by_cases hab : ra + rb < 2
        · have e1 : ans = -1 := by rw [← hA.out, if_neg (by omega), if_pos (.inr hab)]
          subst e1
          go_wp2
          go_ret
          exact ⟨rfl, W8.out⟩
        · have e1 : ans = 2 := by rw [← hA.out, if_neg (by omega), if_neg (by omega)]
          subst e1
          go_wp2
          go_ret
          exact ⟨rfl, W8.out⟩
theorem RRight_any (F : Nat → Prop) (A : Option Addr) (c : Nat) (ns : List Nd) (root : Int) (ho : Ones ns) (hc : ns.length ≤ 9223372036854775807) : ∀ (e d : Nat) (n : Int) (b : Dg) (w : World), e + d = 256 → 0 ≤ n → n ≤ ns.length → Row F w A ns →
    Calls Tryd.prog 123 #[.agg #[.slice A ns.length c, .int .i64 root], .int .i64 n, .int .i64 (d : Int), .agg (b.1.map bv).toArray] w fun r w' => r = .returned (.int .i64 (rgt ns e n b)) ∧ Below w.heap.size w w'
  | 0, d, n, b, w, hd, h0, hn, hr => RRight_step F A c ns root ho hc 0 d n b w hd h0 hn hr fun f hf => by omega
  | e + 1, d, n, b, w, hd, h0, hn, hr => RRight_step F A c ns root ho hc (e + 1) d n b w hd h0 hn hr fun f hf n b w h0 hn hr => by
    obtain rfl : e = f := by omega
    have := RRight_any F A c ns root ho hc e (d + 1) n b w (by omega) h0 hn hr
    exact this

theorem ones_iff {ns : List Nd} : Ones ns ↔ ∀ i (h : i < ns.length), oneN ns[i] i = true := Iff.rfl
set_option maxHeartbeats 4000000 in
theorem RMayT_any (F : Nat → Prop) (A : Option Addr) (c : Nat) (ns : List Nd) (root : Int) (w : World) (hr : Row F w A ns) (hc : ns.length ≤ 9223372036854775807) :
    Calls Tryd.prog 81 #[.agg #[.slice A ns.length c, .int .i64 root]] w fun e w' => e = .returned (.bool (mayT ⟨ns, root⟩)) ∧ Below w.heap.size w w' := by
  obtain ⟨ans, ha⟩ : ∃ ans, mayT ⟨ns, root⟩ = ans := ⟨_, rfl⟩
  have hM : mayT ⟨ns, root⟩ = decide (ns.length ≤ 262144 ∧ 0 ≤ root ∧ root ≤ ns.length ∧ Ones ns ∧ 0 ≤ rgt ns 256 root z0) := rfl
  rw [ha] at hM ⊢
  clear ha
  have no : ¬ (ns.length ≤ 262144 ∧ 0 ≤ root ∧ root ≤ ns.length ∧ Ones ns ∧ 0 ≤ rgt ns 256 root z0) → false = ans := fun h => by rw [hM, decide_eq_false h]
  have yes : ns.length ≤ 262144 → 0 ≤ root → root ≤ ns.length → Ones ns → decide (0 ≤ rgt ns 256 root z0) = ans := fun h1 h2 h3 h4 => by rw [hM]; simp [h1, h2, h3, h4]
  replace no := hid no
  replace yes := hid yes
  clear hM
  have T0 := BoxT.new w A ns.length c root 44
  have W0 := ext_alloc w (.cells #[.slice A ns.length c, .int .i64 root] 44)
  have hr0 := hr.bel W0
  have y0 := T0.ns
  have y1 := T0.rt
  have hut := Tryd.underlying44
  have hun := Tryd.underlying50
  have hiT := hid (show (Tryd.prog.info? 44).map (·.size) = some ([Value.slice A ns.length c, .int .i64 root]).length from sizeTr)
  have hz := hid built_dg0
  by_cases h1 : 262144 < ns.length
  · replace no := hid (no.out (by omega))
    go_enter Tryd.func81, Tryd.ntmps81
    go_wp2
    go_ret
    exact ⟨ret_b no.out, W0⟩
  by_cases h2 : root < 0
  · replace no := hid (no.out (by omega))
    go_enter Tryd.func81, Tryd.ntmps81
    go_wp2
    go_ret
    exact ⟨ret_b no.out, W0⟩
  by_cases h3 : (ns.length : Int) < root
  · replace no := hid (no.out (by omega))
    go_enter Tryd.func81, Tryd.ntmps81
    go_wp2
    go_ret
    exact ⟨ret_b no.out, W0⟩
  have q1 : decide ((262144 : Int) < (ns.length : Int)) = false := decide_eq_false (by omega)
  have q2 : decide (root < 0) = false := decide_eq_false (by omega)
  have q3 : decide ((ns.length : Int) < root) = false := decide_eq_false (by omega)
  go_enter Tryd.func81, Tryd.ntmps81
  go_wp2
  generalize w.alloc (.cells #[.slice A ns.length c, .int .i64 root] 44) = w0 at *
  go_loopw [3] (fun i wr => ∃ k : Nat, k ≤ ns.length ∧ i = .int .i64 k ∧ (∀ i (h : i < ns.length), i < k → oneN ns[i] i = true) ∧ Below w0.heap.size w0 wr) (fun i _ => ns.length - (intOf i).toNat)
  case atStart => exact ⟨0, Nat.zero_le _, rfl, fun i _ hi => absurd hi (by omega), Below.refl _ _⟩
  case round =>
    obtain ⟨k, hk, rfl, hrel, hbw⟩ := hrel
    have T1 := T0.bel hbw
    have y2 := T1.ns
    have y3 := T1.rt
    have hr1 := hr0.bel hbw
    by_cases hlt : k < ns.length
    · obtain ⟨q, o, hAe, A', c', hR, hv1, hv2, hv3, hI1, hI2⟩ := row_nd hr1 hlt
      subst hAe
      have hiN := hid (show (Tryd.prog.info? 50).map (·.size) = some (ndC ns[k] A' c').length by rw [len_nd]; exact sizeNd)
      have hO := fun W => ROne_any F ns[k] A' c' k W (by unfold maxLen at hv2; omega) (by omega)
      have hnext : oneN ns[k] k = true → ∀ i (h : i < ns.length), i < k + 1 → oneN ns[i] i = true := fun h i hi hi2 => by
        rcases Nat.lt_or_ge i k with h3 | h3
        · exact hrel i hi h3
        · obtain rfl : i = k := by omega
          exact h
      have hbad : oneN ns[k] k = false → false = ans := fun h => no.out fun q => by have := q.2.2.2.1 k hlt; rw [h] at this; cases this
      generalize oneN ns[k] k = ok at *
      generalize ndC ns[k] A' c' = cs at *
      replace hnext := hid hnext
      replace hbad := hid hbad
      replace hrel := trivial
      replace hR := hid hR
      go_wp2_with (first
        | ((with_reducible refine wpList_load_rng rfl 50 (.tmp 31) rfl q (o + k * 36) rfl cs _ ?_ hun rfl hiN.out ?_); exact hR.out))
      refine (hO _).mono ?_
      rintro e w2 ⟨rfl, hb2⟩
      have W2 := hid (hbw.trans (hb2.mono hbw.size))
      cases ok
      · go_wp2
        go_ret
        exact ⟨ret_b (hbad.out (by trivial)), W0.trans (W2.out.mono W0.size)⟩
      · go_wp2
        go_roundw
        case rel => exact ⟨k + 1, by omega, by go_num, hnext.out (by trivial), W2.out⟩
        case measure => simp [intOf]; omega
    · obtain rfl : k = ns.length := by omega
      have ho : Ones ns := fun i hi => hrel i hi hi
      have hR := fun W hW => RRight_any F A c ns root ho hc 256 0 root z0 W rfl (by omega) (by omega) hW
      have hy := yes.out (by omega) (by omega) (by omega) ho
      generalize rgt ns 256 root z0 = rv at *
      generalize z0.1.map bv = dz at *
      replace hR := hid hR
      replace hr1 := hid hr1
      replace hrel := trivial
      go_wp2_with (first
        | ((with_reducible refine wpList_load_rng rfl 44 (.tmp 1) rfl w.heap.size 0 rfl [Value.slice A ns.length c, .int .i64 root] _ ?_ hut rfl hiT.out ?_); exact T1.all)
        | ((with_reducible refine wpList_built rfl 23 _ rfl dz.toArray [] ?_ ?_ ?_); exact hz.out; rfl))
      refine (hR.out _ hr1.out).mono ?_
      rintro e w2 ⟨rfl, hb2⟩
      go_wp2
      go_ret
      exact ⟨ret_b (by first | rfl | exact hy), W0.trans ((hbw.trans (hb2.mono hbw.size)).mono W0.size)⟩
theorem RMayT_is (F : Nat → Prop) (A : Option Addr) (c : Nat) (ns : List Nd) (root : Int) (m : Bool) (w : World) (hr : Row F w A ns) (hc : ns.length ≤ 9223372036854775807) (hm : mayT ⟨ns, root⟩ = m) :
    Calls Tryd.prog 81 #[.agg #[.slice A ns.length c, .int .i64 root]] w fun e w' => e = .returned (.bool m) ∧ Below w.heap.size w w' := by
  subst hm
  exact RMayT_any F A c ns root w hr hc
end Go.Proofs.YtnoglodggchgpaaDoor
