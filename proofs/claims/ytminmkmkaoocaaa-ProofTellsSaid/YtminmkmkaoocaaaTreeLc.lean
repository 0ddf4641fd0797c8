/-
  Contracts of the landed package tree: single, isRight.
-/
import Derived.Test.YtminmkmkaoocaaaTreeLb
import Derived.Test.YtminmkmkaoocaaaRoad
namespace Go.Proofs.Ytminmkmkaoocaaa
open Go.RowKit
set_option linter.unusedVariables false
set_option linter.unusedSimpArgs false
set_option maxRecDepth 100000

theorem sizeTrie : (Try.prog.info? 60).map (·.size) = some 2 := by kernel_rfl
theorem key_extract (x : Nd) (A : Option Addr) (c : Nat) : (ndC x A c).toArray.extract 1 33 = (x.k.1.map bv).toArray := by
  apply Array.ext'
  have hl : (x.k.1.map bv).length = 32 := by rw [List.length_map]; exact x.k.2
  simp only [Array.toList_extract, ndC, List.cons_append, List.nil_append, List.extract_eq_take_drop, List.drop_succ_cons, List.drop_zero]
  rw [List.take_append_of_le_length (by omega), List.take_of_length_le (by omega)]
theorem field_key (x : Nd) (A : Option Addr) (c : Nat) (w : World) : (Instr.field 54 (.agg (ndC x A c).toArray) 1).run Try.prog w = .ok (.agg (x.k.1.map bv).toArray) w := by
  rw [← key_extract x A c]
  simp [Instr.field, underlying, Try.underlying54, asAgg, part, isAgg, Try.underlying26, sizeOf]
  rfl
theorem index2_0 (a b : Int) (W : World) : (Instr.index 82 (.agg #[.int .i64 a, .int .i64 b]) (.int .i64 0)).run Try.prog W = .ok (.int .i64 a) W := by kernel_rfl
theorem index2_1 (a b : Int) (W : World) : (Instr.index 82 (.agg #[.int .i64 a, .int .i64 b]) (.int .i64 1)).run Try.prog W = .ok (.int .i64 b) W := by kernel_rfl
theorem boxesT2 (w : World) (A : Option Addr) (n c : Nat) (root a b : Int) (t u : TypeId) :
    BoxT ((w.alloc (.cells #[.slice A n c, .int .i64 root] t)).alloc (.cells #[.int .i64 a, .int .i64 b] u)) w.heap.size A n c root ∧ ((w.alloc (.cells #[.slice A n c, .int .i64 root] t)).alloc (.cells #[.int .i64 a, .int .i64 b] u)).rangeAt (w.heap.size + 1) 0 [.int .i64 a, .int .i64 b] ∧
    Below w.heap.size w ((w.alloc (.cells #[.slice A n c, .int .i64 root] t)).alloc (.cells #[.int .i64 a, .int .i64 b] u)) := by
  have h1 := BoxT.new w A n c root t
  have h2 := rangeOf (l := [Value.int .i64 a, .int .i64 b]) (heap_alloc_new (w.alloc (.cells #[.slice A n c, .int .i64 root] t)) (.cells #[.int .i64 a, .int .i64 b] u))
  rw [World.size_alloc] at h2
  exact ⟨h1.bel (ext_alloc _ _), h2, ext_trans (ext_alloc _ _) (ext_alloc _ _)⟩

set_option maxHeartbeats 1600000 in
theorem PSingle_any (F : Nat → Prop) (A : Option Addr) (c : Nat) (ns : List Nd) (root a b : Int) (w : World) (hr : Row F w A ns) (ha0 : 0 ≤ a) (ha : a ≤ ns.length) (hb0 : 0 ≤ b) (hb : b ≤ ns.length) (hc : ns.length ≤ 9223372036854775807) :
    Calls Try.prog 61 #[.agg #[.slice A ns.length c, .int .i64 root], .agg #[.int .i64 a, .int .i64 b]] w fun e w' => e = .returned (.int .i64 (singleP ns a b)) ∧ Below w.heap.size w w' := by
  obtain ⟨T0, h20, W0⟩ := boxesT2 w A ns.length c root a b 60 82
  have hr0 := hr.bel W0
  have hut := Try.underlying60
  have hu2 := Try.underlying82
  have hiT := hid (show (Try.prog.info? 60).map (·.size) = some ([Value.slice A ns.length c, .int .i64 root]).length from sizeTrie)
  have hi2 := hid (show (Try.prog.info? 82).map (·.size) = some ([Value.int .i64 a, .int .i64 b]).length from size2)
  have hLa := fun W hW => PIsLeaf_any F A c ns root a W hW ha0 ha hc
  have hLb := fun W hW => PIsLeaf_any F A c ns root b W hW hb0 hb hc
  obtain ⟨ans, hans⟩ : ∃ ans, singleP ns a b = ans := ⟨_, rfl⟩
  rw [hans]
  unfold singleP at hans
  generalize leafB ns a = la at *
  generalize leafB ns b = lb at *
  have x0 := fun W => index2_0 a b W
  have x1 := fun W => index2_1 a b W
  replace hans := hid hans
  replace hLa := hid hLa
  replace hLb := hid hLb
  clear hr
  go_enter Try.func61, Try.ntmps61
  go_wp2_with (first
    | ((with_reducible refine wpList_load_rng rfl 82 (.tmp 3) rfl (w.heap.size + 1) 0 rfl [Value.int .i64 a, .int .i64 b] _ ?_ hu2 rfl hi2.out ?_); exact h20))
  generalize (w.alloc (.cells #[.slice A ns.length c, .int .i64 root] 60)).alloc (.cells #[.int .i64 a, .int .i64 b] 82) = w0 at *
  go_loopw [8] (fun i wr => ∃ k : Nat, k ≤ 2 ∧ i = .int .i64 k ∧ (1 ≤ k → (la && decide (b = 0)) = false) ∧ (2 ≤ k → (lb && decide (a = 0)) = false) ∧ Below w0.heap.size w0 wr) (fun i _ => 2 - (intOf i).toNat)
  case atStart => exact ⟨0, by omega, rfl, fun h => by omega, fun h => by omega, Below.refl _ _⟩
  case round =>
    obtain ⟨k, hk, rfl, h1, h2, hbw⟩ := hrel
    have T1 := T0.bel hbw
    have h21 := rangeBel2 hbw h20
    have hr1 := hr0.bel hbw
    rcases (show k = 0 ∨ k = 1 ∨ k = 2 by omega) with rfl | rfl | rfl
    · clear h1 h2
      go_wp2_with (first
        | ((with_reducible refine wpList_load_rng rfl 60 (.tmp 2) rfl w.heap.size 0 rfl [Value.slice A ns.length c, .int .i64 root] _ ?_ hut rfl hiT.out ?_); exact T1.all))
      refine (hLa.out _ hr1).mono ?_
      rintro e w2 ⟨rfl, hb2⟩
      have q0 := (rangeBel2 hb2 h21) 0 _ rfl
      have q1 := (rangeBel2 hb2 h21) 1 _ rfl
      rw [Nat.zero_add] at q0 q1
      have W2 := hid (hbw.trans (hb2.mono hbw.size))
      have i1 : IntKind.i64.wrap ((1 : Int) - 0) = 1 := by decide
      cases la
      · go_wp2
        go_roundw
        case rel => exact ⟨1, by omega, by go_num, fun _ => rfl, fun h => by omega, W2.out⟩
        case measure => simp [intOf]
      · by_cases hb : b = 0
        · have e1 : ans = a := by rw [← hans.out]; simp [hb]
          subst hb
          subst e1
          go_wp2
          go_ret
          exact ⟨rfl, W0.trans (W2.out.mono W0.size)⟩
        · have e2 : (b == 0) = false := beq_eq_false_iff_ne.2 hb
          go_wp2
          go_roundw
          case rel => exact ⟨1, by omega, by go_num, fun _ => by simp [hb], fun h => by omega, W2.out⟩
          case measure => simp [intOf]
    · have h1 := hid (h1 (by omega))
      clear h2
      go_wp2_with (first
        | ((with_reducible refine wpList_load_rng rfl 60 (.tmp 2) rfl w.heap.size 0 rfl [Value.slice A ns.length c, .int .i64 root] _ ?_ hut rfl hiT.out ?_); exact T1.all))
      refine (hLb.out _ hr1).mono ?_
      rintro e w2 ⟨rfl, hb2⟩
      have q0 := (rangeBel2 hb2 h21) 0 _ rfl
      have q1 := (rangeBel2 hb2 h21) 1 _ rfl
      rw [Nat.zero_add] at q0 q1
      have W2 := hid (hbw.trans (hb2.mono hbw.size))
      have i1 : IntKind.i64.wrap ((1 : Int) - 1) = 0 := by decide
      cases lb
      · go_wp2
        go_roundw
        case rel => exact ⟨2, by omega, by go_num, fun _ => h1.out, fun _ => rfl, W2.out⟩
        case measure => simp [intOf]
      · by_cases hb : a = 0
        · have e1 : ans = b := by rw [← hans.out, if_neg (by rw [h1.out]; decide)]; simp [hb]
          subst hb
          subst e1
          go_wp2
          go_ret
          exact ⟨rfl, W0.trans (W2.out.mono W0.size)⟩
        · have e2 : (a == 0) = false := beq_eq_false_iff_ne.2 hb
          go_wp2
          go_roundw
          case rel => exact ⟨2, by omega, by go_num, fun _ => h1.out, fun _ => by simp [hb], W2.out⟩
          case measure => simp [intOf]
    · have e1 : ans = 0 := by rw [← hans.out, if_neg (by rw [h1 (by omega)]; decide), if_neg (by rw [h2 (by omega)]; decide)]
      subst e1
      clear h1 h2
      go_wp2
      go_ret
      exact ⟨rfl, W0.trans (hbw.mono W0.size)⟩

theorem xnewP {w0 w4 : World} {o : Obj} {k : Nat} (hk : k = w0.heap.size) (hb : (w0.alloc o).grownBy w4 (some k)) : Below w0.heap.size w0 w4 :=
  (ext_alloc w0 o).grown hb (ext_alloc w0 o).size (fun g e => by injection e with e; omega)
theorem boxesTDp (w : World) (A : Option Addr) (n c : Nat) (root : Int) (b : Dg) (t u : TypeId) :
    BoxT ((w.alloc (.cells #[.slice A n c, .int .i64 root] t)).alloc (.cells (b.1.map bv).toArray u)) w.heap.size A n c root ∧ ((w.alloc (.cells #[.slice A n c, .int .i64 root] t)).alloc (.cells (b.1.map bv).toArray u)).rangeAt (w.heap.size + 1) 0 (b.1.map bv) ∧
    Below w.heap.size w ((w.alloc (.cells #[.slice A n c, .int .i64 root] t)).alloc (.cells (b.1.map bv).toArray u)) := by
  have h1 := BoxT.new w A n c root t
  have h2 := rangeOf (heap_alloc_new (w.alloc (.cells #[.slice A n c, .int .i64 root] t)) (.cells (b.1.map bv).toArray u))
  rw [World.size_alloc] at h2
  exact ⟨h1.bel (ext_alloc _ _), h2, ext_trans (ext_alloc _ _) (ext_alloc _ _)⟩
theorem PShared_is (a b : Dg) (u v : Value) (s : Nat) (hu : u = .agg (a.1.map bv).toArray) (hv : v = .agg (b.1.map bv).toArray) (hs : shared a.1 b.1 = s) (w : World) :
    Calls Try.prog 65 #[u, v] w fun e w' => e = .returned (.int .i64 (s : Int)) ∧ Below w.heap.size w w' := by
  subst hu hv hs
  exact PShared_any a.1 b.1 w a.2 b.2
theorem PTurn_is (k : Dg) (d : Nat) (hd : d < 256) (u : Value) (hu : u = .agg (k.1.map bv).toArray) (w : World) :
    Calls Try.prog 66 #[u, .int .i64 (d : Int)] w fun e w' => e = .returned (.tuple #[.agg ((turnD k d).1.map bv).toArray, .int .i64 0]) ∧ Below w.heap.size w w' := by
  subst hu
  have h := PTurn_any k.1 d w k.2
  rw [show turnV k.1 (d : Int) = turn k.1 d by unfold turnV; rw [if_pos (by omega)]; rfl, show bitE (d : Int) = 0 by unfold bitE; rw [if_pos (by omega)]] at h
  exact h
theorem rgt_kind {ns : List Nd} {e : Nat} {n : Int} {b : Dg} (h : 0 ≤ rgt ns e n b) : (n = 0 ∧ rgt ns e n b = 0) ∨ (n ≠ 0 ∧ (ndAt ns n).leaf = true ∧ rgt ns e n b = 1) ∨ (n ≠ 0 ∧ (ndAt ns n).leaf = false ∧ rgt ns e n b = 2) := by
  by_cases hz : n = 0
  · subst hz; exact .inl ⟨rfl, rgt_zero⟩
  · cases hl : (ndAt ns n).leaf with
    | true =>
      refine .inr (.inl ⟨hz, rfl, ?_⟩)
      rw [rgt_leaf hz hl] at h ⊢
      split at h
      · omega
      · rename_i q; rw [if_neg q]
    | false =>
      obtain ⟨_, _, _, _, _, h5⟩ := fork_parts hz hl h
      exact .inr (.inr ⟨hz, rfl, h5⟩)
/-- A fork is right where its two are, and no leaf stands alone behind it. -/
theorem right_single {ns : List Nd} {f : Nat} {l r : Int} {b b' : Dg} (hno : ¬ (l = 0 ∧ r = 0)) :
    decide (0 ≤ (if rgt ns f l b < 0 then (-1 : Int) else if rgt ns f r b' < 0 ∨ rgt ns f l b + rgt ns f r b' < 2 then -1 else 2)) = (decide (singleP ns l r = 0) && (decide (0 ≤ rgt ns f l b) && decide (0 ≤ rgt ns f r b'))) := by
  by_cases ha : rgt ns f l b < 0
  · rw [if_pos ha, decide_eq_false (show ¬ 0 ≤ rgt ns f l b by omega), Bool.false_and, Bool.and_false]; rfl
  · rw [if_neg ha, decide_eq_true (show 0 ≤ rgt ns f l b by omega), Bool.true_and]
    by_cases hb : rgt ns f r b' < 0
    · rw [if_pos (.inl hb), decide_eq_false (show ¬ 0 ≤ rgt ns f r b' by omega), Bool.and_false]; rfl
    · rw [decide_eq_true (show 0 ≤ rgt ns f r b' by omega), Bool.and_true]
      have h1 := rgt_kind (show 0 ≤ rgt ns f l b by omega)
      have h2 := rgt_kind (show 0 ≤ rgt ns f r b' by omega)
      unfold singleP leafB
      rcases h1 with ⟨a1, a2⟩ | ⟨a1, a2, a3⟩ | ⟨a1, a2, a3⟩ <;> rcases h2 with ⟨c1, c2⟩ | ⟨c1, c2, c3⟩ | ⟨c1, c2, c3⟩ <;> simp_all

set_option maxHeartbeats 1000000 in
theorem PIsRight_step (F : Nat → Prop) (A : Option Addr) (c : Nat) (ns : List Nd) (root : Int) (ho : Ones ns) (hc : ns.length ≤ 9223372036854775807) (e d : Nat) (n : Int) (b : Dg) (w : World) (hd : e + d = 256) (h0 : 0 ≤ n) (hn : n ≤ ns.length) (hr : Row F w A ns)
    (ih : ∀ f, e = f + 1 → ∀ (n : Int) (b : Dg) (w : World), 0 ≤ n → n ≤ ns.length → Row F w A ns →
      Calls Try.prog 47 #[.agg #[.slice A ns.length c, .int .i64 root], .int .i64 n, .int .i64 ((d : Int) + 1), .agg (b.1.map bv).toArray] w fun r w' => r = .returned (.bool (decide (0 ≤ rgt ns f n b))) ∧ Below w.heap.size w w') :
    Calls Try.prog 47 #[.agg #[.slice A ns.length c, .int .i64 root], .int .i64 n, .int .i64 (d : Int), .agg (b.1.map bv).toArray] w fun r w' => r = .returned (.bool (decide (0 ≤ rgt ns e n b))) ∧ Below w.heap.size w w' := by
  obtain ⟨hb0, hk0, W0⟩ := boxesTDp w A ns.length c root b 60 26
  have hu := Try.underlying26
  have hut := Try.underlying60
  have hu2 := Try.underlying82
  have hiT := hid (show (Try.prog.info? 60).map (·.size) = some ([Value.slice A ns.length c, .int .i64 root]).length from sizeTrie)
  have hi := hid (sizeDgT b)
  by_cases hz : n = 0
  · subst hz
    rw [rgt_zero]
    go_enter Try.func47, Try.ntmps47
    go_wp2
    go_ret
    exact ⟨rfl, W0⟩
  · obtain ⟨j, hj, rfl, hx, h1⟩ := ones_at ho (by omega) hn
    have hr0 := hr.bel W0
    have hne : ((j : Int) + 1 == 0) = false := beq_eq_false_iff_ne.2 hz
    obtain ⟨ans, hans⟩ : ∃ ans, decide (0 ≤ rgt ns e ((j : Int) + 1) b) = ans := ⟨_, rfl⟩
    rw [hans]
    have hA := hans
    have hLf := fun W hW => PIsLeaf_any F A c ns root ((j : Int) + 1) W hW h0 hn hc
    rw [show leafB ns ((j : Int) + 1) = ns[j].leaf by unfold leafB; rw [hx, decide_eq_true hz, Bool.true_and]] at hLf
    cases hl : ns[j].leaf with
    | true =>
      rw [rgt_leaf hz (by rw [hx]; exact hl), hx] at hA
      obtain ⟨s, hs⟩ : ∃ s, shared ns[j].k.1 b.1 = s := ⟨_, rfl⟩
      rw [hs] at hA
      have hS := fun W => PShared_is ns[j].k b _ _ s rfl rfl hs W
      rw [hl] at hLf
      replace hLf := hid hLf
      replace hA := hid hA
      go_enter Try.func47, Try.ntmps47
      go_wp2_with (first
        | ((with_reducible refine wpList_load_rng rfl 60 (.tmp 4) rfl w.heap.size 0 rfl [Value.slice A ns.length c, .int .i64 root] _ ?_ hut rfl hiT.out ?_); exact hb0.all))
      generalize (w.alloc (.cells #[.slice A ns.length c, .int .i64 root] 60)).alloc (.cells (b.1.map bv).toArray 26) = w0 at *
      refine (hLf.out _ hr0).mono ?_
      rintro r w5 ⟨rfl, hb5⟩
      have T5 := hb0.bel hb5
      have b5 := rangeBel2 hb5 hk0
      have r5 := hr0.bel hb5
      have W5 := hid (W0.trans (hb5.mono W0.size))
      obtain ⟨q, o, hAe, A', c', hR, _⟩ := row_nd r5 hj
      subst hAe
      have hN := fun W (hW : W.rangeAt q (o + j * 36) (ndC ns[j] A' c')) => PNode_at q o j ns.length c root ns[j] A' c' W hW hj hc
      have hF := fun W => field_key ns[j] A' c' W
      generalize ndC ns[j] A' c' = cs at *
      generalize ns[j].k.1.map bv = dk at *
      clear hb0 hk0 hr0 hb5 hs hans
      go_wp2
      refine wp_region_noPanic ?_
      refine wp_region_held_drew (S := fun w' => Below w5.heap.size w5 w') (by kernel_rfl) ?_ (fun hHeld => ?_)
      · exact bel_drew w5
      refine' wpAnyH_take (i := 0) (oi := _) (v := _) rfl (by kernel_rfl) (by kernel_rfl) (by kernel_rfl) (fun _ _ _ h => h) (yieldsIf_load_mid (by rfl) _ _ rfl _ _ rfl _ _ (fun _ h => rangeBel2 h T5.all) hut rfl hiT.out) (by assumption) ?_
      try simp only [Act.put, List.setIfInBounds_toArray, List.set_cons_zero, List.set_cons_succ, List.getElem_toArray, List.getElem_cons_succ, List.getElem_cons_zero]
      refine' wpAnyH_take (i := 1) (oi := _) (v := ?_) rfl (by kernel_rfl) (by kernel_rfl) (by kernel_rfl) (fun _ _ _ h => h) (Or.inl ⟨by rfl, ?_⟩) (by assumption) ?_
      rotate_left
      · intro W hSw
        go_simp
        first | done | (with_reducible rfl)
      try simp only [Act.put, List.setIfInBounds_toArray, List.set_cons_zero, List.set_cons_succ, List.getElem_toArray, List.getElem_cons_succ, List.getElem_cons_zero]
      refine' wpAnyH_take (i := 4) (oi := _) (v := _) rfl (by kernel_rfl) (by kernel_rfl) (by kernel_rfl) (fun _ _ _ h => h) (yieldsIf_load_mid (by rfl) _ _ rfl _ _ rfl _ _ (fun _ h => rangeBel2 h b5) hu rfl hi.out) (by assumption) ?_
      try simp only [Act.put, List.setIfInBounds_toArray, List.set_cons_zero, List.set_cons_succ, List.getElem_toArray, List.getElem_cons_succ, List.getElem_cons_zero]
      refine' wpAnyH_take (i := 6) (oi := _) (v := ?_) rfl (by kernel_rfl) (by kernel_rfl) (by kernel_rfl) (fun _ _ _ h => h) (Or.inl ⟨by rfl, ?_⟩) (by assumption) ?_
      rotate_left
      · intro W hSw
        go_simp
        first | done | (with_reducible rfl)
      try simp only [Act.put, List.setIfInBounds_toArray, List.set_cons_zero, List.set_cons_succ, List.getElem_toArray, List.getElem_cons_succ, List.getElem_cons_zero]
      refine wpAnyH_ready (rs := [2]) (by kernel_rfl) (by simp) ?_
      refine AllReadyH.cons (o := _) rfl (fun K hK => ?_) AllReadyH.nil
      go_simp
      refine (hN _ (rangeBel2 hHeld hR)).mono ?_
      rintro e7 w7 ⟨rfl, hB⟩
      go_wp2_with fail
      refine hK.out _ _ ?_ (fun hHeld => ?_)
      · exact hHeld.trans (hB.mono hHeld.size)
      clear hK K
      try simp only [Act.put, List.setIfInBounds_toArray, List.set_cons_zero, List.set_cons_succ, List.getElem_toArray, List.getElem_cons_succ, List.getElem_cons_zero]
      refine' wpAnyH_take (i := 3) (oi := _) (v := (.agg dk.toArray)) rfl (by kernel_rfl) (by kernel_rfl) (by kernel_rfl) (fun _ _ _ h => h) (Or.inl ⟨by rfl, ?_⟩) (by assumption) ?_
      · intro W hSw
        go_simp
        first | done | (simp only [hF]; done)
      try simp only [Act.put, List.setIfInBounds_toArray, List.set_cons_zero, List.set_cons_succ, List.getElem_toArray, List.getElem_cons_succ, List.getElem_cons_zero]
      refine wpAnyH_ready (rs := [5]) (by kernel_rfl) (by simp) ?_
      refine AllReadyH.cons (o := _) rfl (fun K hK => ?_) AllReadyH.nil
      go_simp
      refine (hS _).mono ?_
      rintro e8 w8 ⟨rfl, hB⟩
      go_wp2_with fail
      refine hK.out _ _ ?_ (fun hHeld => ?_)
      · exact hHeld.trans (hB.mono hHeld.size)
      clear hK K
      try simp only [Act.put, List.setIfInBounds_toArray, List.set_cons_zero, List.set_cons_succ, List.getElem_toArray, List.getElem_cons_succ, List.getElem_cons_zero]
      refine' wpAnyH_take (i := 7) (oi := _) (v := ?_) rfl (by kernel_rfl) (by kernel_rfl) (by kernel_rfl) (fun _ _ _ h => h) (Or.inl ⟨by rfl, ?_⟩) (by assumption) ?_
      rotate_left
      · intro W hSw
        go_simp
        first | done | (with_reducible rfl)
      try simp only [Act.put, List.setIfInBounds_toArray, List.set_cons_zero, List.set_cons_succ, List.getElem_toArray, List.getElem_cons_succ, List.getElem_cons_zero]
      refine' wpAnyH_take (i := 8) (oi := _) (v := ?_) rfl (by kernel_rfl) (by kernel_rfl) (by kernel_rfl) (fun _ _ _ h => h) (Or.inl ⟨by rfl, ?_⟩) (by assumption) ?_
      rotate_left
      · intro W hSw
        go_simp
        first | done | (with_reducible rfl)
      try simp only [Act.put, List.setIfInBounds_toArray, List.set_cons_zero, List.set_cons_succ, List.getElem_toArray, List.getElem_cons_succ, List.getElem_cons_zero]
      refine wpAnyH_done (by kernel_rfl) ?_ _
      refine NoPanic.normal ?_
      go_wp2
      go_ret
      refine ⟨ret_bP ?_, W5.out.trans (hHeld.mono W5.out.size)⟩
      rw [← hA.out]
      by_cases hsd : s < 256 - e
      · rw [if_pos hsd, decide_eq_false (by omega)]; rfl
      · rw [if_neg hsd, decide_eq_true (by omega)]; rfl
    | false =>
      obtain ⟨k1, k2, k3, k4, k5, k6, k7⟩ := one_fork h1 hl
      rw [hl] at hLf
      replace hLf := hid hLf
      cases e with
      | zero =>
        rw [rgt_end hz (by rw [hx]; exact hl)] at hA
        obtain rfl : d = 256 := by omega
        have e1 : ans = false := by rw [← hA]; rfl
        subst e1
        go_enter Try.func47, Try.ntmps47
        go_wp2_with (first
          | ((with_reducible refine wpList_load_rng rfl 60 (.tmp 4) rfl w.heap.size 0 rfl [Value.slice A ns.length c, .int .i64 root] _ ?_ hut rfl hiT.out ?_); exact hb0.all))
        refine (hLf.out _ hr0).mono ?_
        rintro r w5 ⟨rfl, hb5⟩
        go_wp2
        go_ret
        exact ⟨rfl, W0.trans (hb5.mono W0.size)⟩
      | succ f =>
        rw [rgt_fork hz (by rw [hx]; exact hl), hx] at hA
        have hfd : 255 - f = d := by omega
        have hd2 : d < 256 := by omega
        rw [hfd, right_single k5] at hA
        have hge : ((d : Int) == 256) = false := beq_eq_false_iff_ne.2 (by omega)
        have hwd : IntKind.i64.wrap ((d : Int) + 1) = d + 1 := by rw [IntKind.wrap_i64]; omega
        have hT := fun W => PTurn_is b d hd2 _ rfl W
        have iL := fun W => ih f rfl ns[j].l b W k1 (by omega)
        have iR := fun W => ih f rfl ns[j].r (turnD b d) W k3 (by omega)
        have lt2 := hid (sizeDgT (turnD b d))
        have oneD := bvs_all (turnD b d).1
        have z1 : (((turnD b d).1.map bv).toArray).size = 32 := by simp [(turnD b d).2]
        have hSg := fun W hW => PSingle_any F A c ns root ns[j].l ns[j].r W hW k1 (by omega) k3 (by omega) hc
        have hi2 := hid (show (Try.prog.info? 82).map (·.size) = some ([Value.int .i64 ns[j].l, .int .i64 ns[j].r]).length from size2)
        generalize decide (0 ≤ rgt ns f ns[j].l b) = ra at *
        generalize decide (0 ≤ rgt ns f ns[j].r (turnD b d)) = rb at *
        generalize singleP ns ns[j].l ns[j].r = sg at *
        generalize (turnD b d).1.map bv = dt at *
        generalize hdb : b.1.map bv = db at *
        clear hans ih hdb
        replace iL := hid iL
        replace iR := hid iR
        replace hA := hid hA
        replace hSg := hid hSg
        go_enter Try.func47, Try.ntmps47
        go_wp2_with (first
          | ((with_reducible refine wpList_load_rng rfl 60 (.tmp 4) rfl w.heap.size 0 rfl [Value.slice A ns.length c, .int .i64 root] _ ?_ hut rfl hiT.out ?_); exact hb0.all))
        generalize (w.alloc (.cells #[.slice A ns.length c, .int .i64 root] 60)).alloc (.cells db.toArray 26) = w0 at *
        refine (hLf.out _ hr0).mono ?_
        rintro r w5 ⟨rfl, hb5⟩
        have T5 := hb0.bel hb5
        have b5 := rangeBel2 hb5 hk0
        have r5 := hr0.bel hb5
        have W5 := hid (W0.trans (hb5.mono W0.size))
        obtain ⟨q, o, hAe, A', c', hR, _⟩ := row_nd r5 hj
        subst hAe
        have hRd := fun W (hW : W.rangeAt q (o + j * 36) (ndC ns[j] A' c')) => PRoads_at q o j ns.length c root ns[j] A' c' W hW hj hc
        replace hR := hid hR
        clear hb0 hk0 hr0 hb5 hLf W0
        generalize ndC ns[j] A' c' = cs at *
        generalize ns[j].l = l at *
        generalize ns[j].r = rr at *
        go_wp2_with (first
          | ((with_reducible refine wpList_load_rng rfl 60 (.tmp 4) rfl w.heap.size 0 rfl [Value.slice (some ⟨q, o, none⟩) ns.length c, .int .i64 root] _ ?_ hut rfl hiT.out ?_); exact T5.all))
        refine (hRd _ hR.out).mono ?_
        rintro r w6 ⟨rfl, hb6⟩
        have T6 := T5.bel hb6
        have b6 := rangeBel2 hb6 b5
        have r6 := hid (r5.bel hb6)
        have W6 := hid (W5.out.trans (hb6.mono W5.out.size))
        have e6 := hid (heap_alloc_new w6 (.cells z2C 82))
        clear T5 b5 r5 W5 hb6 hR hRd
        go_wp2_with (first
          | (with_reducible refine wpList_alloc_row rfl 82 rfl z2C zInfo2 ?_)
          | ((with_reducible refine wpList_store_row rfl 82 (.tmp 9) (.tmp 32) rfl _ _ rfl rfl 82 z2C ?_ ?_ ?_ ?_ ?_); exact e6.out; exact size2; rfl; exact one2 l rr; intro w7 hg7 hb7 hs7; have X7 := hid (xnewP rfl hb7); have T7 := T6.bel X7.out; have b7 := rangeBel2 X7.out b6; have r7 := hid (r6.out.bel X7.out); have g7 := rangeOf (l := [Value.int .i64 l, .int .i64 rr]) hg7; have W7 := hid (W6.out.trans (X7.out.mono W6.out.size)); clear hg7 hb7 hs7)
          | ((with_reducible refine wpList_load_rng rfl 60 (.tmp 4) rfl w.heap.size 0 rfl [Value.slice (some ⟨q, o, none⟩) ns.length c, .int .i64 root] _ ?_ hut rfl hiT.out ?_); exact T7.all)
          | ((with_reducible refine wpList_load_rng rfl 82 (.tmp 9) rfl w6.heap.size 0 rfl [Value.int .i64 l, .int .i64 rr] _ ?_ hu2 rfl hi2.out ?_); exact g7))
        refine (hSg.out _ r7.out).mono ?_
        rintro r w8 ⟨rfl, hb8⟩
        have T8 := T7.bel hb8
        have b8 := rangeBel2 hb8 b7
        have r8 := hid (r7.out.bel hb8)
        have g8 := rangeBel2 hb8 g7
        have W8 := hid (W7.out.trans (hb8.mono W7.out.size))
        clear T6 b6 r6 e6 X7 T7 b7 r7 g7 W6 W7 hb8 hSg
        by_cases hsg : sg = 0
        case neg =>
          have hsb : (sg != 0) = true := bne_iff_ne.2 hsg
          have e1 : ans = false := by rw [← hA.out, decide_eq_false hsg, Bool.false_and]
          subst e1
          go_wp2
          go_ret
          exact ⟨rfl, W8.out⟩
        subst hsg
        have hA2 := hid (show (ra && rb) = ans by rw [← hA.out, decide_eq_true rfl, Bool.true_and])
        clear hA
        go_wp2_with (first
          | ((with_reducible refine wpList_load_rng rfl 26 (.tmp 7) rfl (w.heap.size + 1) 0 rfl db _ ?_ hu rfl hi.out ?_); exact b8))
        refine (hT _).mono ?_
        rintro r w9 ⟨rfl, hb9⟩
        have T9 := T8.bel hb9
        have b9 := rangeBel2 hb9 b8
        have r9 := hid (r8.out.bel hb9)
        have g9 := rangeBel2 hb9 g8
        have W9 := hid (W8.out.trans (hb9.mono W8.out.size))
        have e9 := hid (heap_alloc_new w9 (.cells z32 26))
        clear T8 b8 r8 g8 W8 hb9 hT
        go_wp2_with (first
          | (with_reducible refine wpList_alloc_row rfl 26 rfl z32 info32 ?_)
          | ((with_reducible refine wpList_store_row rfl 26 (.tmp 10) (.tmp 41) rfl _ _ rfl rfl 26 z32 ?_ ?_ ?_ ?_ ?_); exact e9.out; (rw [z1]; exact size32); (rw [z1]; exact z32_size); exact oneD; intro w10 hg10 hb10 hs10; have X10 := hid (xnewP rfl hb10); have T10 := T9.bel X10.out; have b10 := rangeBel2 X10.out b9; have r10 := hid (r9.out.bel X10.out); have g10 := rangeBel2 X10.out g9; have q0 := g10 0 _ rfl; rw [Nat.zero_add] at q0; have d10 := rangeOf hg10; have W10 := hid (W9.out.trans (X10.out.mono W9.out.size)); clear hg10 hb10 hs10)
          | ((with_reducible refine wpList_load_rng rfl 60 (.tmp 4) rfl w.heap.size 0 rfl [Value.slice (some ⟨q, o, none⟩) ns.length c, .int .i64 root] _ ?_ hut rfl hiT.out ?_); exact T10.all)
          | ((with_reducible refine wpList_load_rng rfl 26 (.tmp 7) rfl (w.heap.size + 1) 0 rfl db _ ?_ hu rfl hi.out ?_); exact b10))
        refine (iL.out _ r10.out).mono ?_
        rintro r w11 ⟨rfl, hb11⟩
        have T11 := T10.bel hb11
        have r11 := hid (r10.out.bel hb11)
        have q1 := (rangeBel2 hb11 g10) 1 _ rfl
        rw [Nat.zero_add] at q1
        have d11 := rangeBel2 hb11 d10
        have W11 := hid (W10.out.trans (hb11.mono W10.out.size))
        clear T9 b9 r9 g9 W9 e9 X10 T10 b10 r10 g10 q0 d10 W10 hb11 iL
        cases ra
        · have e1 : ans = false := by rw [← hA2.out, Bool.false_and]
          subst e1
          go_wp2
          go_ret
          exact ⟨rfl, W11.out⟩
        · have e1 : rb = ans := by rw [← hA2.out, Bool.true_and]
          subst e1
          go_wp2_with (first
            | ((with_reducible refine wpList_load_rng ?_ 60 (.tmp 4) rfl w.heap.size 0 rfl [Value.slice (some ⟨q, o, none⟩) ns.length c, .int .i64 root] _ ?_ hut rfl hiT.out ?_); rfl; exact T11.all)
            | ((with_reducible refine wpList_load_rng ?_ 26 (.tmp 10) rfl (w9.heap.size) 0 rfl dt _ ?_ hu rfl lt2.out ?_); rfl; exact d11))
          refine (iR.out _ r11.out).mono ?_
          rintro r w12 ⟨rfl, hb12⟩
          go_wp2
          go_ret
          exact ⟨rfl, W11.out.trans (hb12.mono W11.out.size)⟩
theorem PIsRight_any (F : Nat → Prop) (A : Option Addr) (c : Nat) (ns : List Nd) (root : Int) (ho : Ones ns) (hc : ns.length ≤ 9223372036854775807) : ∀ (e d : Nat) (n : Int) (b : Dg) (w : World), e + d = 256 → 0 ≤ n → n ≤ ns.length → Row F w A ns →
    Calls Try.prog 47 #[.agg #[.slice A ns.length c, .int .i64 root], .int .i64 n, .int .i64 (d : Int), .agg (b.1.map bv).toArray] w fun r w' => r = .returned (.bool (decide (0 ≤ rgt ns e n b))) ∧ Below w.heap.size w w'
  | 0, d, n, b, w, hd, h0, hn, hr => PIsRight_step F A c ns root ho hc 0 d n b w hd h0 hn hr fun f hf => by omega
  | e + 1, d, n, b, w, hd, h0, hn, hr => PIsRight_step F A c ns root ho hc (e + 1) d n b w hd h0 hn hr fun f hf n b w h0 hn hr => by
    obtain rfl : e = f := by omega
    have := PIsRight_any F A c ns root ho hc e (d + 1) n b w (by omega) h0 hn hr
    exact this
end Go.Proofs.Ytminmkmkaoocaaa
