/-
  The document's answers of layer 10: May, Check, Total, Get.
-/
import Derived.Test.YtcifncmfjlbhjaaRef10b
import Derived.Test.YtcifncmfjlbhjaaRf6
namespace Go.Proofs.Ytcifncmfjlbhjaa
open Go.RowKit
set_option linter.unusedVariables false
set_option linter.unusedSimpArgs false
set_option maxRecDepth 100000

/-- Is a tree a state? -/
def mayA (t : Tr) : Bool := mayT t && heldP (allT t)
theorem all_len {t : Tr} (h : mayT t = true) (hc : t.ns.length ≤ 1000000) : (allT t).length ≤ 1000000 := Nat.le_trans (all_spec h).2.2.1 hc
set_option maxHeartbeats 1000000 in
theorem RAcMay_any (F : Nat → Prop) (A : Option Addr) (c : Nat) (ns : List Nd) (root : Int) (w : World) (hr : Row F w A ns) (hc : ns.length ≤ 1000000) :
    Calls Try.prog 24 #[.agg #[.slice A ns.length c, .int .i64 root]] w fun e w' => e = .returned (.bool (mayA ⟨ns, root⟩)) ∧ Below w.heap.size w w' := by
  have hut := Try.underlying24
  have T0 := BoxT.new w A ns.length c root 24
  have W0 := hid (ext_alloc w (.cells #[.slice A ns.length c, .int .i64 root] 24))
  have jT := hid (show (Try.prog.info? 24).map (·.size) = some ([Value.slice A ns.length c, .int .i64 root]).length from sizeTr)
  have r0 := hid (hr.bel W0.out)
  have X0 := hid T0.all
  obtain ⟨m, hm⟩ : ∃ m, mayT ⟨ns, root⟩ = m := ⟨_, rfl⟩
  have hM := fun W hW => RMayT_is F A c ns root m W hW (by omega) hm
  obtain ⟨csT, hcs⟩ : ∃ cs, [Value.slice A ns.length c, .int .i64 root] = cs := ⟨_, rfl⟩
  have hcsA : #[Value.slice A ns.length c, .int .i64 root] = csT.toArray := by rw [← hcs]
  cases m with
  | false =>
    have e : mayA ⟨ns, root⟩ = false := by unfold mayA; rw [hm]; rfl
    rw [e]
    clear e hm
    rw [hcsA] at W0 X0 r0 hM ⊢
    rw [hcs] at X0 jT
    replace hM := hid hM
    clear T0 hcs hcsA
    go_enter Try.func24, Try.ntmps24
    go_wp2_with (first
      | ((with_reducible refine wpList_load_rng ?_ 24 (.tmp 1) rfl w.heap.size 0 rfl csT _ ?_ hut rfl jT.out ?_); rfl; exact X0.out))
    refine (hM.out _ r0.out).mono ?_
    rintro e w1 ⟨rfl, hb⟩
    go_wp2
    go_ret
    exact ⟨rfl, W0.out.trans (hb.mono W0.out.size)⟩
  | true =>
    have e : mayA ⟨ns, root⟩ = heldP (allT ⟨ns, root⟩) := by unfold mayA; rw [hm]; rfl
    have hA := fun W hW => RAllT_any F A c ns root W hW hc hm
    have hl := all_len hm hc
    rw [e]
    clear e hm
    generalize allT ⟨ns, root⟩ = ps at *
    have hH := hid (fun G A c W (h : Row G W A ps) => RHeld_any G A c ps.length ps W h rfl hl)
    generalize heldP ps = h at *
    rw [hcsA] at W0 X0 r0 hM hA ⊢
    rw [hcs] at X0 jT
    replace hM := hid hM
    replace hA := hid hA
    clear T0 hcs hcsA
    go_enter Try.func24, Try.ntmps24
    go_wp2_with (first
      | ((with_reducible refine wpList_load_rng ?_ 24 (.tmp 1) rfl w.heap.size 0 rfl csT _ ?_ hut rfl jT.out ?_); rfl; exact X0.out))
    refine (hM.out _ r0.out).mono ?_
    rintro e w1 ⟨rfl, hb⟩
    have W1 := hid (W0.out.trans (hb.mono W0.out.size))
    have X1 := hid (rangeBel2 hb X0.out)
    have r1 := hid (r0.out.bel hb)
    clear hb
    go_wp2_with (first
      | ((with_reducible refine wpList_load_rng ?_ 24 (.tmp 1) rfl w.heap.size 0 rfl csT _ ?_ hut rfl jT.out ?_); rfl; exact X1.out))
    refine (hA.out _ r1.out).mono ?_
    rintro e w2 ⟨A2, c2, rfl, o2, hb⟩
    have W2 := hid (W1.out.trans (hb.mono W1.out.size))
    have r2 := hid (OwnR.row o2)
    clear hb o2
    go_wp2_with fail
    refine (hH.out _ _ _ _ r2.out).mono ?_
    rintro e w3 ⟨rfl, hb⟩
    go_wp2
    go_ret
    exact ⟨rfl, W2.out.trans (hb.mono W2.out.size)⟩
theorem RAcCheck_any (F : Nat → Prop) (A : Option Addr) (c : Nat) (ns : List Nd) (root : Int) (w : World) (hr : Row F w A ns) (hc : ns.length ≤ 1000000) :
    Calls Try.prog 15 #[.agg #[.slice A ns.length c, .int .i64 root]] w fun e w' => e = .returned (.int .i64 (if mayA ⟨ns, root⟩ = true then 0 else 8)) ∧ Below w.heap.size w w' := by
  have hut := Try.underlying24
  have T0 := BoxT.new w A ns.length c root 24
  have W0 := hid (ext_alloc w (.cells #[.slice A ns.length c, .int .i64 root] 24))
  have jT := hid (show (Try.prog.info? 24).map (·.size) = some ([Value.slice A ns.length c, .int .i64 root]).length from sizeTr)
  have r0 := hid (hr.bel W0.out)
  have X0 := hid T0.all
  have hM := fun W hW => RAcMay_any F A c ns root W hW hc
  obtain ⟨csT, hcs⟩ : ∃ cs, [Value.slice A ns.length c, .int .i64 root] = cs := ⟨_, rfl⟩
  have hcsA : #[Value.slice A ns.length c, .int .i64 root] = csT.toArray := by rw [← hcs]
  generalize mayA ⟨ns, root⟩ = m at *
  rw [hcsA] at W0 X0 r0 hM ⊢
  rw [hcs] at X0 jT
  replace hM := hid hM
  clear T0 hcs hcsA
  cases m
  all_goals
    go_enter Try.func15, Try.ntmps15
    go_wp2_with (first
      | ((with_reducible refine wpList_load_rng ?_ 24 (.tmp 1) rfl w.heap.size 0 rfl csT _ ?_ hut rfl jT.out ?_); rfl; exact X0.out))
    refine (hM.out _ r0.out).mono ?_
    rintro e w1 ⟨rfl, hb⟩
    go_wp2
    go_ret
    exact ⟨rfl, W0.out.trans (hb.mono W0.out.size)⟩
set_option maxHeartbeats 1000000 in
theorem RAcTotal_any (F : Nat → Prop) (A : Option Addr) (c : Nat) (ns : List Nd) (root : Int) (w : World) (hr : Row F w A ns) (hc : ns.length ≤ 1000000) :
    Calls Try.prog 13 #[.agg #[.slice A ns.length c, .int .i64 root]] w fun e w' => e = .returned (.tuple #[.int .u64 (if mayA ⟨ns, root⟩ = true then (totH (allT ⟨ns, root⟩) : Int) else 0), .int .u64 (if mayA ⟨ns, root⟩ = true then (totL (allT ⟨ns, root⟩) : Int) else 0), .int .i64 (if mayA ⟨ns, root⟩ = true then 0 else 8)]) ∧ Below w.heap.size w w' := by
  have hut := Try.underlying24
  have T0 := BoxT.new w A ns.length c root 24
  have W0 := hid (ext_alloc w (.cells #[.slice A ns.length c, .int .i64 root] 24))
  have jT := hid (show (Try.prog.info? 24).map (·.size) = some ([Value.slice A ns.length c, .int .i64 root]).length from sizeTr)
  have r0 := hid (hr.bel W0.out)
  have X0 := hid T0.all
  obtain ⟨m, hm⟩ : ∃ m, mayA ⟨ns, root⟩ = m := ⟨_, rfl⟩
  have hM := fun W hW => RAcMay_any F A c ns root W hW hc
  obtain ⟨csT, hcs⟩ : ∃ cs, [Value.slice A ns.length c, .int .i64 root] = cs := ⟨_, rfl⟩
  have hcsA : #[Value.slice A ns.length c, .int .i64 root] = csT.toArray := by rw [← hcs]
  rw [hm] at hM ⊢
  cases m with
  | false =>
    simp only [Bool.false_eq_true, if_false]
    rw [hcsA] at W0 X0 r0 hM ⊢
    rw [hcs] at X0 jT
    replace hM := hid hM
    clear T0 hcs hcsA hm
    go_enter Try.func13, Try.ntmps13
    go_wp2_with (first
      | ((with_reducible refine wpList_load_rng ?_ 24 (.tmp 1) rfl w.heap.size 0 rfl csT _ ?_ hut rfl jT.out ?_); rfl; exact X0.out))
    refine (hM.out _ r0.out).mono ?_
    rintro e w1 ⟨rfl, hb⟩
    go_wp2
    go_ret3
    exact ⟨rfl, W0.out.trans (hb.mono W0.out.size)⟩
  | true =>
    simp only [if_true]
    have hmt : mayT ⟨ns, root⟩ = true := by unfold mayA at hm; simp only [Bool.and_eq_true] at hm; exact hm.1
    have hA := fun W hW => RAllT_any F A c ns root W hW hc hmt
    have hl := all_len hmt hc
    clear hm hmt
    generalize allT ⟨ns, root⟩ = ps at *
    have hH := hid (fun G A c W (h : Row G W A ps) => RSumA_any G A c ps.length ps W h rfl hl)
    rw [hcsA] at W0 X0 r0 hM hA ⊢
    rw [hcs] at X0 jT
    replace hM := hid hM
    replace hA := hid hA
    clear T0 hcs hcsA
    go_enter Try.func13, Try.ntmps13
    go_wp2_with (first
      | ((with_reducible refine wpList_load_rng ?_ 24 (.tmp 1) rfl w.heap.size 0 rfl csT _ ?_ hut rfl jT.out ?_); rfl; exact X0.out))
    refine (hM.out _ r0.out).mono ?_
    rintro e w1 ⟨rfl, hb⟩
    have W1 := hid (W0.out.trans (hb.mono W0.out.size))
    have X1 := hid (rangeBel2 hb X0.out)
    have r1 := hid (r0.out.bel hb)
    clear hb
    go_wp2_with (first
      | ((with_reducible refine wpList_load_rng ?_ 24 (.tmp 1) rfl w.heap.size 0 rfl csT _ ?_ hut rfl jT.out ?_); rfl; exact X1.out))
    refine (hA.out _ r1.out).mono ?_
    rintro e w2 ⟨A2, c2, rfl, o2, hb⟩
    have W2 := hid (W1.out.trans (hb.mono W1.out.size))
    have r2 := hid (OwnR.row o2)
    clear hb o2
    go_wp2_with fail
    refine (hH.out _ _ _ _ r2.out).mono ?_
    rintro e w3 ⟨rfl, hb⟩
    go_wp2
    go_ret3
    exact ⟨rfl, W2.out.trans (hb.mono W2.out.size)⟩
/-- The account of a key in a state, or the zero one. -/
def getA (t : Tr) (k : Dg) : Ac := if mayA t = true then inA (allT t) k else ac0
set_option maxHeartbeats 2000000 in
theorem RAcGet_any (F : Nat → Prop) (A : Option Addr) (c : Nat) (ns : List Nd) (root : Int) (k : Dg) (w : World) (hr : Row F w A ns) (hc : ns.length ≤ 1000000) :
    Calls Try.prog 9 #[.agg #[.slice A ns.length c, .int .i64 root], .agg (k.1.map bv).toArray] w fun e w' => e = .returned (.tuple #[.agg (acC (getA ⟨ns, root⟩ k)).toArray, .int .i64 (if mayA ⟨ns, root⟩ = true then 0 else 8)]) ∧ Below w.heap.size w w' := by
  have hut := Try.underlying24
  have hu := Try.underlying26
  obtain ⟨T0, K0, W0⟩ := boxesTD w A ns.length c root k 24 26
  have h2 := heap_alloc_new ((w.alloc (.cells #[.slice A ns.length c, .int .i64 root] 24)).alloc (.cells (k.1.map bv).toArray 26)) (.cells (acC ac0).toArray 29)
  have b2 := ext_alloc ((w.alloc (.cells #[.slice A ns.length c, .int .i64 root] 24)).alloc (.cells (k.1.map bv).toArray 26)) (.cells (acC ac0).toArray 29)
  simp only [World.size_alloc] at h2
  have X0 := hid (rangeBel2 b2 T0.all)
  replace K0 := hid (rangeBel2 b2 K0)
  replace W0 := hid (W0.trans (b2.mono W0.size))
  have jT := hid (show (Try.prog.info? 24).map (·.size) = some ([Value.slice A ns.length c, .int .i64 root]).length from sizeTr)
  have i1 := hid (sizeDg k)
  have r0 := hid (hr.bel W0.out)
  have hb0 := hid built_ac0
  have n0 := hid (one_ac ac0)
  replace h2 := hid h2
  obtain ⟨m, hm⟩ : ∃ m, mayA ⟨ns, root⟩ = m := ⟨_, rfl⟩
  have hM := fun W hW => RAcMay_any F A c ns root W hW hc
  obtain ⟨csT, hcs⟩ : ∃ cs, [Value.slice A ns.length c, .int .i64 root] = cs := ⟨_, rfl⟩
  have hcsA : #[Value.slice A ns.length c, .int .i64 root] = csT.toArray := by rw [← hcs]
  have hG : getA ⟨ns, root⟩ k = if m = true then inA (allT ⟨ns, root⟩) k else ac0 := by unfold getA; rw [hm]
  rw [hm] at hM ⊢
  rw [hG]
  cases m with
  | false =>
    simp only [Bool.false_eq_true, if_false]
    rw [hcsA] at W0 X0 r0 hM K0 h2 ⊢
    rw [hcs] at X0 jT
    replace hM := hid hM
    clear T0 hcs hcsA hm hG b2
    generalize k.1.map bv = dk at *
    go_enter Try.func9, Try.ntmps9
    go_wp2_with (first
      | (with_reducible refine wpList_alloc_row rfl 29 rfl (acC ac0).toArray zInfoAc ?_)
      | ((with_reducible refine wpList_load_rng ?_ 24 (.tmp 2) rfl w.heap.size 0 rfl csT _ ?_ hut rfl jT.out ?_); rfl; exact X0.out))
    refine (hM.out _ r0.out).mono ?_
    rintro e w1 ⟨rfl, hb⟩
    have W1 := hid (W0.out.trans (hb.mono W0.out.size))
    have h3 := hid ((hb.block _ (block_lt h2.out)).trans h2.out)
    clear hb
    go_wp2_with (first
      | ((with_reducible refine wpList_built rfl 29 _ rfl (acC ac0).toArray [] ?_ ?_ ?_); exact hb0.out; rfl)
      | ((with_reducible refine wpList_store_row rfl 29 (.tmp 4) (.tmp 9) rfl (w.heap.size + 1 + 1) _ rfl rfl 29 (acC ac0).toArray ?_ ?_ ?_ ?_ ?_); exact h3.out; exact sizeAc; rfl; exact n0.out; intro w5 hg5 hb5 hs5))
    exact bodyPost_ret (res_ac rfl _ _ (w.heap.size + 1 + 1) ac0 rfl hg5) rfl ⟨rfl, W1.out.grown hb5 W1.out.size (fun g e => by injection e with e; omega)⟩
  | true =>
    simp only [if_true]
    have hmt : mayT ⟨ns, root⟩ = true := by unfold mayA at hm; simp only [Bool.and_eq_true] at hm; exact hm.1
    have hA := fun W hW => RAllT_any F A c ns root W hW hc hmt
    have hl := all_len hmt hc
    have hs := (all_spec hmt).1
    clear hm hmt hG
    have hl2 : (allT ⟨ns, root⟩).length ≤ 1000000 := hl
    generalize allT ⟨ns, root⟩ = ps at *
    have hH := fun G A c W (h : Row G W A ps) => RIn_any G A c ps.length ps k W h rfl hl hs
    generalize inA ps k = av at *
    have nb := hid (one_ac av)
    rw [hcsA] at W0 X0 r0 hM hA K0 h2 ⊢
    rw [hcs] at X0 jT
    replace hM := hid hM
    replace hA := hid hA
    replace hH := hid hH
    clear T0 hcs hcsA b2 hs
    generalize k.1.map bv = dk at *
    go_enter Try.func9, Try.ntmps9
    go_wp2_with (first
      | (with_reducible refine wpList_alloc_row rfl 29 rfl (acC ac0).toArray zInfoAc ?_)
      | ((with_reducible refine wpList_load_rng ?_ 24 (.tmp 2) rfl w.heap.size 0 rfl csT _ ?_ hut rfl jT.out ?_); rfl; exact X0.out))
    refine (hM.out _ r0.out).mono ?_
    rintro e w1 ⟨rfl, hb⟩
    have W1 := hid (W0.out.trans (hb.mono W0.out.size))
    have h3 := hid ((hb.block _ (block_lt h2.out)).trans h2.out)
    have X1 := hid (rangeBel2 hb X0.out)
    have K1 := hid (rangeBel2 hb K0.out)
    have r1 := hid (r0.out.bel hb)
    clear hb X0 K0 r0
    go_wp2
    refine wp_region_noPanic ?_
    refine wp_region_held_drew (S := fun W => Below w.heap.size w W ∧ W.rangeAt w.heap.size 0 csT ∧ W.rangeAt (w.heap.size + 1) 0 dk) (by kernel_rfl) ?_ (fun hHeld => ?_)
    · exact ⟨W1.out.trans ((bel_drew w1).mono W1.out.size), rangeBel2 (bel_drew w1) X1.out, rangeBel2 (bel_drew w1) K1.out⟩
    refine' wpAnyH_take (i := 0) (oi := _) (v := _) rfl (by kernel_rfl) (by kernel_rfl) (by kernel_rfl) (fun _ _ _ h => h) (yieldsIf_load_mid (by rfl) _ _ rfl _ _ rfl _ _ (fun _ h => h.2.1) hut rfl jT.out) (by assumption) ?_
    try simp only [Act.put, sQa, sQb, sQc, gQa, gQb, gQc]
    refine' wpAnyH_take (i := 2) (oi := _) (v := _) rfl (by kernel_rfl) (by kernel_rfl) (by kernel_rfl) (fun _ _ _ h => h) (yieldsIf_load_mid (by rfl) _ _ rfl _ _ rfl _ _ (fun _ h => h.2.2) hu rfl i1.out) (by assumption) ?_
    try simp only [Act.put, sQa, sQb, sQc, gQa, gQb, gQc]
    refine wpAnyH_ready (rs := [1]) (by kernel_rfl) (by simp) ?_
    refine AllReadyH.cons (o := _) rfl (fun K hK => ?_) AllReadyH.nil
    go_simp
    refine (hA.out _ (r1.out.bel (bel_drew w1))).mono ?_
    rintro e v1 ⟨A2, c2, rfl, o2, hB⟩
    have r2 := hid (OwnR.row o2)
    have e6 := (hB.block _ (block_lt (show w1.drew.heap[w.heap.size + 1 + 1]? = _ from h3.out))).trans h3.out
    go_wp2_with fail
    refine hK.out _ _ ?_ (fun hHeld => ?_)
    · exact ⟨hHeld.1.trans (hB.mono hHeld.1.size), rangeBel2 hB hHeld.2.1, rangeBel2 hB hHeld.2.2⟩
    clear hK K
    try simp only [Act.put, sQa, sQb, sQc, gQa, gQb, gQc]
    refine wpAnyH_ready (rs := [3]) (by kernel_rfl) (by simp) ?_
    refine AllReadyH.cons (o := _) rfl (fun K hK => ?_) AllReadyH.nil
    go_simp
    refine (hH.out _ _ _ _ r2.out).mono ?_
    rintro e v2 ⟨rfl, hB⟩
    have e7 := (hB.block _ (block_lt e6)).trans e6
    go_wp2_with fail
    refine hK.out _ _ ?_ (fun hHeld => ?_)
    · exact ⟨hHeld.1.trans (hB.mono hHeld.1.size), rangeBel2 hB hHeld.2.1, rangeBel2 hB hHeld.2.2⟩
    clear hK K
    try simp only [Act.put, sQa, sQb, sQc, gQa, gQb, gQc]
    refine wpAnyH_ready (rs := [4]) (by kernel_rfl) (by simp) ?_
    refine AllReadyH.cons (o := _) rfl (fun K hK => ?_) AllReadyH.nil
    refine step_store_rowT rfl 29 (.tmp 4) (.tmp 13) rfl (w.heap.size + 1 + 1) _ rfl rfl 29 (acC ac0).toArray e7 sizeAc rfl nb.out ?_
    intro w9 d6 hG9
    refine hK.out _ _ ?_ (fun hHeld => ?_)
    · exact ⟨hHeld.1.grown hG9 hHeld.1.size (fun g e => by injection e with e; omega), rangeAt_kept hHeld.2.1 (fun hb => hG9.block _ hb (by simp; omega)), rangeAt_kept hHeld.2.2 (fun hb => hG9.block _ hb (by simp))⟩
    clear hK K
    try simp only [Act.put, sQa, sQb, sQc, gQa, gQb, gQc]
    refine' wpAnyH_take (i := 5) (oi := _) (v := ?_) rfl (by kernel_rfl) (by kernel_rfl) (by kernel_rfl) (fun _ _ _ h => h) (Or.inl ⟨by rfl, ?_⟩) (by assumption) ?_
    rotate_left
    · intro W hSw
      go_simp
      first | done | (with_reducible rfl)
    try simp only [Act.put, sQa, sQb, sQc, gQa, gQb, gQc]
    refine wpAnyH_done (by kernel_rfl) ?_ _
    refine NoPanic.normal ?_
    go_wp2
    exact bodyPost_ret (res_ac rfl _ _ (w.heap.size + 1 + 1) av rfl d6) rfl ⟨rfl, hHeld.1⟩
end Go.Proofs.Ytcifncmfjlbhjaa
