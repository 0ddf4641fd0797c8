/-
  The document's answers of layer 10: With, Set.
-/
import Derived.Test.YtcifncmfjlbhjaaRef10c
import Derived.Test.YtcifncmfjlbhjaaRefF
namespace Go.Proofs.Ytcifncmfjlbhjaa
open Go.RowKit
set_option linter.unusedVariables false
set_option linter.unusedSimpArgs false
set_option maxRecDepth 100000

theorem boxesDA (w : World) (k : Dg) (a : Ac) (t u : TypeId) :
    ((w.alloc (.cells (k.1.map bv).toArray t)).alloc (.cells (acC a).toArray u)).rangeAt w.heap.size 0 (k.1.map bv) ∧ ((w.alloc (.cells (k.1.map bv).toArray t)).alloc (.cells (acC a).toArray u)).rangeAt (w.heap.size + 1) 0 (acC a) ∧
    Below w.heap.size w ((w.alloc (.cells (k.1.map bv).toArray t)).alloc (.cells (acC a).toArray u)) := by
  have h1 := rangeOf (heap_alloc_new w (.cells (k.1.map bv).toArray t))
  have h2 := rangeOf (heap_alloc_new (w.alloc (.cells (k.1.map bv).toArray t)) (.cells (acC a).toArray u))
  rw [World.size_alloc] at h2
  exact ⟨rangeBel2 (ext_alloc _ _) h1, h2, ext_trans (ext_alloc _ _) (ext_alloc _ _)⟩
theorem ac_zero (a : Ac) : a = ac0 ↔ (((a.n : Int) == 0) = true ∧ ((a.b : Int) == 0) = true) := by
  constructor
  · rintro rfl; exact ⟨rfl, rfl⟩
  · intro h; simp at h; exact ac_ext h.1 h.2
set_option maxHeartbeats 2000000 in
theorem RAcWith_any (F : Nat → Prop) (A : Option Addr) (c n : Nat) (ps : List Pr) (k : Dg) (a : Ac) (w : World) (ha : a.ok) (hr : Row F w A ps) (hn : n = ps.length) (hc : ps.length ≤ 1000000) (hv : ∀ p ∈ ps, p.v.length ≤ 1000000) :
    Calls Try.prog 32 #[.slice A n c, .agg (k.1.map bv).toArray, .agg (acC a).toArray] w fun e w' => ∃ A' c', e = .returned (.slice A' (setP ps k a).length c') ∧ OwnR 79 w' w.heap.size A' c' (setP ps k a) ∧ Below w.heap.size w w' := by
  subst hn
  have hu := Try.underlying26
  have hua := Try.underlying29
  obtain ⟨K0, A0, W0⟩ := boxesDA w k a 26 29
  replace K0 := hid K0
  replace W0 := hid W0
  have c0 := A0 0 _ rfl
  have c1 := A0 1 _ rfl
  replace A0 := hid A0
  have i1 := hid (sizeDg k)
  have ia := hid (show (Try.prog.info? 29).map (·.size) = some (acC a).length from sizeAc)
  have r0 := hid (hr.bel W0.out)
  obtain ⟨bx, hbx⟩ : ∃ b, ((a.n : Int) == 0) = b := ⟨_, rfl⟩
  obtain ⟨cy, hcy⟩ : ∃ b, ((a.b : Int) == 0) = b := ⟨_, rfl⟩
  have hz : a = ac0 ↔ (bx = true ∧ cy = true) := by rw [ac_zero, hbx, hcy]
  by_cases hzz : a = ac0
  · have e : setP ps k a = withoutP ps k := by unfold setP; rw [if_pos hzz]
    rw [e]
    obtain ⟨rfl, rfl⟩ := hz.1 hzz
    have hW := fun W h => RWithout_any F A c ps.length ps k W h rfl hc hv
    generalize withoutP ps k = qs at *
    replace hW := hid hW
    clear hz hzz e hr hv
    generalize k.1.map bv = dk at *
    generalize hca : acC a = ca at *
    go_enter Try.func32, Try.ntmps32
    go_wp2_with (first
      | ((with_reducible refine wpList_load_rng ?_ 26 (.tmp 4) rfl w.heap.size 0 rfl dk _ ?_ hu rfl i1.out ?_); rfl; exact K0.out))
    refine (hW.out _ r0.out).mono ?_
    rintro e w1 ⟨A1, k1, rfl, o1, hb⟩
    go_wp2
    go_ret
    exact ⟨_, _, rfl, o1.base W0.out.size, W0.out.trans (hb.mono W0.out.size)⟩
  · have e : setP ps k a = withP ps k (acB a) := by unfold setP; rw [if_neg hzz]
    rw [e]
    have hB := hid (fun W => RAcBytes_any a ha W)
    have hl := acB_len a
    have hW := fun V m d W h hV (hm : m = (acB a).length) => RWith_any F A V c ps.length m d ps k (acB a) W h rfl hV hm hc hv (by rw [hl]; omega)
    clear hl
    generalize withP ps k (acB a) = qs at *
    generalize acB a = v at *
    replace hW := hid hW
    have hq : ¬ (bx = true ∧ cy = true) := fun q => hzz (hz.2 q)
    clear hz hzz e hr hv
    generalize k.1.map bv = dk at *
    generalize hca : acC a = ca at *
    rcases bx with _ | _
    rotate_left
    rcases cy with _ | _
    rotate_left
    · exact absurd ⟨rfl, rfl⟩ hq
    all_goals
      clear hq
      go_enter Try.func32, Try.ntmps32
      go_wp2
      generalize (w.alloc (.cells dk.toArray 26)).alloc (.cells ca.toArray 29) = w1 at *
      refine wp_region_noPanic ?_
      refine wp_region_held_drew (S := fun w' => Below w1.heap.size w1 w') (by kernel_rfl) ?_ (fun hHeld => ?_)
      · exact bel_drew w1
      refine' wpAnyH_take (i := 0) (oi := _) (v := ?_) rfl (by kernel_rfl) (by kernel_rfl) (by kernel_rfl) (fun _ _ _ h => h) (Or.inl ⟨by rfl, ?_⟩) (by assumption) ?_
      rotate_left
      · intro W hSw
        go_simp
        first | done | (with_reducible rfl)
      try simp only [Act.put, sQa, sQb, sQc, gQa, gQb, gQc]
      refine' wpAnyH_take (i := 1) (oi := _) (v := _) rfl (by kernel_rfl) (by kernel_rfl) (by kernel_rfl) (fun _ _ _ h => h) (yieldsIf_load_mid (by rfl) _ _ rfl _ _ rfl _ _ (fun _ h => rangeBel2 h K0.out) hu rfl i1.out) (by assumption) ?_
      try simp only [Act.put, sQa, sQb, sQc, gQa, gQb, gQc]
      refine' wpAnyH_take (i := 2) (oi := _) (v := _) rfl (by kernel_rfl) (by kernel_rfl) (by kernel_rfl) (fun _ _ _ h => h) (yieldsIf_load_mid (by rfl) _ _ rfl _ _ rfl _ _ (fun _ h => rangeBel2 h A0.out) hua rfl ia.out) (by assumption) ?_
      try simp only [Act.put, sQa, sQb, sQc, gQa, gQb, gQc]
      refine wpAnyH_ready (rs := [3]) (by kernel_rfl) (by simp) ?_
      refine AllReadyH.cons (o := _) rfl (fun K hK => ?_) AllReadyH.nil
      go_simp
      refine (hB.out _).mono ?_
      rintro e v1 ⟨A2, c2, rfl, o2, hB⟩
      have r2 := hid o2.rd
      go_wp2_with fail
      refine hK.out _ _ ?_ (fun hHeld => ?_)
      · exact hHeld.trans (hB.mono hHeld.size)
      clear hK K
      try simp only [Act.put, sQa, sQb, sQc, gQa, gQb, gQc]
      refine wpAnyH_ready (rs := [4]) (by kernel_rfl) (by simp) ?_
      refine AllReadyH.cons (o := _) rfl (fun K hK => ?_) AllReadyH.nil
      go_simp
      refine (hW.out _ _ _ _ (r0.out.bel hHeld) r2.out rfl).mono ?_
      rintro e v2 ⟨A3, c3, rfl, o3, hB⟩
      have m3 := hid hHeld.size
      go_wp2_with fail
      refine hK.out _ _ ?_ (fun hHeld => ?_)
      · exact hHeld.trans (hB.mono hHeld.size)
      clear hK K
      try simp only [Act.put, sQa, sQb, sQc, gQa, gQb, gQc]
      refine' wpAnyH_take (i := 5) (oi := _) (v := ?_) rfl (by kernel_rfl) (by kernel_rfl) (by kernel_rfl) (fun _ _ _ h => h) (Or.inl ⟨by rfl, ?_⟩) (by assumption) ?_
      rotate_left
      · intro W hSw
        go_simp
        first | done | (with_reducible rfl)
      try simp only [Act.put, sQa, sQb, sQc, gQa, gQb, gQc]
      refine wpAnyH_done (by kernel_rfl) ?_ _
      refine NoPanic.normal ?_
      go_wp2
      go_ret
      exact ⟨_, _, rfl, o3.base (Nat.le_trans W0.out.size m3.out), W0.out.trans (hHeld.mono W0.out.size)⟩
/-- The pairs of a state with an account for a key. -/
def setL (t : Tr) (k : Dg) (a : Ac) : List Pr := if mayA t = true then setP (allT t) k a else []
theorem val_small {ps : List Pr} (h : ∀ p ∈ ps, valB p.v = true) : ∀ p ∈ ps, p.v.length ≤ 1000000 := fun p hp => by
  have := h p hp
  unfold valB at this
  have := of_decide_eq_true this
  omega
set_option maxHeartbeats 2000000 in
theorem RAcSet_any (F : Nat → Prop) (A : Option Addr) (c : Nat) (ns : List Nd) (root : Int) (k : Dg) (a : Ac) (w : World) (ha : a.ok) (hr : Row F w A ns) (hc : ns.length ≤ 1000) :
    Calls Try.prog 11 #[.agg #[.slice A ns.length c, .int .i64 root], .agg (k.1.map bv).toArray, .agg (acC a).toArray] w fun e w' => ∃ A' c', e = .returned (.tuple #[.slice A' (setL ⟨ns, root⟩ k a).length c', .int .i64 (if mayA ⟨ns, root⟩ = true then 0 else 8)]) ∧ OwnR 79 w' w.heap.size A' c' (setL ⟨ns, root⟩ k a) ∧ Below w.heap.size w w' := by
  have hut := Try.underlying24
  have hu := Try.underlying26
  have hua := Try.underlying29
  obtain ⟨T0, K0, W0⟩ := boxesTD w A ns.length c root k 24 26
  have h2 := rangeOf (heap_alloc_new ((w.alloc (.cells #[.slice A ns.length c, .int .i64 root] 24)).alloc (.cells (k.1.map bv).toArray 26)) (.cells (acC a).toArray 29))
  have b2 := ext_alloc ((w.alloc (.cells #[.slice A ns.length c, .int .i64 root] 24)).alloc (.cells (k.1.map bv).toArray 26)) (.cells (acC a).toArray 29)
  simp only [World.size_alloc] at h2
  have X0 := hid (rangeBel2 b2 T0.all)
  replace K0 := hid (rangeBel2 b2 K0)
  have A0 := hid h2
  replace W0 := hid (W0.trans (b2.mono W0.size))
  have jT := hid (show (Try.prog.info? 24).map (·.size) = some ([Value.slice A ns.length c, .int .i64 root]).length from sizeTr)
  have i1 := hid (sizeDg k)
  have ia := hid (show (Try.prog.info? 29).map (·.size) = some (acC a).length from sizeAc)
  have r0 := hid (hr.bel W0.out)
  obtain ⟨m, hm⟩ : ∃ m, mayA ⟨ns, root⟩ = m := ⟨_, rfl⟩
  have hM := fun W hW => RAcMay_any F A c ns root W hW (by omega)
  have hG : setL ⟨ns, root⟩ k a = if m = true then setP (allT ⟨ns, root⟩) k a else [] := by unfold setL; rw [hm]
  rw [hm] at hM ⊢
  rw [hG]
  clear hG
  cases m with
  | false =>
    simp only [Bool.false_eq_true, if_false]
    replace hM := hid hM
    clear T0 hm b2 h2
    generalize k.1.map bv = dk at *
    generalize acC a = ca at *
    go_enter Try.func11, Try.ntmps11
    go_wp2_with (first
      | ((with_reducible refine wpList_load_rng ?_ 24 (.tmp 3) rfl w.heap.size 0 rfl [Value.slice A ns.length c, .int .i64 root] _ ?_ hut rfl jT.out ?_); rfl; exact X0.out))
    refine (hM.out _ r0.out).mono ?_
    rintro e w1 ⟨rfl, hb⟩
    go_wp2
    go_ret2
    exact ⟨none, 0, rfl, OwnR.nil _ _, W0.out.trans (hb.mono W0.out.size)⟩
  | true =>
    simp only [if_true]
    have hmt : mayT ⟨ns, root⟩ = true := by unfold mayA at hm; simp only [Bool.and_eq_true] at hm; exact hm.1
    have hA := fun W hW => RAllT_any F A c ns root W hW (by omega) hmt
    have hl := all_len hmt (show ns.length ≤ 1000000 by omega)
    have hv := val_small (all_spec hmt).2.1
    clear hm hmt
    generalize allT ⟨ns, root⟩ = ps at *
    have hW := fun G A c W (h : Row G W A ps) => RAcWith_any G A c ps.length ps k a W ha h rfl hl hv
    generalize setP ps k a = qs at *
    have q1 : decide (261844 < (ns.length : Int)) = false := decide_eq_false (by omega)
    obtain ⟨bx, hbx⟩ : ∃ b, ((a.n : Int) == 0) = b := ⟨_, rfl⟩
    obtain ⟨cy, hcy⟩ : ∃ b, ((a.b : Int) == 0) = b := ⟨_, rfl⟩
    replace hM := hid hM
    replace hA := hid hA
    replace hW := hid hW
    clear T0 b2 h2 hr hv
    generalize k.1.map bv = dk at *
    go_enter Try.func11, Try.ntmps11
    go_wp2_with (first
      | ((with_reducible refine wpList_load_rng ?_ 24 (.tmp 3) rfl w.heap.size 0 rfl [Value.slice A ns.length c, .int .i64 root] _ ?_ hut rfl jT.out ?_); rfl; exact X0.out))
    refine (hM.out _ r0.out).mono ?_
    rintro e w1 ⟨rfl, hb⟩
    have W1 := hid (W0.out.trans (hb.mono W0.out.size))
    have X1 := hid (rangeBel2 hb X0.out)
    have K1 := hid (rangeBel2 hb K0.out)
    have A1 := hid (rangeBel2 hb A0.out)
    have r1 := hid (r0.out.bel hb)
    clear hb X0 K0 A0 r0 W0
    go_wp2_with (first
      | ((with_reducible refine wpList_load_rng ?_ 24 (.tmp 3) rfl w.heap.size 0 rfl [Value.slice A ns.length c, .int .i64 root] _ ?_ hut rfl jT.out ?_); rfl; exact X1.out))
    refine (hA.out _ r1.out).mono ?_
    rintro e w2 ⟨A2, k2, rfl, o2, hb⟩
    have W2 := hid (W1.out.trans (hb.mono W1.out.size))
    have r2 := hid (OwnR.row o2)
    have K2 := hid (rangeBel2 hb K1.out)
    have A3 := rangeBel2 hb A1.out
    have c0 := A3 0 _ rfl
    have c1 := A3 1 _ rfl
    have t0 := rangeBel2 hb X1.out 0 _ rfl
    replace A3 := hid A3
    clear hb o2 X1 K1 A1 r1 W1
    generalize hca : acC a = ca at *
    rcases bx with _ | _
    rotate_left
    rcases cy with _ | _
    all_goals
      go_wp2_with (first
        | ((with_reducible refine wpList_load_rng rfl 26 (.tmp 4) rfl (w.heap.size + 1) 0 rfl dk _ ?_ hu rfl i1.out ?_); exact K2.out)
        | ((with_reducible refine wpList_load_rng rfl 29 (.tmp 5) rfl (w.heap.size + 1 + 1) 0 rfl ca _ ?_ hua rfl ia.out ?_); exact A3.out))
      refine (hW.out _ _ _ _ r2.out).mono ?_
      rintro e w3 ⟨A4, k4, rfl, o4, hb⟩
      go_wp2
      go_ret2
      exact ⟨_, _, rfl, o4.base W2.out.size, W2.out.trans (hb.mono W2.out.size)⟩
end Go.Proofs.Ytcifncmfjlbhjaa
