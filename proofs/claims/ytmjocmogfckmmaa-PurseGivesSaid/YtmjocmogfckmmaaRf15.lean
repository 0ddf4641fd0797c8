/-
 Texts laid together: Ref15a, Ref15b.
-/
import Derived.Test.YtmjocmogfckmmaaPureX
import Derived.Test.YtmjocmogfckmmaaRf10
import Derived.Test.YtmjocmogfckmmaaStX
import Derived.Test.YtmjocmogfckmmaaPuQ
import Derived.Test.YtmjocmogfckmmaaRf6
set_option maxRecDepth 100000
set_option linter.unusedVariables false
set_option linter.unusedSimpArgs false
namespace Go.Proofs.Ytmjocmogfckmmaa
/- (Ref15a)
 The document's answers of layer 15: more, Given, Give.
-/
section
open Go.RowKit

theorem held_small {ps : List Pr} (h : heldP ps = true) : ∀ p ∈ ps, p.v.length ≤ 1000000 := fun p hp => by
 rw [acE_len (held_iff.1 h p hp)]; decide
theorem ac_set1 {w : World} {g : Nat} {a : Ac} {t : TypeId} (h : w.heap[g]? = some (.cells (acC a).toArray t (0, 0))) (m : Nat) : (w.setCell ⟨g, 1, none⟩ (.int .u64 (m : Int))).heap[g]? = some (.cells (acC ⟨a.n, m⟩).toArray t (0, 0)) := by
 rw [block_set h]; rfl
/-- A cell set in a block that was made here: all older ones stand. -/
theorem bel_set (w : World) {g B : Nat} (i : Nat) (u : Value) (h : B ≤ g) : Below B w (w.setCell ⟨g, i, none⟩ u) := (Below.refl B w).setCell (p := ⟨g, i, none⟩) h u
/-- What 'more' answers. -/
def moreR (ps : List Pr) (k : Dg) (m : Nat) : List Pr := if moreB ps k m = true then moreL ps k m else []
def MorePost (ps : List Pr) (k : Dg) (m : Nat) (w : World) (e : Ending) (w' : World) : Prop := ∃ A' c', e = .returned (.tuple #[.slice A' (moreR ps k m).length c', .bool (moreB ps k m)]) ∧ OwnR 77 w' w.heap.size A' c' (moreR ps k m) ∧ Below w.heap.size w w'
set_option maxHeartbeats 4000000 in
theorem RMore_any (F : Nat → Prop) (A : Option Addr) (c n : Nat) (ps : List Pr) (k : Dg) (m : Nat) (w : World) (hm : m < 18446744073709551616) (hr : Row F w A ps) (hn : n = ps.length) (hc : ps.length ≤ 1000000) (hs : St ps) :
  Calls Try.prog 28 #[.slice A n c, .agg (k.1.map bv).toArray, .int .u64 (m : Int)] w (MorePost ps k m w) := by
 subst hn
 have hu := Try.underlying27
 have hua := Try.underlying63
 have h0 := heap_alloc_new w (.cells (k.1.map bv).toArray 27)
 have W0 := hid (ext_alloc w (.cells (k.1.map bv).toArray 27))
 have K0 := hid (rangeOf h0)
 have r0 := hid (hr.bel W0.out)
 have i1 := hid (sizeDg k)
 have hI := fun W hW => RIn_any F A c ps.length ps k W hW rfl hc hs.1
 have hok := inA_ok ps k
 obtain ⟨a, ha⟩ : ∃ a, inA ps k = a := ⟨_, rfl⟩
 have hBq : moreB ps k m = decide (a.b + m < 18446744073709551616) := by unfold moreB; rw [ha]
 have hL : moreL ps k m = setP ps k ⟨a.n, a.b + m⟩ := by unfold moreL; rw [ha]
 have hRq : moreR ps k m = if moreB ps k m = true then moreL ps k m else [] := rfl
 rw [ha] at hI hok
 unfold MorePost
 rw [hBq, hL] at hRq
 rw [hBq, hRq]
 have hab := hok.2
 have nA := one_ac a
 have w1 : IntKind.u64.wrap (18446744073709551615 - (a.b : Int)) = 18446744073709551615 - (a.b : Int) := by rw [IntKind.wrap_u64]; omega
 replace hI := hid hI
 by_cases hq : a.b + m < 18446744073709551616
 ·rw [decide_eq_true hq, if_pos rfl]
  have hW := fun W h => RAcWith_any F A c ps.length ps k ⟨a.n, a.b + m⟩ W ⟨hok.1, hq⟩ h rfl hc (held_small hs.2)
  generalize setP ps k ⟨a.n, a.b + m⟩ = qs at *
  replace hW := hid hW
  have q1 : decide ((18446744073709551615 - (a.b : Int)) < (m : Int)) = false := decide_eq_false (by omega)
  have w2 : IntKind.u64.wrap ((a.b : Int) + (m : Int)) = ((a.b + m : Nat) : Int) := by rw [IntKind.wrap_u64]; omega
  have ia := hid (show (Try.prog.info? 63).map (·.size) = some (acC ⟨a.n, a.b + m⟩).length from sizeAc)
  clear h0 hr hs hBq hL hRq ha hok hm hq
  generalize k.1.map bv = dk at *
  go_enter Try.func28, Try.ntmps28
  go_wp2_with (first
   | ((with_reducible refine wpList_load_rng ?_ 27 (.tmp 4) rfl w.heap.size 0 rfl dk _ ?_ hu rfl i1.out ?_); rfl; exact K0.out))
  refine (hI.out _ r0.out).mono ?_
  rintro e v1 ⟨rfl, hb⟩
  have W1 := hid (W0.out.trans (hb.mono W0.out.size))
  have K1 := hid (rangeBel2 hb K0.out)
  have r1 := hid (r0.out.bel hb)
  have z1 := hid (heap_alloc_new v1 (.cells (acC ac0).toArray 63))
  clear hb K0 r0
  go_wp2_with (first
   | (with_reducible refine wpList_alloc_row rfl 63 rfl (acC ac0).toArray zInfoAc ?_)
   | ((with_reducible refine wpList_store_row rfl 63 (.tmp 8) (.tmp 11) rfl v1.heap.size _ rfl rfl 63 (acC ac0).toArray ?_ ?_ ?_ ?_ ?_); exact z1.out; exact sizeAc; rfl; exact nA; intro v2 hgS hbS hsS; have X2 := hid (xnewP rfl hbS); have C2 := (rangeOf hgS) 1 _ rfl; have F2 := block_frozen hgS 1; have C3 := hid (rangeOf (ac_set1 hgS (a.b + m))); have hx3 := hid (bel_set v2 (B := v1.heap.size) 1 (.int .u64 ((a.b + m : Nat) : Int)) (Nat.le_refl _)); have K3 := hid (rangeBel2 (X2.out.trans hx3.out) K1.out); have r3 := hid (r1.out.bel (X2.out.trans hx3.out)); have W3 := hid (W1.out.trans ((X2.out.trans hx3.out).mono W1.out.size)); clear hgS hbS hsS)
   | ((with_reducible refine wpList_load_rng ?_ 27 (.tmp 4) rfl w.heap.size 0 rfl dk _ ?_ hu rfl i1.out ?_); rfl; exact K3.out)
   | ((with_reducible refine wpList_load_rng ?_ 63 (.tmp 8) rfl v1.heap.size 0 rfl (acC ⟨a.n, a.b + m⟩) _ ?_ hua rfl ia.out ?_); rfl; exact C3.out))
  refine (hW.out _ r3.out).mono ?_
  rintro e v4 ⟨A4, c4, rfl, o4, hb4⟩
  go_wp2
  go_ret2
  exact ⟨_, _, rfl, o4.base W3.out.size, W3.out.trans (hb4.mono W3.out.size)⟩
 ·rw [decide_eq_false hq, if_neg (by decide)]
  have q1 : decide ((18446744073709551615 - (a.b : Int)) < (m : Int)) = true := decide_eq_true (by omega)
  clear h0 hr hs hBq hL hRq ha hok hm hq
  generalize k.1.map bv = dk at *
  go_enter Try.func28, Try.ntmps28
  go_wp2_with (first
   | ((with_reducible refine wpList_load_rng ?_ 27 (.tmp 4) rfl w.heap.size 0 rfl dk _ ?_ hu rfl i1.out ?_); rfl; exact K0.out))
  refine (hI.out _ r0.out).mono ?_
  rintro e v1 ⟨rfl, hb⟩
  have W1 := hid (W0.out.trans (hb.mono W0.out.size))
  have z1 := hid (heap_alloc_new v1 (.cells (acC ac0).toArray 63))
  clear hb K0 r0
  go_wp2_with (first
   | (with_reducible refine wpList_alloc_row rfl 63 rfl (acC ac0).toArray zInfoAc ?_)
   | ((with_reducible refine wpList_store_row rfl 63 (.tmp 8) (.tmp 11) rfl v1.heap.size _ rfl rfl 63 (acC ac0).toArray ?_ ?_ ?_ ?_ ?_); exact z1.out; exact sizeAc; rfl; exact nA; intro v2 hgS hbS hsS; have X2 := hid (xnewP rfl hbS); have C2 := (rangeOf hgS) 1 _ rfl; have W2 := hid (W1.out.trans (X2.out.mono W1.out.size)); clear hgS hbS hsS))
  go_ret2
  exact ⟨none, 0, rfl, OwnR.nil _ _, W2.out⟩
end

/- (Ref15b)
 The document's answers of layer 15: Given, Give.
-/
section
open Go.RowKit

def GivenRow (A : Option Addr) (c : Nat) (ps : List Pr) (x : Dp) (w : World) (e : Ending) (w' : World) : Prop := ∃ A' c', e = .returned (.tuple #[.slice A' (giveL ps x.t x.a).length c', .int .i64 (giveC ps x.t x.a)]) ∧ (OwnR 77 w' w.heap.size A' c' (giveL ps x.t x.a) ∨ (A' = A ∧ c' = c ∧ giveL ps x.t x.a = ps)) ∧ Below w.heap.size w w'
set_option maxHeartbeats 2000000 in
theorem RGiven_row (F : Nat → Prop) (A : Option Addr) (c : Nat) (ps : List Pr) (x : Dp) (w : World) (hx : x.ok) (hr : Row F w A ps) (hc : ps.length ≤ 1000000) (hs : St ps) :
  Calls Try.prog 16 #[.slice A ps.length c, .agg (dpC x).toArray] w (GivenRow A c ps x w) := by
 have hu := Try.underlying27
 have B0 := BoxD.new w x 29
 have W0 := hid (ext_alloc w (.cells (dpC x).toArray 29))
 have T0 := hid B0.t
 have c0 := B0.a
 have it := hid (sizeDg x.t)
 have hM := RMore_any F A c ps.length ps x.t x.a _ hx.2 (hr.bel W0.out) rfl hc hs
 have eL : giveL ps x.t x.a = if moreB ps x.t x.a = true then moreR ps x.t x.a else ps := by
  unfold giveL moreR
  cases moreB ps x.t x.a <;> rfl
 have eC : giveC ps x.t x.a = if moreB ps x.t x.a = true then 0 else 151 := rfl
 unfold GivenRow
 rw [eL, eC]
 unfold MorePost at hM
 generalize moreR ps x.t x.a = qs at *
 cases hmb : moreB ps x.t x.a
 all_goals
  rw [hmb] at hM
  replace hM := hid hM
  clear B0 eL eC hmb hr
  generalize x.t.1.map bv = dt at *
  generalize dpC x = cx at *
  go_enter Try.func16, Try.ntmps16
  go_wp2_with (first
   | ((with_reducible refine wpList_load_rng ?_ 27 (.tmp 10) rfl w.heap.size 1 rfl dt _ ?_ hu rfl it.out ?_); rfl; exact T0.out))
  refine hM.out.mono ?_
  rintro e v1 ⟨A1, c1, rfl, o1, hb⟩
  have W1 := hid (W0.out.trans (hb.mono W0.out.size))
  have O1 := hid (OwnR.base o1 W0.out.size)
  clear hb o1
  go_wp2
  go_ret2
 ·exact ⟨A, c, rfl, .inr (by simp), W1.out⟩
 ·exact ⟨_, _, rfl, .inl O1.out, W1.out⟩
def GivenPost (B : Nat) (ps : List Pr) (x : Dp) (w : World) (e : Ending) (w' : World) : Prop := ∃ A' c', e = .returned (.tuple #[.slice A' (giveL ps x.t x.a).length c', .int .i64 (giveC ps x.t x.a)]) ∧ OwnR 77 w' B A' c' (giveL ps x.t x.a) ∧ Below w.heap.size w w'
theorem RGiven_any (B : Nat) (A : Option Addr) (c : Nat) (ps : List Pr) (x : Dp) (w : World) (hx : x.ok) (ho : OwnR 77 w B A c ps) (hB : B ≤ w.heap.size) (hc : ps.length ≤ 1000000) (hs : St ps) :
  Calls Try.prog 16 #[.slice A ps.length c, .agg (dpC x).toArray] w (GivenPost B ps x w) :=
 (RGiven_row _ A c ps x w hx (OwnR.row ho) hc hs).mono fun e w' h => by
  obtain ⟨A', c', he, h1, hb⟩ := h
  refine ⟨A', c', he, ?_, hb⟩
  rcases h1 with h1 | ⟨rfl, rfl, h1⟩
  ·exact OwnR.base h1 hB
  ·rw [h1]
   exact OwnQ.bel ho hb
theorem boxesTQ (w : World) (A : Option Addr) (n c : Nat) (root : Int) (l : List Value) (t u : TypeId) :
  BoxT ((w.alloc (.cells #[.slice A n c, .int .i64 root] t)).alloc (.cells l.toArray u)) w.heap.size A n c root ∧ ((w.alloc (.cells #[.slice A n c, .int .i64 root] t)).alloc (.cells l.toArray u)).rangeAt (w.heap.size + 1) 0 l ∧
  Below w.heap.size w ((w.alloc (.cells #[.slice A n c, .int .i64 root] t)).alloc (.cells l.toArray u)) := by
 have h1 := BoxT.new w A n c root t
 have h2 := rangeOf (heap_alloc_new (w.alloc (.cells #[.slice A n c, .int .i64 root] t)) (.cells l.toArray u))
 rw [World.size_alloc] at h2
 exact ⟨h1.bel (ext_alloc _ _), h2, ext_trans (ext_alloc _ _) (ext_alloc _ _)⟩
set_option maxHeartbeats 4000000 in
theorem RGive_any (F : Nat → Prop) (A : Option Addr) (c : Nat) (ns : List Nd) (root : Int) (x : Dp) (w : World) (hx : x.ok) (hr : Row F w A ns) (hc : ns.length ≤ 1000000) :
  Calls Try.prog 7 #[.agg #[.slice A ns.length c, .int .i64 root], .agg (dpC x).toArray] w fun e w' => ∃ A' c', e = .returned (.tuple #[.slice A' (giveTL ⟨ns, root⟩ x).length c', .int .i64 (giveTC ⟨ns, root⟩ x), .int .i64 (giveTE ⟨ns, root⟩)]) ∧ OwnR 77 w' w.heap.size A' c' (giveTL ⟨ns, root⟩ x) ∧ Below w.heap.size w w' := by
 have hut := Try.underlying24
 have hud := Try.underlying29
 obtain ⟨T0, D0, W0⟩ := boxesTQ w A ns.length c root (dpC x) 24 29
 have X0 := hid T0.all
 replace D0 := hid D0
 replace W0 := hid W0
 have jT := hid (show (Try.prog.info? 24).map (·.size) = some ([Value.slice A ns.length c, .int .i64 root]).length from sizeTr)
 have jD := hid (sizeDp x)
 have r0 := hid (hr.bel W0.out)
 obtain ⟨m, hm⟩ : ∃ m, mayA ⟨ns, root⟩ = m := ⟨_, rfl⟩
 have hM := fun W hW => RAcMay_any F A c ns root W hW hc
 rw [hm] at hM
 cases m with
 | false =>
  have eE : giveTE ⟨ns, root⟩ = 8 := by unfold giveTE; rw [hm]; rfl
  have eC : giveTC ⟨ns, root⟩ x = 0 := by unfold giveTC; rw [eE]; rfl
  have eL : giveTL ⟨ns, root⟩ x = [] := by unfold giveTL; rw [eE]; rfl
  rw [eE, eC, eL]
  replace hM := hid hM
  clear T0 hm hr eE eC eL
  generalize dpC x = cx at *
  go_enter Try.func7, Try.ntmps7
  go_wp2_with (first
   | ((with_reducible refine wpList_load_rng ?_ 24 (.tmp 2) rfl w.heap.size 0 rfl [Value.slice A ns.length c, .int .i64 root] _ ?_ hut rfl jT.out ?_); rfl; exact X0.out))
  refine (hM.out _ r0.out).mono ?_
  rintro e w1 ⟨rfl, hb⟩
  have W1 := hid (W0.out.trans (hb.mono W0.out.size))
  clear hb
  go_wp2
  go_ret3
  exact ⟨none, 0, rfl, OwnR.nil _ _, W1.out⟩
 | true =>
  obtain ⟨hmt, hst⟩ := mayA_St hm
  by_cases hq : 260944 < ns.length
  ·have eE : giveTE ⟨ns, root⟩ = 9 := by unfold giveTE; rw [hm, if_pos rfl, if_pos hq]
   have eC : giveTC ⟨ns, root⟩ x = 0 := by unfold giveTC; rw [eE]; rfl
   have eL : giveTL ⟨ns, root⟩ x = [] := by unfold giveTL; rw [eE]; rfl
   rw [eE, eC, eL]
   have q1 : decide (260944 < (ns.length : Int)) = true := decide_eq_true (by omega)
   replace hM := hid hM
   clear T0 hm hr eE eC eL hmt hst
   generalize dpC x = cx at *
   go_enter Try.func7, Try.ntmps7
   go_wp2_with (first
    | ((with_reducible refine wpList_load_rng ?_ 24 (.tmp 2) rfl w.heap.size 0 rfl [Value.slice A ns.length c, .int .i64 root] _ ?_ hut rfl jT.out ?_); rfl; exact X0.out))
   refine (hM.out _ r0.out).mono ?_
   rintro e w1 ⟨rfl, hb⟩
   have W1 := hid (W0.out.trans (hb.mono W0.out.size))
   have t0 := rangeBel2 hb X0.out 0 _ rfl
   clear hb
   go_wp2
   go_ret3
   exact ⟨none, 0, rfl, OwnR.nil _ _, W1.out⟩
  ·have eE : giveTE ⟨ns, root⟩ = 0 := by unfold giveTE; rw [hm, if_pos rfl, if_neg hq]
   have eC : giveTC ⟨ns, root⟩ x = giveC (allT ⟨ns, root⟩) x.t x.a := by unfold giveTC; rw [eE]; rfl
   have eL : giveTL ⟨ns, root⟩ x = giveL (allT ⟨ns, root⟩) x.t x.a := by unfold giveTL; rw [eE]; rfl
   rw [eE, eC, eL]
   have q1 : decide (260944 < (ns.length : Int)) = false := decide_eq_false (by omega)
   have hA := hid (fun W hW => RAllT_any F A c ns root W hW hc hmt)
   have hl := all_len hmt hc
   have hG := fun B A2 c2 W (ho : OwnR 77 W B A2 c2 (allT ⟨ns, root⟩)) hB => RGiven_any B A2 c2 (allT ⟨ns, root⟩) x W hx ho hB hl hst
   unfold GivenPost at hG
   generalize giveL (allT ⟨ns, root⟩) x.t x.a = gl at *
   generalize giveC (allT ⟨ns, root⟩) x.t x.a = gc at *
   generalize allT ⟨ns, root⟩ = ps at *
   replace hM := hid hM
   replace hG := hid hG
   clear T0 hm hr eE eC eL hmt hst
   generalize dpC x = cx at *
   go_enter Try.func7, Try.ntmps7
   go_wp2_with (first
    | ((with_reducible refine wpList_load_rng ?_ 24 (.tmp 2) rfl w.heap.size 0 rfl [Value.slice A ns.length c, .int .i64 root] _ ?_ hut rfl jT.out ?_); rfl; exact X0.out))
   refine (hM.out _ r0.out).mono ?_
   rintro e w1 ⟨rfl, hb⟩
   have W1 := hid (W0.out.trans (hb.mono W0.out.size))
   have t0 := rangeBel2 hb X0.out 0 _ rfl
   have X1 := hid (rangeBel2 hb X0.out)
   have D1 := hid (rangeBel2 hb D0.out)
   have r1 := hid (r0.out.bel hb)
   clear hb X0 D0 r0
   go_wp2
   refine wp_region_noPanic ?_
   refine wp_region_held_drew (S := fun w' => Below w1.heap.size w1 w') (by kernel_rfl) ?_ (fun hHeld => ?_)
   ·exact bel_drew w1
   refine' tkH 0 rfl (yieldsIf_load_mid (by rfl) _ _ rfl _ _ rfl _ _ (fun _ h => rangeBel2 h X1.out) hut rfl jT.out) ?_
   try simp only [Act.put, sQ]
   refine' tkH 2 rfl (yieldsIf_load_mid (by rfl) _ _ rfl _ _ rfl _ _ (fun _ h => rangeBel2 h D1.out) hud rfl jD.out) ?_
   try simp only [Act.put, sQ]
   refine wpAnyH_ready (rs := [1]) (by kernel_rfl) (by simp) ?_
   refine AllReadyH.cons (o := _) rfl (fun K hK => ?_) AllReadyH.nil
   go_simp
   refine (hA.out _ (r1.out.bel hHeld)).mono ?_
   rintro e v2 ⟨A2, c2, rfl, o2, hB⟩
   have m2 := hid hHeld.size
   go_wp2_with fail
   refine hK.out _ _ ?_ (fun hHeld => ?_)
   ·exact hHeld.trans (hB.mono hHeld.size)
   clear hK K
   try simp only [Act.put, sQ]
   refine wpAnyH_ready (rs := [3]) (by kernel_rfl) (by simp) ?_
   refine AllReadyH.cons (o := _) rfl (fun K hK => ?_) AllReadyH.nil
   go_simp
   refine (hG.out w1.heap.size _ _ _ (o2.base m2.out) hHeld.size).mono ?_
   rintro e v3 ⟨A3, c3, rfl, o3, hB⟩
   go_wp2_with fail
   refine hK.out _ _ ?_ (fun hHeld => ?_)
   ·exact hHeld.trans (hB.mono hHeld.size)
   clear hK K
   try simp only [Act.put, sQ]
   refine' tkL 4 ?_ rfl ?_ ?_
   rotate_left
   ·intro W hSw
    go_simp
    first | done | (with_reducible rfl)
   try simp only [Act.put, sQ]
   refine' tkL 5 ?_ rfl ?_ ?_
   rotate_left
   ·intro W hSw
    go_simp
    first | done | (with_reducible rfl)
   try simp only [Act.put, sQ]
   refine' tkL 6 ?_ rfl ?_ ?_
   rotate_left
   ·intro W hSw
    go_simp
    first | done | (with_reducible rfl)
   try simp only [Act.put, sQ]
   refine' tkL 7 ?_ rfl ?_ ?_
   rotate_left
   ·intro W hSw
    go_simp
    first | done | (with_reducible rfl)
   try simp only [Act.put, sQ]
   refine' tkL 8 ?_ rfl ?_ ?_
   rotate_left
   ·intro W hSw
    go_simp
    first | done | (with_reducible rfl)
   try simp only [Act.put, sQ]
   refine wpAnyH_done (by kernel_rfl) ?_ _
   refine NoPanic.normal ?_
   go_wp2
   go_ret3
   exact ⟨_, _, rfl, o3.base W1.out.size, W1.out.trans (hHeld.mono W1.out.size)⟩
end
end Go.Proofs.Ytmjocmogfckmmaa
