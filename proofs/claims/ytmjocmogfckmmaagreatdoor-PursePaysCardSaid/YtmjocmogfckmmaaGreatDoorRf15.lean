/-
 Texts laid together: Ref15a, Ref15c, Ref15d, Ref15e.
-/
import Derived.Test.YtmjocmogfckmmaaGreatDoorPureX
import Derived.Test.YtmjocmogfckmmaaGreatDoorRf10
import Derived.Test.YtmjocmogfckmmaaGreatDoorStX
import Derived.Test.YtmjocmogfckmmaaGreatDoorPuQ
import Derived.Test.YtmjocmogfckmmaaGreatDoorRf6
import Derived.Test.YtmjocmogfckmmaaGreatDoorRef11a
set_option maxRecDepth 100000
set_option linter.unusedVariables false
set_option linter.unusedSimpArgs false
namespace Go.Proofs.YtmjocmogfckmmaaGreatDoor
/- (Ref15a)
 The document's answers of layer 15: more, Given, Give.
-/
section
open Go.RowKit

theorem held_small {ps : List Pr} (h : heldP ps = true) : ∀ p ∈ ps, p.v.length ≤ 1000000 := fun p hp => by
 rw [acE_len (held_iff.1 h p hp)]; decide
theorem ac_set0 {w : World} {g : Nat} {a : Ac} {t : TypeId} (h : w.heap[g]? = some (.cells (acC a).toArray t (0, 0))) (m : Nat) : (w.setCell ⟨g, 0, none⟩ (.int .u64 (m : Int))).heap[g]? = some (.cells (acC ⟨m, a.b⟩).toArray t (0, 0)) := by
 rw [block_set h]; rfl
theorem ac_set1 {w : World} {g : Nat} {a : Ac} {t : TypeId} (h : w.heap[g]? = some (.cells (acC a).toArray t (0, 0))) (m : Nat) : (w.setCell ⟨g, 1, none⟩ (.int .u64 (m : Int))).heap[g]? = some (.cells (acC ⟨a.n, m⟩).toArray t (0, 0)) := by
 rw [block_set h]; rfl
/-- A cell set in a block that was made here: all older ones stand. -/
theorem bel_set (w : World) {g B : Nat} (i : Nat) (u : Value) (h : B ≤ g) : Below B w (w.setCell ⟨g, i, none⟩ u) := (Below.refl B w).setCell (p := ⟨g, i, none⟩) h u
/-- What 'more' answers. -/
def moreR (ps : List Pr) (k : Dg) (m : Nat) : List Pr := if moreB ps k m = true then moreL ps k m else []
def MorePost (ps : List Pr) (k : Dg) (m : Nat) (w : World) (e : Ending) (w' : World) : Prop := ∃ A' c', e = .returned (.tuple #[.slice A' (moreR ps k m).length c', .bool (moreB ps k m)]) ∧ OwnR 84 w' w.heap.size A' c' (moreR ps k m) ∧ Below w.heap.size w w'
set_option maxHeartbeats 4000000 in
theorem RMore_any (F : Nat → Prop) (A : Option Addr) (c n : Nat) (ps : List Pr) (k : Dg) (m : Nat) (w : World) (hm : m < 18446744073709551616) (hr : Row F w A ps) (hn : n = ps.length) (hc : ps.length ≤ 1000000) (hs : St ps) :
  Calls Tryz.prog 41 #[.slice A n c, .agg (k.1.map bv).toArray, .int .u64 (m : Int)] w (MorePost ps k m w) := by
 subst hn
 have hu := Tryz.underlying26
 have hua := Tryz.underlying65
 have h0 := heap_alloc_new w (.cells (k.1.map bv).toArray 26)
 have W0 := hid (ext_alloc w (.cells (k.1.map bv).toArray 26))
 have K0 := hid (rangeOf h0)
 have r0 := hid (hr.bel W0.out)
 have i1 := hid (sizeDg k)
 have hI := fun W hW => RIn_any F A c ps.length ps k W hW rfl hc hs.1
 have hok := inA_ok ps k
 obtain ⟨a, ha⟩ : ∃ a, inA ps k = a := ⟨_, rfl⟩
 have hBq : moreB ps k m = decide (a.b + m < 18446744073709551616) := by unfold moreB; rw [ha]
 have hL : moreL ps k m = setP ps k ⟨a.n, a.b + m⟩ := by unfold moreL; rw [ha]
 have hRq : moreR ps k m = if moreB ps k m = true then moreL ps k m else [] := rfl
 rw [ha] at hI hok
 unfold MorePost
 rw [hBq, hL] at hRq
 rw [hBq, hRq]
 have hab := hok.2
 have nA := one_ac a
 have w1 : IntKind.u64.wrap (18446744073709551615 - (a.b : Int)) = 18446744073709551615 - (a.b : Int) := by rw [IntKind.wrap_u64]; omega
 replace hI := hid hI
 by_cases hq : a.b + m < 18446744073709551616
 ·rw [decide_eq_true hq, if_pos rfl]
  have hW := fun W h => RAcWith_any F A c ps.length ps k ⟨a.n, a.b + m⟩ W ⟨hok.1, hq⟩ h rfl hc (held_small hs.2)
  generalize setP ps k ⟨a.n, a.b + m⟩ = qs at *
  replace hW := hid hW
  have q1 : decide ((18446744073709551615 - (a.b : Int)) < (m : Int)) = false := decide_eq_false (by omega)
  have w2 : IntKind.u64.wrap ((a.b : Int) + (m : Int)) = ((a.b + m : Nat) : Int) := by rw [IntKind.wrap_u64]; omega
  have ia := hid (show (Tryz.prog.info? 65).map (·.size) = some (acC ⟨a.n, a.b + m⟩).length from sizeAc)
  clear h0 hr hs hBq hL hRq ha hok hm hq
  generalize k.1.map bv = dk at *
  go_enter Tryz.func41, Tryz.ntmps41
  go_wp2_with (first
   | ((with_reducible refine wpList_load_rng ?_ 26 (.tmp 4) rfl w.heap.size 0 rfl dk _ ?_ hu rfl i1.out ?_); rfl; exact K0.out))
  refine (hI.out _ r0.out).mono ?_
  rintro e v1 ⟨rfl, hb⟩
  have W1 := hid (W0.out.trans (hb.mono W0.out.size))
  have K1 := hid (rangeBel2 hb K0.out)
  have r1 := hid (r0.out.bel hb)
  have z1 := hid (heap_alloc_new v1 (.cells (acC ac0).toArray 65))
  clear hb K0 r0
  go_wp2_with (first
   | (with_reducible refine wpList_alloc_row rfl 65 rfl (acC ac0).toArray zInfoAc ?_)
   | ((with_reducible refine wpList_store_row rfl 65 (.tmp 8) (.tmp 11) rfl v1.heap.size _ rfl rfl 65 (acC ac0).toArray ?_ ?_ ?_ ?_ ?_); exact z1.out; exact sizeAc; rfl; exact nA; intro v2 hgS hbS hsS; have X2 := hid (xnewP rfl hbS); have C2 := (rangeOf hgS) 1 _ rfl; have F2 := block_frozen hgS 1; have C3 := hid (rangeOf (ac_set1 hgS (a.b + m))); have hx3 := hid (bel_set v2 (B := v1.heap.size) 1 (.int .u64 ((a.b + m : Nat) : Int)) (Nat.le_refl _)); have K3 := hid (rangeBel2 (X2.out.trans hx3.out) K1.out); have r3 := hid (r1.out.bel (X2.out.trans hx3.out)); have W3 := hid (W1.out.trans ((X2.out.trans hx3.out).mono W1.out.size)); clear hgS hbS hsS)
   | ((with_reducible refine wpList_load_rng ?_ 26 (.tmp 4) rfl w.heap.size 0 rfl dk _ ?_ hu rfl i1.out ?_); rfl; exact K3.out)
   | ((with_reducible refine wpList_load_rng ?_ 65 (.tmp 8) rfl v1.heap.size 0 rfl (acC ⟨a.n, a.b + m⟩) _ ?_ hua rfl ia.out ?_); rfl; exact C3.out))
  refine (hW.out _ r3.out).mono ?_
  rintro e v4 ⟨A4, c4, rfl, o4, hb4⟩
  go_wp2
  go_ret2
  exact ⟨_, _, rfl, o4.base W3.out.size, W3.out.trans (hb4.mono W3.out.size)⟩
 ·rw [decide_eq_false hq, if_neg (by decide)]
  have q1 : decide ((18446744073709551615 - (a.b : Int)) < (m : Int)) = true := decide_eq_true (by omega)
  clear h0 hr hs hBq hL hRq ha hok hm hq
  generalize k.1.map bv = dk at *
  go_enter Tryz.func41, Tryz.ntmps41
  go_wp2_with (first
   | ((with_reducible refine wpList_load_rng ?_ 26 (.tmp 4) rfl w.heap.size 0 rfl dk _ ?_ hu rfl i1.out ?_); rfl; exact K0.out))
  refine (hI.out _ r0.out).mono ?_
  rintro e v1 ⟨rfl, hb⟩
  have W1 := hid (W0.out.trans (hb.mono W0.out.size))
  have z1 := hid (heap_alloc_new v1 (.cells (acC ac0).toArray 65))
  clear hb K0 r0
  go_wp2_with (first
   | (with_reducible refine wpList_alloc_row rfl 65 rfl (acC ac0).toArray zInfoAc ?_)
   | ((with_reducible refine wpList_store_row rfl 65 (.tmp 8) (.tmp 11) rfl v1.heap.size _ rfl rfl 65 (acC ac0).toArray ?_ ?_ ?_ ?_ ?_); exact z1.out; exact sizeAc; rfl; exact nA; intro v2 hgS hbS hsS; have X2 := hid (xnewP rfl hbS); have C2 := (rangeOf hgS) 1 _ rfl; have W2 := hid (W1.out.trans (X2.out.mono W1.out.size)); clear hgS hbS hsS))
  go_ret2
  exact ⟨none, 0, rfl, OwnR.nil _ _, W2.out⟩
end

/- (Ref15c)
 The document's answers of layer 15: Next.
-/
section
open Go.RowKit

theorem field_nonce (a : Ac) (w : World) : (Instr.field 65 (.agg (acC a).toArray) 0).run Tryz.prog w = .ok (.int .u64 (a.n : Int)) w := by kernel_rfl
set_option maxHeartbeats 4000000 in
theorem RNext_any (F : Nat → Prop) (A : Option Addr) (c : Nat) (ps : List Pr) (x : Tx) (w : World) (hr : Row F w A ps) (hc : ps.length ≤ 1000000) (hs : Srt ps) :
  Calls Tryz.prog 20 #[.slice A ps.length c, .agg (txC x).toArray] w fun e w' => e = .returned (.bool (nextB ps x)) ∧ Below w.heap.size w w' := by
 have hux := Tryz.underlying29
 have B0 := BoxX.new w x 29
 have W0 := hid (ext_alloc w (.cells (txC x).toArray 29))
 have X0 := hid B0.all
 have C0 := hid B0.n
 have jx := hid (sizeTx x)
 have r0 := hid (hr.bel W0.out)
 have hF := hid (fun W => RTxFrom_any x W)
 have hI := fun W h => RIn_any F A c ps.length ps (fromX x) W h rfl hc hs
 have hN : nextB ps x = (decide (x.n = (inA ps (fromX x)).n) && decide (x.n < 18446744073709551615)) := rfl
 rw [hN]
 generalize inA ps (fromX x) = a at *
 replace hI := hid hI
 have hfd := fun W => field_nonce a W
 obtain ⟨b1, h1⟩ : ∃ b, ((x.n : Int) == (a.n : Int)) = b := ⟨_, rfl⟩
 obtain ⟨b2, h2⟩ : ∃ b, decide ((x.n : Int) < 18446744073709551615) = b := ⟨_, rfl⟩
 have hN2 : (decide (x.n = a.n) && decide (x.n < 18446744073709551615)) = (b1 && b2) := by
  have e1 : decide (x.n = a.n) = b1 := by rw [← h1, Bool.eq_iff_iff, decide_eq_true_eq, beq_iff_eq]; omega
  have e2 : decide (x.n < 18446744073709551615) = b2 := by rw [← h2, decide_eq_decide]; omega
  rw [e1, e2]
 rw [hN2]
 clear hN hN2 B0 hr hs
 generalize x.n = xn at *
 cases b1 with
 | false =>
  generalize txC x = cx at *
  go_enter Tryz.func20, Tryz.ntmps20
  go_wp2
  generalize w.alloc (.cells cx.toArray 29) = w1 at *
  refine wp_region_noPanic ?_
  refine wp_region_held_drew (S := fun w' => Below w1.heap.size w1 w') (by kernel_rfl) ?_ (fun hHeld => ?_)
  ·exact bel_drew w1
  refine' tkL 0 ?_ rfl ?_ ?_
  rotate_left
  ·intro W hSw
   go_simp
   first | done | (with_reducible rfl)
  try simp only [Act.put, sQ]
  refine' tkL 1 ?_ rfl ?_ ?_
  rotate_left
  ·intro W hSw
   have hCell := (hSw.cell (World.block_lt_of_cell? _ _ C0.out)).trans C0.out
   go_simp
   first | done | (with_reducible rfl)
  try simp only [Act.put, sQ]
  refine' tkL 2 ?_ rfl ?_ ?_
  rotate_left
  ·intro W hSw
   go_simp
   first | done | (with_reducible rfl)
  try simp only [Act.put, sQ]
  refine' tkH 3 rfl (yieldsIf_load_mid (by rfl) _ _ rfl _ _ rfl _ _ (fun _ h => rangeBel2 h X0.out) hux rfl jx.out) ?_
  try simp only [Act.put, sQ]
  refine wpAnyH_ready (rs := [4]) (by kernel_rfl) (by simp) ?_
  refine AllReadyH.cons (o := _) rfl (fun K hK => ?_) AllReadyH.nil
  go_simp
  refine (hF.out _).mono ?_
  rintro e v1 ⟨rfl, hB⟩
  go_wp2_with fail
  refine hK.out _ _ ?_ (fun hHeld => ?_)
  ·exact hHeld.trans (hB.mono hHeld.size)
  clear hK K
  try simp only [Act.put, sQ]
  refine wpAnyH_ready (rs := [5]) (by kernel_rfl) (by simp) ?_
  refine AllReadyH.cons (o := _) rfl (fun K hK => ?_) AllReadyH.nil
  go_simp
  refine (hI.out _ (r0.out.bel hHeld)).mono ?_
  rintro e v2 ⟨rfl, hB⟩
  go_wp2_with fail
  refine hK.out _ _ ?_ (fun hHeld => ?_)
  ·exact hHeld.trans (hB.mono hHeld.size)
  clear hK K
  try simp only [Act.put, sQ]
  refine' tkL 6 ((.int .u64 (a.n : Int))) rfl ?_ ?_
  ·intro W hSw
   go_simp
   first | done | (simp only [hfd]; done)
  try simp only [Act.put, sQ]
  refine' tkL 7 ?_ rfl ?_ ?_
  rotate_left
  ·intro W hSw
   go_simp
   first | done | (with_reducible rfl)
  try simp only [Act.put, sQ]
  refine' tkL 8 ?_ rfl ?_ ?_
  rotate_left
  ·intro W hSw
   go_simp
   first | done | (with_reducible rfl)
  try simp only [Act.put, sQ]
  refine' tkR 9 rfl ?_
  try simp only [Act.put, sQ]
  refine' tkR 10 rfl ?_
  try simp only [Act.put, sQ]
  refine' tkR 11 rfl ?_
  try simp only [Act.put, sQ]
  refine' tkL 12 ?_ rfl ?_ ?_
  rotate_left
  ·intro W hSw
   go_simp
   first | done | (with_reducible rfl)
  try simp only [Act.put, sQ]
  refine' tkL 13 ?_ rfl ?_ ?_
  rotate_left
  ·intro W hSw
   go_simp
   first | done | (with_reducible rfl)
  try simp only [Act.put, sQ]
  refine wpAnyH_done (by kernel_rfl) ?_ _
  refine NoPanic.normal ?_
  go_wp2
  go_ret
  exact ⟨rfl, W0.out.trans (hHeld.mono W0.out.size)⟩
 | true =>
  generalize txC x = cx at *
  go_enter Tryz.func20, Tryz.ntmps20
  go_wp2
  generalize w.alloc (.cells cx.toArray 29) = w1 at *
  refine wp_region_noPanic ?_
  refine wp_region_held_drew (S := fun w' => Below w1.heap.size w1 w') (by kernel_rfl) ?_ (fun hHeld => ?_)
  ·exact bel_drew w1
  refine' tkL 0 ?_ rfl ?_ ?_
  rotate_left
  ·intro W hSw
   go_simp
   first | done | (with_reducible rfl)
  try simp only [Act.put, sQ]
  refine' tkL 1 ?_ rfl ?_ ?_
  rotate_left
  ·intro W hSw
   have hCell := (hSw.cell (World.block_lt_of_cell? _ _ C0.out)).trans C0.out
   go_simp
   first | done | (with_reducible rfl)
  try simp only [Act.put, sQ]
  refine' tkL 2 ?_ rfl ?_ ?_
  rotate_left
  ·intro W hSw
   go_simp
   first | done | (with_reducible rfl)
  try simp only [Act.put, sQ]
  refine' tkH 3 rfl (yieldsIf_load_mid (by rfl) _ _ rfl _ _ rfl _ _ (fun _ h => rangeBel2 h X0.out) hux rfl jx.out) ?_
  try simp only [Act.put, sQ]
  refine wpAnyH_ready (rs := [4]) (by kernel_rfl) (by simp) ?_
  refine AllReadyH.cons (o := _) rfl (fun K hK => ?_) AllReadyH.nil
  go_simp
  refine (hF.out _).mono ?_
  rintro e v1 ⟨rfl, hB⟩
  go_wp2_with fail
  refine hK.out _ _ ?_ (fun hHeld => ?_)
  ·exact hHeld.trans (hB.mono hHeld.size)
  clear hK K
  try simp only [Act.put, sQ]
  refine wpAnyH_ready (rs := [5]) (by kernel_rfl) (by simp) ?_
  refine AllReadyH.cons (o := _) rfl (fun K hK => ?_) AllReadyH.nil
  go_simp
  refine (hI.out _ (r0.out.bel hHeld)).mono ?_
  rintro e v2 ⟨rfl, hB⟩
  go_wp2_with fail
  refine hK.out _ _ ?_ (fun hHeld => ?_)
  ·exact hHeld.trans (hB.mono hHeld.size)
  clear hK K
  try simp only [Act.put, sQ]
  refine' tkL 6 ((.int .u64 (a.n : Int))) rfl ?_ ?_
  ·intro W hSw
   go_simp
   first | done | (simp only [hfd]; done)
  try simp only [Act.put, sQ]
  refine' tkL 7 ?_ rfl ?_ ?_
  rotate_left
  ·intro W hSw
   go_simp
   first | done | (with_reducible rfl)
  try simp only [Act.put, sQ]
  refine' tkL 8 ?_ rfl ?_ ?_
  rotate_left
  ·intro W hSw
   go_simp
   first | done | (with_reducible rfl)
  try simp only [Act.put, sQ]
  refine' tkL 9 ?_ rfl ?_ ?_
  rotate_left
  ·intro W hSw
   go_simp
   first | done | (with_reducible rfl)
  try simp only [Act.put, sQ]
  refine' tkL 10 ?_ rfl ?_ ?_
  rotate_left
  ·intro W hSw
   have hCell := (hSw.cell (World.block_lt_of_cell? _ _ C0.out)).trans C0.out
   go_simp
   first | done | (with_reducible rfl)
  try simp only [Act.put, sQ]
  refine' tkL 11 ?_ rfl ?_ ?_
  rotate_left
  ·intro W hSw
   go_simp
   first | done | (with_reducible rfl)
  try simp only [Act.put, sQ]
  refine' tkL 12 ?_ rfl ?_ ?_
  rotate_left
  ·intro W hSw
   go_simp
   first | done | (with_reducible rfl)
  try simp only [Act.put, sQ]
  refine' tkL 13 ?_ rfl ?_ ?_
  rotate_left
  ·intro W hSw
   go_simp
   first | done | (with_reducible rfl)
  try simp only [Act.put, sQ]
  refine wpAnyH_done (by kernel_rfl) ?_ _
  refine NoPanic.normal ?_
  go_wp2
  go_ret
  exact ⟨rfl, W0.out.trans (hHeld.mono W0.out.size)⟩
end

/- (Ref15d)
 The document's answers of layer 15: Paid.
-/
section
open Go.RowKit

/-! ### what is answered -/
theorem set_len (ps : List Pr) (k : Dg) (a : Ac) : (setP ps k a).length ≤ ps.length + 1 := by
 have h : (withoutP ps k).length ≤ ps.length := List.length_filter_le _ _
 unfold setP
 split
 ·omega
 ·rw [with_length]; omega
theorem moreR_len (ps : List Pr) (k : Dg) (n : Nat) : (moreR ps k n).length ≤ ps.length + 1 := by
 unfold moreR
 split
 ·exact set_len _ _ _
 ·exact Nat.zero_le _
theorem moreR_yes {ps : List Pr} {k : Dg} {n : Nat} (h : moreB ps k n = true) : moreR ps k n = moreL ps k n := by unfold moreR; rw [if_pos h]
theorem paid_eq (ps : List Pr) (x : Tx) (box : Dg) :
  paidC ps x box = (if poorB ps x = true then 150 else if (moreB (lessL ps x) x.t x.a && moreB (moreR (lessL ps x) x.t x.a) box x.f) = true then 0 else 151) ∧
  paidL ps x box = (if poorB ps x = true then bareL ps x else if (moreB (lessL ps x) x.t x.a && moreB (moreR (lessL ps x) x.t x.a) box x.f) = true then moreR (moreR (lessL ps x) x.t x.a) box x.f else bareL ps x) := by
 have hL : paidL ps x box = if paidC ps x box = 0 then moreL (moreL (lessL ps x) x.t x.a) box x.f else bareL ps x := rfl
 have hC : paidC ps x box = if poorB ps x = true then 150 else if overB ps x box = true then 151 else 0 := rfl
 have hO : overB ps x box = !(moreB (lessL ps x) x.t x.a && moreB (moreL (lessL ps x) x.t x.a) box x.f) := rfl
 cases hp : poorB ps x
 ·cases h1 : moreB (lessL ps x) x.t x.a
  ·rw [h1] at hO
   rw [hp, hO] at hC
   rw [hL, hC]
   constructor <;> simp
  ·rw [moreR_yes h1]
   cases h2 : moreB (moreL (lessL ps x) x.t x.a) box x.f
   ·rw [h1, h2] at hO
    rw [hp, hO] at hC
    rw [hL, hC]
    constructor <;> simp
   ·rw [h1, h2] at hO
    rw [hp, hO] at hC
    rw [hL, hC, moreR_yes h2]
    constructor <;> simp
 ·rw [hp] at hC
  rw [hL, hC]
  constructor <;> simp

/-! ### the four boxes of the walk -/
structure PB (W w : World) (x : Tx) (b k : Dg) (a : Ac) (g2 g3 : Nat) : Prop where
 X : W.heap[w.heap.size]? = some (.cells (txC x).toArray 29 (0, 0))
 D : W.heap[w.heap.size + 1]? = some (.cells (b.1.map bv).toArray 26 (0, 0))
 K : W.heap[g2]? = some (.cells (k.1.map bv).toArray 26 (0, 0))
 A : W.heap[g3]? = some (.cells (acC a).toArray 65 (0, 0))
 lt2 : w.heap.size + 1 < g2
 lt3 : g2 < g3
 ext : Below w.heap.size w W
theorem PB.bel {W W' w : World} {x : Tx} {b k : Dg} {a : Ac} {g2 g3 : Nat} (h : PB W w x b k a g2 g3) (hb : Below W.heap.size W W') : PB W' w x b k a g2 g3 :=
 ⟨(hb.block _ (block_lt h.X)).trans h.X, (hb.block _ (block_lt h.D)).trans h.D, (hb.block _ (block_lt h.K)).trans h.K, (hb.block _ (block_lt h.A)).trans h.A, h.lt2, h.lt3, h.ext.trans (hb.mono h.ext.size)⟩
theorem PB.set0 {W w : World} {x : Tx} {b k : Dg} {a : Ac} {g2 g3 : Nat} (h : PB W w x b k a g2 g3) (m : Nat) : PB (W.setCell ⟨g3, 0, none⟩ (.int .u64 (m : Int))) w x b k ⟨m, a.b⟩ g2 g3 := by
 have l2 := h.lt2
 have l3 := h.lt3
 have hk := fun (j : Nat) (hj : j ≠ g3) => Below.heap_setCell W ⟨g3, 0, none⟩ (.int .u64 (m : Int)) j hj
 exact ⟨(hk _ (by omega)).trans h.X, (hk _ (by omega)).trans h.D, (hk _ (by omega)).trans h.K, ac_set0 h.A m, l2, l3, h.ext.setCell (p := ⟨g3, 0, none⟩) (by show w.heap.size ≤ g3; omega) _⟩
theorem PB.set1 {W w : World} {x : Tx} {b k : Dg} {a : Ac} {g2 g3 : Nat} (h : PB W w x b k a g2 g3) (m : Nat) : PB (W.setCell ⟨g3, 1, none⟩ (.int .u64 (m : Int))) w x b k ⟨a.n, m⟩ g2 g3 := by
 have l2 := h.lt2
 have l3 := h.lt3
 have hk := fun (j : Nat) (hj : j ≠ g3) => Below.heap_setCell W ⟨g3, 1, none⟩ (.int .u64 (m : Int)) j hj
 exact ⟨(hk _ (by omega)).trans h.X, (hk _ (by omega)).trans h.D, (hk _ (by omega)).trans h.K, ac_set1 h.A m, l2, l3, h.ext.setCell (p := ⟨g3, 1, none⟩) (by show w.heap.size ≤ g3; omega) _⟩
theorem PB.x {W w : World} {x : Tx} {b k : Dg} {a : Ac} {g2 g3 : Nat} (h : PB W w x b k a g2 g3) : BoxX W w.heap.size x := BoxX.of (rangeOf h.X)
def PaidPost (ps : List Pr) (x : Tx) (box : Dg) (w : World) (e : Ending) (w' : World) : Prop := ∃ A' c', e = .returned (.tuple #[.slice A' (paidL ps x box).length c', .int .i64 (paidC ps x box)]) ∧ OwnR 84 w' w.heap.size A' c' (paidL ps x box) ∧ Below w.heap.size w w'
set_option maxHeartbeats 8000000 in
theorem RPaid_any (F : Nat → Prop) (A : Option Addr) (c : Nat) (ps : List Pr) (x : Tx) (box : Dg) (w : World) (hx : x.ok) (hr : Row F w A ps) (hc : ps.length ≤ 900000) (hs : St ps) (hn : nextB ps x = true) :
  Calls Tryz.prog 21 #[.slice A ps.length c, .agg (txC x).toArray, .agg (box.1.map bv).toArray] w (PaidPost ps x box w) := by
 have hu := Tryz.underlying26
 have hux := Tryz.underlying29
 have hua := Tryz.underlying65
 have hX0 := heap_alloc_new w (.cells (txC x).toArray 29)
 have b1 := ext_alloc (w.alloc (.cells (txC x).toArray 29)) (.cells (box.1.map bv).toArray 26)
 have hD0 := heap_alloc_new (w.alloc (.cells (txC x).toArray 29)) (.cells (box.1.map bv).toArray 26)
 rw [World.size_alloc] at hD0
 have W0 := hid ((ext_alloc w (.cells (txC x).toArray 29)).trans (b1.mono (ext_alloc w _).size))
 replace hX0 := hid ((b1.block _ (block_lt hX0)).trans hX0)
 replace hD0 := hid hD0
 have r0 := hid (hr.bel W0.out)
 have iX := hid (sizeTx x)
 have iD := hid (sizeDg box)
 have iK := hid (sizeDg (fromX x))
 have iT := hid (sizeDg x.t)
 have zK : (((fromX x).1.map bv).toArray).size = 32 := by simp [(fromX x).2]
 have oK := bvs_all (fromX x).1
 have iA := fun a : Ac => (show (Tryz.prog.info? 65).map (·.size) = some (acC a).length from sizeAc)
 have hFr := fun W => RTxFrom_any x W
 rw [show keyD x.p = fromX x from rfl] at hFr
 have hI := fun W h => RIn_any F A c ps.length ps (fromX x) W h rfl (by omega) hs.1
 have sB := bare_st hs hn
 have sL := less_st hs hn
 have lB : (bareL ps x).length ≤ ps.length + 1 := set_len _ _ _
 have lL : (lessL ps x).length ≤ (bareL ps x).length + 1 := set_len _ _ _
 have hW1 := fun W h => RAcWith_any F A c ps.length ps (fromX x) _ W (bare_ok hn) h rfl (by omega) (held_small hs.2)
 have hW2 := fun G A2 c2 W h => RAcWith_any G A2 c2 (bareL ps x).length (bareL ps x) (fromX x) _ W (less_ok hn) h rfl (by omega) (held_small sB.2)
 rw [show setP ps (fromX x) ⟨(inA ps (fromX x)).n + 1, (inA ps (fromX x)).b⟩ = bareL ps x from rfl] at hW1
 rw [show setP (bareL ps x) (fromX x) ⟨(inA ps (fromX x)).n + 1, (inA ps (fromX x)).b - (x.a + x.f)⟩ = lessL ps x from rfl] at hW2
 have hM1 := fun G A3 c3 W h => RMore_any G A3 c3 (lessL ps x).length (lessL ps x) x.t x.a W hx.2.1 h rfl (by omega) sL
 have lQ := moreR_len (lessL ps x) x.t x.a
 have hM2 : moreB (lessL ps x) x.t x.a = true → _ := fun hb => fun G A4 c4 W h => RMore_any G A4 c4 (moreR (lessL ps x) x.t x.a).length (moreR (lessL ps x) x.t x.a) box x.f W hx.2.2 h rfl (by omega) (by rw [moreR_yes hb]; exact more_st sL hb)
 obtain ⟨eC, eL⟩ := paid_eq ps x box
 rw [show poorB ps x = decide ((inA ps (fromX x)).b < x.a + x.f) from rfl] at eC eL
 obtain ⟨pc, hpc⟩ : ∃ v, paidC ps x box = v := ⟨_, rfl⟩
 obtain ⟨pl, hpl⟩ : ∃ v, paidL ps x box = v := ⟨_, rfl⟩
 unfold PaidPost
 rw [hpc] at eC ⊢
 rw [hpl] at eL ⊢
 unfold MorePost at hM1 hM2
 have hok := inA_ok ps (fromX x)
 have hok1 := next_ok hn
 have hxa := hx.2.1
 have hxf := hx.2.2
 replace hr := hid hr
 clear hpc hpl hs hn sB sL lQ b1 lB lL hx
 generalize moreB (moreR (lessL ps x) x.t x.a) box x.f = b2 at *
 generalize moreR (moreR (lessL ps x) x.t x.a) box x.f = q2 at *
 generalize moreB (lessL ps x) x.t x.a = b1 at *
 generalize moreR (lessL ps x) x.t x.a = q1 at *
 generalize lessL ps x = less at *
 generalize bareL ps x = bare at *
 generalize inA ps (fromX x) = a at *
 generalize fromX x = k at *
 obtain ⟨n1, hn1⟩ : ∃ n1, a.n + 1 = n1 := ⟨_, rfl⟩
 obtain ⟨s, hsd⟩ : ∃ s, a.b - (x.a + x.f) = s := ⟨_, rfl⟩
 rw [hn1] at hW1 hW2 hok1
 rw [hsd] at hW2
 have nA := one_ac a
 replace hFr := hid hFr
 replace hI := hid hI
 replace hW1 := hid hW1
 replace hW2 := hid hW2
 replace hM1 := hid hM1
 replace hM2 := hid hM2
 replace eC := hid eC
 replace eL := hid eL
 replace iA := hid iA
 replace hok := hid hok
 have wA : IntKind.u64.wrap ((a.n : Int) + 1) = (n1 : Int) := by rw [IntKind.wrap_u64]; omega
 have wB : IntKind.u64.wrap (18446744073709551615 - (x.f : Int)) = 18446744073709551615 - (x.f : Int) := by rw [IntKind.wrap_u64]; omega
 go_enter Tryz.func21, Tryz.ntmps21
 go_wp2_with (first
  | ((with_reducible refine wpList_load_rng ?_ 29 (.tmp 4) rfl w.heap.size 0 rfl (txC x) _ ?_ hux rfl iX.out ?_); rfl; exact rangeOf hX0.out))
 refine (hFr.out _).mono ?_
 rintro e v1 ⟨rfl, hb⟩
 have W1 := hid (W0.out.trans (hb.mono W0.out.size))
 have X1 := hid ((hb.block _ (block_lt hX0.out)).trans hX0.out)
 have D1 := hid ((hb.block _ (block_lt hD0.out)).trans hD0.out)
 have r1 := hid (r0.out.bel hb)
 have z1 := hid (heap_alloc_new v1 (.cells z32 26))
 have l1 := hid (block_lt D1.out)
 clear hb hX0 hD0 r0 W0
 go_wp2_with (first
  | (with_reducible refine wpList_alloc_row rfl 26 rfl z32 info32 ?_)
  | ((with_reducible refine wpList_store_row rfl 26 (.tmp 8) (.tmp 15) rfl v1.heap.size _ rfl rfl 26 z32 ?_ ?_ ?_ ?_ ?_); exact z1.out; (rw [zK]; exact size32); (rw [zK]; exact z32_size); exact oK; intro v2 hgS hbS hsS; have B2 := hid (xnewP rfl hbS); have K2 := hid hgS; have W2 := hid (W1.out.trans (B2.out.mono W1.out.size)); have X2 := hid ((B2.out.block _ (block_lt X1.out)).trans X1.out); have D2 := hid ((B2.out.block _ (block_lt D1.out)).trans D1.out); have r2 := hid (r1.out.bel B2.out); have l2 := hid (block_lt hgS); clear hgS hbS hsS B2)
  | ((with_reducible refine wpList_load_rng ?_ 26 (.tmp 8) rfl v1.heap.size 0 rfl (k.1.map bv) _ ?_ hu rfl iK.out ?_); rfl; exact rangeOf K2.out))
 refine (hI.out _ r2.out).mono ?_
 rintro e v3 ⟨rfl, hb⟩
 have W3 := hid (W2.out.trans (hb.mono W2.out.size))
 have X3 := hid ((hb.block _ (block_lt X2.out)).trans X2.out)
 have D3 := hid ((hb.block _ (block_lt D2.out)).trans D2.out)
 have K3 := hid ((hb.block _ (block_lt K2.out)).trans K2.out)
 have r3 := hid (r2.out.bel hb)
 have l3 := hid (Nat.lt_of_lt_of_le l2.out hb.size)
 have z3 := hid (heap_alloc_new v3 (.cells (acC ac0).toArray 65))
 clear hb X1 D1 X2 D2 K2 W1 W2 r1 r2 z1 l2
 go_wp2_with (first
  | (with_reducible refine wpList_alloc_row rfl 65 rfl (acC ac0).toArray zInfoAc ?_)
  | ((with_reducible refine wpList_store_row rfl 65 (.tmp 9) (.tmp 18) rfl v3.heap.size _ rfl rfl 65 (acC ac0).toArray ?_ ?_ ?_ ?_ ?_); exact z3.out; exact sizeAc; rfl; exact nA; intro v4 hgS hbS hsS; have B4 := hid (xnewP rfl hbS); have P4 := hid (show PB v4 w x box k a v1.heap.size v3.heap.size from ⟨(B4.out.block _ (block_lt X3.out)).trans X3.out, (B4.out.block _ (block_lt D3.out)).trans D3.out, (B4.out.block _ (block_lt K3.out)).trans K3.out, hgS, l1.out, l3.out, W3.out.trans (B4.out.mono W3.out.size)⟩); have P5 := hid (P4.out.set0 n1); have r5 := hid (hr.out.bel P5.out.ext); have C4 := (rangeOf hgS) 0 _ rfl; have F4 := block_frozen hgS 0; clear hgS hbS hsS)
  | ((with_reducible refine wpList_load_rng ?_ 26 (.tmp 8) rfl v1.heap.size 0 rfl (k.1.map bv) _ ?_ hu rfl iK.out ?_); rfl; exact rangeOf P5.out.K)
  | ((with_reducible refine wpList_load_rng ?_ 65 (.tmp 9) rfl v3.heap.size 0 rfl (acC ⟨n1, a.b⟩) _ ?_ hua rfl (iA.out _) ?_); rfl; exact rangeOf P5.out.A))
 generalize v4.setCell ⟨v3.heap.size, 0, none⟩ (.int .u64 (n1 : Int)) = v5 at *
 refine (hW1.out _ r5.out).mono ?_
 rintro e v6 ⟨A6, c6, rfl, o6, hb⟩
 have P6 := hid (P5.out.bel hb)
 have q3 := hid (block_lt P5.out.A)
 have m5 := hid P5.out.ext.size
 have O6 := hid o6
 have ca := P6.out.x.a
 have cf := P6.out.x.f
 have cb := (rangeOf P6.out.A) 1 _ rfl
 have hab := hok.out.2
 clear hb o6 hW1 hI hFr P4 P5 r5 W3 X3 D3 K3 r3 l3 z3 C4 F4 wA l1
 by_cases hp : a.b < x.a + x.f
 ·obtain rfl : pc = 150 := by rw [eC.out, decide_eq_true hp]; rfl
  obtain rfl : pl = bare := by rw [eL.out, decide_eq_true hp]; rfl
  clear eC eL hM1 hM2 hW2
  by_cases ho : 18446744073709551615 - (x.f : Int) < (x.a : Int)
  ·have qA : decide (18446744073709551615 - (x.f : Int) < (x.a : Int)) = true := decide_eq_true ho
   clear hp ho
   go_wp2
   go_ret2
   exact ⟨_, _, rfl, O6.out.base m5.out, P6.out.ext⟩
  ·have qA : decide (18446744073709551615 - (x.f : Int) < (x.a : Int)) = false := decide_eq_false ho
   have wC : IntKind.u64.wrap ((x.a : Int) + (x.f : Int)) = (x.a : Int) + (x.f : Int) := by rw [IntKind.wrap_u64]; omega
   have qB : decide ((a.b : Int) < (x.a : Int) + (x.f : Int)) = true := decide_eq_true (by omega)
   clear hp ho
   go_wp2
   go_ret2
   exact ⟨_, _, rfl, O6.out.base m5.out, P6.out.ext⟩
 ·rw [decide_eq_false hp] at eC eL
  have qA : decide (18446744073709551615 - (x.f : Int) < (x.a : Int)) = false := decide_eq_false (by omega)
  have wC : IntKind.u64.wrap ((x.a : Int) + (x.f : Int)) = (x.a : Int) + (x.f : Int) := by rw [IntKind.wrap_u64]; omega
  have qB : decide ((a.b : Int) < (x.a : Int) + (x.f : Int)) = false := decide_eq_false (by omega)
  have wD : IntKind.u64.wrap ((a.b : Int) - ((x.a : Int) + (x.f : Int))) = (s : Int) := by rw [IntKind.wrap_u64]; omega
  have F6 := block_frozen P6.out.A 1
  have P7 := hid (P6.out.set1 s)
  have O7 := hid (OwnQ.keptG O6.out (fun b _ hne => Below.heap_setCell v6 ⟨v3.heap.size, 1, none⟩ (.int .u64 (s : Int)) b hne) q3.out q3.out)
  clear hp O6 hab
  go_wp2
  generalize v6.setCell ⟨v3.heap.size, 1, none⟩ (.int .u64 (s : Int)) = v7 at *
  refine wp_region_noPanic ?_
  refine wp_region_held_drew (S := fun w' => Below v7.heap.size v7 w') (by kernel_rfl) ?_ (fun hHeld => ?_)
  ·exact bel_drew v7
  refine' tkL 0 ?_ rfl ?_ ?_
  rotate_left
  ·intro W hSw
   go_simp
   first | done | (with_reducible rfl)
  try simp only [Act.put, sQ]
  refine' tkH 1 rfl (yieldsIf_load_mid (by rfl) _ _ rfl _ _ rfl _ _ (fun _ h => rangeBel2 h (rangeOf P7.out.K)) hu rfl iK.out) ?_
  try simp only [Act.put, sQ]
  refine' tkH 2 rfl (yieldsIf_load_mid (by rfl) _ _ rfl _ _ rfl _ _ (fun _ h => rangeBel2 h (rangeOf P7.out.A)) hua rfl (iA.out _)) ?_
  try simp only [Act.put, sQ]
  refine' tkL 4 ?_ rfl ?_ ?_
  rotate_left
  ·intro W hSw
   go_simp
   first | done | (with_reducible rfl)
  try simp only [Act.put, sQ]
  refine' tkH 5 rfl (yieldsIf_load_mid (by rfl) _ _ rfl _ _ rfl _ _ (fun _ h => rangeBel2 h P7.out.x.t) hu rfl iT.out) ?_
  try simp only [Act.put, sQ]
  refine' tkL 6 ?_ rfl ?_ ?_
  rotate_left
  ·intro W hSw
   go_simp
   first | done | (with_reducible rfl)
  try simp only [Act.put, sQ]
  refine' tkL 7 ?_ rfl ?_ ?_
  rotate_left
  ·intro W hSw
   have hCell := (hSw.cell (World.block_lt_of_cell? _ _ P7.out.x.a)).trans P7.out.x.a
   go_simp
   first | done | (with_reducible rfl)
  try simp only [Act.put, sQ]
  refine wpAnyH_ready (rs := [3]) (by kernel_rfl) (by simp) ?_
  refine AllReadyH.cons (o := _) rfl (fun K hK => ?_) AllReadyH.nil
  go_simp
  refine (hW2.out _ _ _ _ (OwnR.row (O7.out.bel hHeld))).mono ?_
  rintro e u8 ⟨A8, c8, rfl, o8, hB⟩
  have m8 := OwnR.row o8
  go_wp2_with fail
  refine hK.out _ _ ?_ (fun hHeld => ?_)
  ·exact hHeld.trans (hB.mono hHeld.size)
  clear hK K
  try simp only [Act.put, sQ]
  refine wpAnyH_ready (rs := [8]) (by kernel_rfl) (by simp) ?_
  refine AllReadyH.cons (o := _) rfl (fun K hK => ?_) AllReadyH.nil
  go_simp
  refine (hM1.out _ _ _ _ m8).mono ?_
  rintro e u9 ⟨A9, c9, rfl, o9, hB⟩
  have n8 := hid hHeld.size
  go_wp2_with fail
  refine hK.out _ _ ?_ (fun hHeld => ?_)
  ·exact hHeld.trans (hB.mono hHeld.size)
  clear hK K
  try simp only [Act.put, sQ]
  refine' tkL 9 ?_ rfl ?_ ?_
  rotate_left
  ·intro W hSw
   go_simp
   first | done | (with_reducible rfl)
  try simp only [Act.put, sQ]
  refine' tkL 10 ?_ rfl ?_ ?_
  rotate_left
  ·intro W hSw
   go_simp
   first | done | (with_reducible rfl)
  try simp only [Act.put, sQ]
  refine' tkL 11 ?_ rfl ?_ ?_
  rotate_left
  ·intro W hSw
   go_simp
   first | done | (with_reducible rfl)
  try simp only [Act.put, sQ]
  refine' tkL 12 ?_ rfl ?_ ?_
  rotate_left
  ·intro W hSw
   go_simp
   first | done | (with_reducible rfl)
  try simp only [Act.put, sQ]
  refine' tkL 13 ?_ rfl ?_ ?_
  rotate_left
  ·intro W hSw
   go_simp
   first | done | (with_reducible rfl)
  try simp only [Act.put, sQ]
  refine wpAnyH_done (by kernel_rfl) ?_ _
  refine NoPanic.normal ?_
  have P9 := hid (P7.out.bel hHeld)
  have O9 := hid (O7.out.bel hHeld)
  have row9 := hid (OwnR.row o9)
  clear hW2 hM1 m8 o8 o9 O7 hHeld
  cases b1 with
  | false =>
   obtain rfl : pc = 151 := by rw [eC.out]; rfl
   obtain rfl : pl = bare := by rw [eL.out]; rfl
   clear eC eL hM2
   go_wp2
   go_ret2
   exact ⟨_, _, rfl, OwnR.base O9.out m5.out, P9.out.ext⟩
  | true =>
   have cf9 := P9.out.x.f
   go_wp2_with (first
    | ((with_reducible refine wpList_load_rng ?_ 26 (.tmp 5) rfl (w.heap.size + 1) 0 rfl (box.1.map bv) _ ?_ hu rfl iD.out ?_); rfl; exact rangeOf P9.out.D))
   refine (hM2.out (by first | rfl | trivial) _ _ _ _ row9.out).mono ?_
   rintro e v10 ⟨A10, c10, rfl, o10, hb⟩
   have P10 := hid (P9.out.bel hb)
   have O10 := hid (O9.out.bel hb)
   have Q10 := hid (OwnR.base o10 P9.out.ext.size)
   clear hb o10 row9 hM2
   cases b2 with
   | false =>
    obtain rfl : pc = 151 := by rw [eC.out]; rfl
    obtain rfl : pl = bare := by rw [eL.out]; rfl
    clear eC eL
    go_wp2
    go_ret2
    exact ⟨_, _, rfl, OwnR.base O10.out m5.out, P10.out.ext⟩
   | true =>
    obtain rfl : pc = 0 := by rw [eC.out]; rfl
    obtain rfl : pl = q2 := by rw [eL.out]; rfl
    clear eC eL
    go_wp2
    go_ret2
    exact ⟨_, _, rfl, Q10.out, P10.out.ext⟩
end

/- (Ref15e)
 The document's answers of layer 15: Pay.
-/
section
open Go.RowKit

theorem boxesTXD (w : World) (l m q : List Value) (t u v : TypeId) :
  (((w.alloc (.cells l.toArray t)).alloc (.cells m.toArray u)).alloc (.cells q.toArray v)).rangeAt w.heap.size 0 l ∧
  (((w.alloc (.cells l.toArray t)).alloc (.cells m.toArray u)).alloc (.cells q.toArray v)).rangeAt (w.heap.size + 1) 0 m ∧
  (((w.alloc (.cells l.toArray t)).alloc (.cells m.toArray u)).alloc (.cells q.toArray v)).rangeAt (w.heap.size + 1 + 1) 0 q ∧
  Below w.heap.size w (((w.alloc (.cells l.toArray t)).alloc (.cells m.toArray u)).alloc (.cells q.toArray v)) := by
 have h1 := rangeOf (heap_alloc_new w (.cells l.toArray t))
 have h2 := rangeOf (heap_alloc_new (w.alloc (.cells l.toArray t)) (.cells m.toArray u))
 have h3 := rangeOf (heap_alloc_new ((w.alloc (.cells l.toArray t)).alloc (.cells m.toArray u)) (.cells q.toArray v))
 simp only [World.size_alloc] at h2 h3
 exact ⟨rangeBel2 (ext_alloc _ _) (rangeBel2 (ext_alloc _ _) h1), rangeBel2 (ext_alloc _ _) h2, h3, ext_trans (ext_trans (ext_alloc _ _) (ext_alloc _ _)) (ext_alloc _ _)⟩
set_option maxHeartbeats 8000000 in
theorem RPay_any (F : Nat → Prop) (A : Option Addr) (c : Nat) (ns : List Nd) (root : Int) (x : Tx) (box : Dg) (w : World) (hx : x.ok) (hr : Row F w A ns) (hc : ns.length ≤ 900000) :
  Calls Tryz.prog 7 #[.agg #[.slice A ns.length c, .int .i64 root], .agg (txC x).toArray, .agg (box.1.map bv).toArray] w fun e w' => ∃ A' c', e = .returned (.tuple #[.slice A' (payTL ⟨ns, root⟩ x box).length c', .int .i64 (payTC ⟨ns, root⟩ x box), .int .i64 (payTE ⟨ns, root⟩ x)]) ∧ OwnR 84 w' w.heap.size A' c' (payTL ⟨ns, root⟩ x box) ∧ Below w.heap.size w w' := by
 have hut := Tryz.underlying24
 have hux := Tryz.underlying29
 have hu := Tryz.underlying26
 obtain ⟨T0, X0, D0, W0⟩ := boxesTXD w [Value.slice A ns.length c, .int .i64 root] (txC x) (box.1.map bv) 24 29 26
 replace T0 := hid T0
 replace X0 := hid X0
 replace D0 := hid D0
 replace W0 := hid W0
 replace hr := hid hr
 have jT := hid (show (Tryz.prog.info? 24).map (·.size) = some ([Value.slice A ns.length c, .int .i64 root]).length from sizeTr)
 have jX := hid (sizeTx x)
 have jD := hid (sizeDg box)
 have hM := hid (fun W hW => RAcMay_any F A c ns root W hW (by omega))
 have hC := hid (fun W => RTxCheck_any x hx _ rfl W)
 have hA := hid (fun hmt W hW => RAllT_any F A c ns root W hW (by omega) hmt)
 have hN := hid (fun G (hm : mayA ⟨ns, root⟩ = true) A2 c2 W h => RNext_any G A2 c2 (allT ⟨ns, root⟩) x W h (all_len (mayA_St hm).1 (by show ns.length ≤ 1000000; omega)) (mayA_St hm).2.1)
 have hP := hid (fun G (hm : mayA ⟨ns, root⟩ = true) (hn : nextB (allT ⟨ns, root⟩) x = true) A2 c2 W h => RPaid_any G A2 c2 (allT ⟨ns, root⟩) x box W hx h (Nat.le_trans (all_spec (mayA_St hm).1).2.2.1 hc) (mayA_St hm).2 hn)
 have hmt := fun (hm : mayA ⟨ns, root⟩ = true) => (mayA_St hm).1
 obtain ⟨pe, hpe⟩ : ∃ v, payTE ⟨ns, root⟩ x = v := ⟨_, rfl⟩
 obtain ⟨pc, hpc⟩ : ∃ v, payTC ⟨ns, root⟩ x box = v := ⟨_, rfl⟩
 obtain ⟨pl, hpl⟩ : ∃ v, payTL ⟨ns, root⟩ x box = v := ⟨_, rfl⟩
 have eC : pc = if pe = 0 then paidC (allT ⟨ns, root⟩) x box else 0 := by rw [← hpc, ← hpe]; rfl
 have eL : pl = if pe = 0 then paidL (allT ⟨ns, root⟩) x box else [] := by rw [← hpl, ← hpe]; rfl
 have eE : pe = if mayA ⟨ns, root⟩ = true then (if decide (x.s = signD x) = true then (if nextB (allT ⟨ns, root⟩) x = true then (if decide (260944 < ns.length) = true then 9 else 0) else 2) else 110) else 8 := by rw [← hpe]; rfl
 rw [hpe, hpc, hpl]
 unfold PaidPost at hP
 clear hpe hpc hpl
 obtain ⟨big, hbig⟩ : ∃ b, decide (260944 < ns.length) = b := ⟨_, rfl⟩
 have qL : decide (260944 < (ns.length : Int)) = big := by rw [← hbig, decide_eq_decide]; omega
 rw [hbig] at eE
 clear hbig
 generalize paidC (allT ⟨ns, root⟩) x box = qc at *
 generalize paidL (allT ⟨ns, root⟩) x box = ql at *
 generalize decide (x.s = signD x) = sg at *
 generalize nextB (allT ⟨ns, root⟩) x = nb at *
 generalize mayA ⟨ns, root⟩ = m at *
 replace eC := hid eC
 replace eL := hid eL
 replace eE := hid eE
 replace hmt := hid hmt
 go_enter Tryz.func7, Tryz.ntmps7
 go_wp2_with (first
  | ((with_reducible refine wpList_load_rng ?_ 24 (.tmp 3) rfl w.heap.size 0 rfl [Value.slice A ns.length c, .int .i64 root] _ ?_ hut rfl jT.out ?_); rfl; exact T0.out))
 refine (hM.out _ (hr.out.bel W0.out)).mono ?_
 rintro e w1 ⟨rfl, hb⟩
 have W1 := hid (W0.out.trans (hb.mono W0.out.size))
 have T1 := hid (rangeBel2 hb T0.out)
 have X1 := hid (rangeBel2 hb X0.out)
 have D1 := hid (rangeBel2 hb D0.out)
 clear hb T0 X0 D0 W0 hM
 cases m with
 | false =>
  obtain rfl : pe = 8 := by rw [eE.out]; rfl
  obtain rfl : pc = 0 := by rw [eC.out]; rfl
  obtain rfl : pl = [] := by rw [eL.out]; rfl
  clear eE eC eL
  go_wp2
  go_ret3
  exact ⟨none, 0, rfl, OwnR.nil _ _, W1.out⟩
 | true =>
 have hmt2 := hid (hmt.out rfl)
 clear hmt
 go_wp2_with (first
  | ((with_reducible refine wpList_load_rng ?_ 29 (.tmp 4) rfl (w.heap.size + 1) 0 rfl (txC x) _ ?_ hux rfl jX.out ?_); rfl; exact X1.out))
 refine (hC.out _).mono ?_
 rintro e w2 ⟨rfl, hb⟩
 have W2 := hid (W1.out.trans (hb.mono W1.out.size))
 have T2 := hid (rangeBel2 hb T1.out)
 have X2 := hid (rangeBel2 hb X1.out)
 have D2 := hid (rangeBel2 hb D1.out)
 clear hb T1 X1 D1 W1 hC
 cases sg with
 | false =>
  obtain rfl : pe = 110 := by rw [eE.out]; rfl
  obtain rfl : pc = 0 := by rw [eC.out]; rfl
  obtain rfl : pl = [] := by rw [eL.out]; rfl
  clear eE eC eL
  go_wp2
  go_ret3
  exact ⟨none, 0, rfl, OwnR.nil _ _, W2.out⟩
 | true =>
 go_wp2_with (first
  | ((with_reducible refine wpList_load_rng ?_ 24 (.tmp 3) rfl w.heap.size 0 rfl [Value.slice A ns.length c, .int .i64 root] _ ?_ hut rfl jT.out ?_); rfl; exact T2.out))
 refine (hA.out hmt2.out _ (hr.out.bel W2.out)).mono ?_
 rintro e w3 ⟨A3, c3, rfl, o3, hb⟩
 have W3 := hid (W2.out.trans (hb.mono W2.out.size))
 have T3 := hid (rangeBel2 hb T2.out)
 have X3 := hid (rangeBel2 hb X2.out)
 have D3 := hid (rangeBel2 hb D2.out)
 have o3h := hid o3
 clear hb T2 X2 D2 W2 hA o3
 go_wp2_with (first
  | ((with_reducible refine wpList_load_rng ?_ 29 (.tmp 4) rfl (w.heap.size + 1) 0 rfl (txC x) _ ?_ hux rfl jX.out ?_); rfl; exact X3.out))
 refine (hN.out _ (by first | rfl | trivial) _ _ _ (OwnR.row o3h.out)).mono ?_
 rintro e w4 ⟨rfl, hb⟩
 have W4 := hid (W3.out.trans (hb.mono W3.out.size))
 have T4 := hid (rangeBel2 hb T3.out)
 have X4 := hid (rangeBel2 hb X3.out)
 have D4 := hid (rangeBel2 hb D3.out)
 have o4 := hid (OwnQ.bel o3h.out hb)
 clear hb T3 X3 D3 W3 hN o3h
 cases nb with
 | false =>
  obtain rfl : pe = 2 := by rw [eE.out]; rfl
  obtain rfl : pc = 0 := by rw [eC.out]; rfl
  obtain rfl : pl = [] := by rw [eL.out]; rfl
  clear eE eC eL
  go_wp2
  go_ret3
  exact ⟨none, 0, rfl, OwnR.nil _ _, W4.out⟩
 | true =>
 have t0 := T4.out 0 _ rfl
 cases big with
 | true =>
  obtain rfl : pe = 9 := by rw [eE.out]; rfl
  obtain rfl : pc = 0 := by rw [eC.out]; rfl
  obtain rfl : pl = [] := by rw [eL.out]; rfl
  clear eE eC eL
  go_wp2
  go_ret3
  exact ⟨none, 0, rfl, OwnR.nil _ _, W4.out⟩
 | false =>
 obtain rfl : pe = 0 := by rw [eE.out]; rfl
 obtain rfl : pc = qc := by rw [eC.out]; rfl
 obtain rfl : pl = ql := by rw [eL.out]; rfl
 clear eE eC eL
 go_wp2_with (first
  | ((with_reducible refine wpList_load_rng ?_ 29 (.tmp 4) rfl (w.heap.size + 1) 0 rfl (txC x) _ ?_ hux rfl jX.out ?_); rfl; exact X4.out)
  | ((with_reducible refine wpList_load_rng ?_ 26 (.tmp 5) rfl (w.heap.size + 1 + 1) 0 rfl (box.1.map bv) _ ?_ hu rfl jD.out ?_); rfl; exact D4.out))
 refine (hP.out _ (by first | rfl | trivial) (by first | rfl | trivial) _ _ _ (OwnR.row o4.out)).mono ?_
 rintro e w5 ⟨A5, c5, rfl, o5, hb⟩
 have W5 := hid (W4.out.trans (hb.mono W4.out.size))
 have Q5 := hid (OwnR.base o5 W4.out.size)
 clear hb o5
 go_wp2
 go_ret3
 exact ⟨_, _, rfl, Q5.out, W5.out⟩
end
end Go.Proofs.YtmjocmogfckmmaaGreatDoor
