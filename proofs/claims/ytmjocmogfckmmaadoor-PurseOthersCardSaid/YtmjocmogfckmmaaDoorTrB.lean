/-
 Texts laid together: TreeLe, TreeLf, TreeLh.
-/
import Derived.Test.YtmjocmogfckmmaaDoorTrA
import Derived.Test.YtmjocmogfckmmaaDoorPrA
import Derived.Test.YtmjocmogfckmmaaDoorTagX
import Derived.Test.YtmjocmogfckmmaaDoorRoad
import Derived.Test.YtmjocmogfckmmaaDoorPlain
import Derived.Test.YtmjocmogfckmmaaDoorMem
import Derived.Test.YtmjocmogfckmmaaDoorBits
import Derived.Test.YtmjocmogfckmmaaDoorStX
import Derived.Test.YtmjocmogfckmmaaDoorInW
import Derived.Test.YtmjocmogfckmmaaDoorTrN
set_option maxRecDepth 100000
set_option linter.unusedVariables false
set_option linter.unusedSimpArgs false
namespace Go.Proofs.YtmjocmogfckmmaaDoor
/- (TreeLe)
 Contracts of the landed package tree: newSummed, sum.
-/
section
open Go.RowKit

/-- A summed trie's cells. -/
def smC (A : Option Addr) (n c : Nat) (root : Int) (d : Dg) : List Value := [.slice A n c, .int .i64 root] ++ d.1.map bv
/-- A summed trie in a box. -/
structure BoxS (W : World) (g : Nat) (A : Option Addr) (n c : Nat) (root : Int) (d : Dg) : Prop where
 all : W.rangeAt g 0 (smC A n c root d)
 trie : W.rangeAt g 0 [.slice A n c, .int .i64 root]
 none : W.rangeAt g 2 (d.1.map bv)
theorem BoxS.of {W : World} {g : Nat} {A : Option Addr} {n c : Nat} {root : Int} {d : Dg} (h : W.rangeAt g 0 (smC A n c root d)) : BoxS W g A n c root d := by
 refine ⟨h, fun j v hv => h j v ?_, ?_⟩
 ·unfold smC
  rw [List.getElem?_append_left (List.getElem?_eq_some_iff.1 hv).1]; exact hv
 ·have := range_sub (xs := [Value.slice A n c, .int .i64 root]) (ys := d.1.map bv) (zs := []) (by simpa [smC] using h) 2 rfl
  rw [Nat.zero_add] at this
  exact this
theorem BoxS.bel {W W' : World} {g : Nat} {A : Option Addr} {n c : Nat} {root : Int} {d : Dg} (h : BoxS W g A n c root d) (hb : Below W.heap.size W W') : BoxS W' g A n c root d := BoxS.of (rangeBel2 hb h.all)
theorem BoxS.new (W : World) (A : Option Addr) (n c : Nat) (root : Int) (d : Dg) (t : TypeId) : BoxS (W.alloc (.cells (smC A n c root d).toArray t)) W.heap.size A n c root d := BoxS.of (rangeOf (heap_alloc_new W _))




end

/- (TreeLf)
 Contracts of the landed package tree: road.
-/
section
open Go.RowKit

theorem slotInt : Slot Tryd.prog Int 127 3 (.int .i64 0) 8 where
 under := Tryd.underlying127
 info := by kernel_rfl
 zero := by decide +kernel
 pos := by decide
def lenV : Value → Nat
 | .slice _ n _ => n
 | _ => 0
theorem rep_int {F : Nat → Prop} {w : World} {x : Int} (h : I64 x) : Enc.rep F w x [Value.int .i64 x] := ⟨rfl, h⟩
/-- A right tree's road: where it stands after j forks. -/
def OnWay (ns : List Nd) (k : Dg) (root : Int) (os : List Int) (m : Int) : Prop :=
 os.length ≤ 256 ∧ 0 ≤ m ∧ m ≤ ns.length ∧ (∃ b, 0 ≤ rgt ns (256 - os.length) m b) ∧ wayP ns k 256 root = ((wayP ns k (256 - os.length) m).1, os ++ (wayP ns k (256 - os.length) m).2) ∧
 (∀ o ∈ os, 0 ≤ o ∧ o ≤ ns.length)
theorem onway_start {ns : List Nd} {k : Dg} {root : Int} (h0 : 0 ≤ root) (h1 : root ≤ ns.length) (hr : 0 ≤ rgt ns 256 root z0) : OnWay ns k root [] root :=
 ⟨by simp, h0, h1, ⟨z0, hr⟩, by simp, fun o ho => by simp at ho⟩
theorem onway_end {ns : List Nd} {k : Dg} {root m : Int} {os : List Int} (h : OnWay ns k root os m) (hf : forkB ns m = false) : wayP ns k 256 root = (m, os) := by
 obtain ⟨_, _, _, _, h5, _⟩ := h
 have : wayP ns k (256 - os.length) m = (m, []) := by
  by_cases hz : m = 0
  ·subst hz; exact wayP_zero
  ·refine wayP_leaf ?_
   unfold forkB at hf
   rw [decide_eq_true hz, Bool.true_and] at hf
   simpa using hf
 rw [h5, this, List.append_nil]
theorem onway_next {ns : List Nd} {k : Dg} {root m : Int} {os : List Int} (ho : Ones ns) (h : OnWay ns k root os m) (hf : forkB ns m = true) :
  os.length < 256 ∧ 0 < m ∧ (ndAt ns m).leaf = false ∧ (kb k.1 os.length = 1 → OnWay ns k root (os ++ [(ndAt ns m).l]) (ndAt ns m).r) ∧ (kb k.1 os.length = 0 → OnWay ns k root (os ++ [(ndAt ns m).r]) (ndAt ns m).l) := by
 obtain ⟨h1, h2, h3, ⟨b, h4⟩, h5, h6⟩ := h
 unfold forkB at hf
 simp only [Bool.and_eq_true, decide_eq_true_eq, Bool.not_eq_true'] at hf
 obtain ⟨hz, hl⟩ := hf
 obtain ⟨f, hf, r1, r2, _, _⟩ := fork_parts hz hl h4
 obtain ⟨j, hj, rfl, hx, hone⟩ := ones_at ho (by omega) h3
 rw [hx] at hl
 obtain ⟨k1, k2, k3, k4, _⟩ := one_fork hone hl
 rw [← hx] at k1 k2 k3 k4 hl
 have hlt : os.length < 256 := by omega
 have he : 256 - (os.length + 1) = f := by omega
 have hfd : 255 - f = os.length := by omega
 rw [hf, wayP_fork hz hl, hfd] at h5
 have hq : ∀ x : Int, (0 ≤ x ∧ x ≤ ns.length) → ∀ o ∈ os ++ [x], 0 ≤ o ∧ o ≤ ns.length := fun x hx o hm => by
  rcases List.mem_append.1 hm with h | h
  ·exact h6 o h
  ·simp at h; subst h; exact hx
 refine ⟨hlt, by omega, hl, fun hb => ⟨by simp; omega, k3, by omega, ⟨_, by rw [List.length_append, List.length_singleton, he]; exact r2⟩, ?_, hq _ ⟨k1, by omega⟩⟩, fun hb => ⟨by simp; omega, k1, by omega, ⟨_, by rw [List.length_append, List.length_singleton, he]; exact r1⟩, ?_, hq _ ⟨k3, by omega⟩⟩⟩
 ·rw [h5, if_pos hb, List.length_append, List.length_singleton, he]; simp
 ·rw [h5, if_neg (by omega), List.length_append, List.length_singleton, he]; simp

set_option maxHeartbeats 2000000 in
theorem PRoadT_any (F : Nat → Prop) (A : Option Addr) (c : Nat) (ns : List Nd) (root : Int) (k : Dg) (w : World) (hr : Row F w A ns) (hc : ns.length ≤ 1000000) (hm : mayT ⟨ns, root⟩ = true) :
  Calls Tryd.prog 70 #[.agg #[.slice A ns.length c, .int .i64 root], .agg (k.1.map bv).toArray] w fun e w' => ∃ A' c', e = .returned (.tuple #[.int .i64 (wayP ns k 256 root).1, .slice A' (wayP ns k 256 root).2.length c']) ∧ OwnR 3 w' w.heap.size A' c' (wayP ns k 256 root).2 ∧ Below w.heap.size w w' := by
 obtain ⟨-, m1, m2, ho, m3⟩ := mayT_iff.1 hm
 dsimp only at m1 m2 ho m3
 obtain ⟨hb0, hk0, W0⟩ := boxesTDp w A ns.length c root k 97 23
 have hr0 := hr.bel W0
 have hu := Tryd.underlying23
 have hut := Tryd.underlying97
 have hu2 := Tryd.underlying140
 have hiT := hid (show (Tryd.prog.info? 97).map (·.size) = some ([Value.slice A ns.length c, .int .i64 root]).length from sizeTrie)
 have hi := hid (sizeDgT k)
 have y1 := hb0.rt
 have hB := fun d (hd : d < 256) W => PTBit_is k d hd _ W rfl
 have hstart := hid (onway_start (k := k) m1 m2 m3)
 have hnx := fun os m => @onway_next ns k root m os ho
 have hen := fun os m => @onway_end ns k root m os
 replace hnx := hid hnx
 replace hen := hid hen
 generalize hdk : k.1.map bv = dk at *
 clear hr hm m1 m2 m3 hdk
 go_enter Tryd.func70, Tryd.ntmps70
 go_wp2
 generalize (w.alloc (.cells #[.slice A ns.length c, .int .i64 root] 97)).alloc (.cells dk.toArray 23) = w0 at *
 go_loopw [4, 5] (fun v4 v5 wr => ∃ (m : Int) (os : List Int) (A5 : Option Addr) (c5 : Nat), v4 = .int .i64 m ∧ v5 = .slice A5 os.length c5 ∧ OwnR 3 wr w0.heap.size A5 c5 os ∧ OnWay ns k root os m ∧ Below w0.heap.size w0 wr) (fun _ v5 _ => 257 - lenV v5)
 case atStart => exact ⟨root, [], none, 0, rfl, rfl, OwnR.nil _ _, hstart.out, Below.refl _ _⟩
 case round =>
  obtain ⟨m, os, A5, c5, rfl, rfl, hown, hon, hbw⟩ := hrel
  have T1 := hb0.bel hbw
  have k1 := rangeBel2 hbw hk0
  have r1 := hr0.bel hbw
  have hm0 := hon.2.1
  have hm1 := hon.2.2.1
  have hF := fun W hW => PIsFork_any F A c ns root m W hW hm0 hm1 (by omega)
  cases hfk : forkB ns m with
  | false =>
   have hend := hid (hen.out os m hon hfk)
   rw [hfk] at hF
   replace hF := hid hF
   replace hon := trivial
   have y2 := T1.rt
   go_wp2_with (first
    | ((with_reducible refine wpList_load_rng rfl 97 (.tmp 2) rfl w.heap.size 0 rfl [Value.slice A ns.length c, .int .i64 root] _ ?_ hut rfl hiT.out ?_); exact T1.all))
   refine (hF.out _ r1).mono ?_
   rintro e w2 ⟨rfl, hb2⟩
   have o2 := hid (hown.bel hb2)
   go_wp2
   go_ret2
   rw [hend.out]
   exact ⟨A5, c5, rfl, OwnR.base o2.out W0.size, W0.trans ((hbw.trans (hb2.mono hbw.size)).mono W0.size)⟩
  | true =>
   obtain ⟨hlt, hm2, hl, n1, n0⟩ := hnx.out os m hon hfk
   rw [hfk] at hF
   replace hF := hid hF
   replace hon := trivial
   obtain ⟨j, hj, rfl, hx⟩ : ∃ (j : Nat) (hj : j < ns.length), m = (j : Int) + 1 ∧ ndAt ns m = ns[j] := by
    obtain ⟨j, rfl⟩ : ∃ j : Nat, m = (j : Int) + 1 := ⟨(m - 1).toNat, by omega⟩
    exact ⟨j, by omega, rfl, ndAt_at (by omega)⟩
   rw [hx] at n1 n0 hl
   obtain ⟨q, o, hAe, A', c', hR, hv1, hv2, hv3, hI1, hI2⟩ := row_nd r1 hj
   subst hAe
   have hRd := fun W (hW : W.rangeAt q (o + j * 36) (ndC ns[j] A' c')) => PRoads_at q o j ns.length c root ns[j] A' c' W hW hj (by omega)
   have hBt := hB os.length hlt
   have hbb := kb_lt k.1 os.length
   replace n1 := hid n1
   replace n0 := hid n0
   replace hI1 := hid hI1
   replace hI2 := hid hI2
   clear hnx hen hB hv1 hv2 hv3 hm0 hm1 hm2 hl hx hstart
   generalize ndC ns[j] A' c' = xs at *
   generalize ns[j].l = l at *
   generalize ns[j].r = rr at *
   generalize kb k.1 os.length = bb at *
   replace hR := hid hR
   replace hRd := hid hRd
   replace hBt := hid hBt
   have y2 := T1.rt
   go_wp2_with (first
    | ((with_reducible refine wpList_load_rng rfl 97 (.tmp 2) rfl w.heap.size 0 rfl [Value.slice (some ⟨q, o, none⟩) ns.length c, .int .i64 root] _ ?_ hut rfl hiT.out ?_); exact T1.all))
   refine (hF.out _ r1).mono ?_
   rintro e w2 ⟨rfl, hb2⟩
   have T2 := T1.bel hb2
   have k2 := rangeBel2 hb2 k1
   have R2 := hid (rangeBel2 hb2 hR.out)
   have o2 := hid (hown.bel hb2)
   have W2 := hid (hbw.trans (hb2.mono hbw.size))
   have hlo := hid (Nat.le_trans hbw.size hb2.size)
   have hbk := hid (o2.out.blk)
   clear T1 k1 r1 hR hown hb2 hF hbw y2
   rcases (show bb = 0 ∨ bb = 1 by omega) with rfl | rfl
   ·have i1 : IntKind.u8.wrap ((1 : Int) - 0) = 1 := by decide
    have hn2 := hid (n0.out rfl)
    go_wp2
    refine wp_region_noPanic ?_
    refine wp_region_held_drew (S := fun w' => Below w2.heap.size w2 w') (by kernel_rfl) ?_ (fun hHeld => ?_)
    ·exact bel_drew w2
    refine' tkH 0 rfl (yieldsIf_load_mid (by rfl) _ _ rfl _ _ rfl _ _ (fun _ h => rangeBel2 h T2.all) hut rfl hiT.out) ?_
    try simp only [Act.put, sQ]
    refine' tkL 1 ?_ rfl ?_ ?_
    rotate_left
    ·intro W hSw
     go_simp
     first | done | (with_reducible rfl)
    try simp only [Act.put, sQ]
    refine' tkH 3 rfl (yieldsIf_load_mid (by rfl) _ _ rfl _ _ rfl _ _ (fun _ h => rangeBel2 h k2) hu rfl hi.out) ?_
    try simp only [Act.put, sQ]
    refine' tkL 4 ?_ rfl ?_ ?_
    rotate_left
    ·intro W hSw
     go_simp
     first | done | (with_reducible rfl)
    try simp only [Act.put, sQ]
    refine' tkL 5 ?_ rfl ?_ ?_
    rotate_left
    ·intro W hSw
     go_simp
     first | done | (with_reducible rfl)
    try simp only [Act.put, sQ]
    refine wpAnyH_ready (rs := [2, 7]) (by kernel_rfl) (by simp) ?_
    refine AllReadyH.cons (o := _) rfl (fun K hK => ?_) ?_
    ·skip
     go_simp
     refine (hRd.out _ (rangeBel2 hHeld R2.out)).mono ?_
     rintro e w8 ⟨rfl, hB⟩
     try replace e6 := (hB.block _ (block_lt e6)).trans e6
     go_wp2_with fail
     refine hK.out _ _ ?_ (fun hHeld => ?_)
     ·exact hHeld.trans (hB.mono hHeld.size)
     clear hK K
     try simp only [Act.put, sQ]
     refine wpAnyH_ready (rs := [6, 7]) (by kernel_rfl) (by simp) ?_
     refine AllReadyH.cons (o := _) rfl (fun K hK => ?_) ?_
     ·skip
      go_simp
      refine (hBt.out _).mono ?_
      rintro e w8 ⟨rfl, hB⟩
      try replace e6 := (hB.block _ (block_lt e6)).trans e6
      go_wp2_with fail
      refine hK.out _ _ ?_ (fun hHeld => ?_)
      ·exact hHeld.trans (hB.mono hHeld.size)
      clear hK K
      try simp only [Act.put, sQ]
      refine wpAnyH_ready (rs := [7]) (by kernel_rfl) (by simp) ?_
      refine AllReadyH.cons (o := _) rfl (fun K hK => ?_) AllReadyH.nil
      refine step_alloc_rowT rfl 140 rfl z2C zInfo2 ?_
      intro g6 w8 b6 e6 hB
      have m6 := Nat.le_trans hHeld.size b6
      refine hK.out _ _ ?_ (fun hHeld => ?_)
      ·exact hHeld.trans (hB.mono hHeld.size)
      clear hK K
      try simp only [Act.put, sQ]
      refine wpAnyH_ready (rs := [8]) (by kernel_rfl) (by simp) ?_
      refine AllReadyH.cons (o := _) rfl (fun K hK => ?_) AllReadyH.nil
      refine step_store_rowT rfl 140 (.tmp 6) (.tmp 16) rfl g6 _ rfl rfl 140 z2C e6 size2 rfl (one2 l rr) ?_
      intro w9 d6 hG
      refine hK.out _ _ ?_ (fun hHeld => ?_)
      ·exact hHeld.grown hG hHeld.size (by intro k hk; injection hk with hk; omega)
      clear hK K
      try simp only [Act.put, sQ]
      refine' tkL 9 ?_ rfl ?_ ?_
      rotate_left
      ·intro W hSw
       go_simp
       first | done | (with_reducible rfl)
      try simp only [Act.put, sQ]
      refine wpAnyH_done (by kernel_rfl) ?_ _
      refine NoPanic.normal ?_
      have q9 := rangeOf (l := [Value.int .i64 l, .int .i64 rr]) d6
      have c0 := q9 1 _ rfl
      rw [Nat.zero_add] at c0
      have o9 := hid (o2.out.bel hHeld)
      have W9 := hid (W2.out.trans (hHeld.mono W2.out.size))
      have lt6 := hid (block_lt d6)
      have lo9 := hid (Nat.le_trans hlo.out hHeld.size)
      clear d6 o2 hHeld R2 T2 k2
      try clear hB
      try clear hG
      try clear e6
      go_wp2_with (first
       | (with_reducible refine wpList_buildOne slotInt (by decide) rfl (.tmp 25) rfl [Value.int .i64 rr] rfl rfl ?_)
       | (at_builtin; refine wpList_appOwnG slotInt rfl (.tmp 21) (.tmp 26) rfl w0.heap.size w0.heap.size A5 _ os.length 1 c5 1 os [rr] (fun _ => False) rfl rfl rfl rfl (o9.out.alloc _) (src_alloc (rep_int hI2.out)) (fun b hb => hb.elim) (by have := hlt; simp only [List.length_singleton]; omega) (by have := lo9.out; rw [World.size_alloc]; omega) ?_; intro A6 c6 w11 ho11 hB11 hG11; have q11 := rangeAt_kept q9 (w' := w11) (fun hl => (hG11.block g6 (by have := lt6.out; rw [World.size_alloc]; omega) (ne_map fun a ha => ⟨(hbk.out a ha).1, Nat.lt_of_lt_of_le (hbk.out a ha).2 m6⟩)).trans ((ext_alloc w9 (.cells [Value.int .i64 rr].toArray 3)).block g6 hl)); have c1 := q11 0 _ rfl; rw [Nat.zero_add] at c1; have ho := hid ho11; have W11 := hid (W9.out.trans ((((ext_alloc w9 (.cells [Value.int .i64 rr].toArray 3)).mono lo9.out)).trans hB11)); clear ho11 hB11 hG11))
      go_roundw
      case rel => exact ⟨l, os ++ [rr], A6, c6, rfl, (by rw [List.length_append]; rfl), ho.out, hn2.out, W11.out⟩
      case measure => simp [lenV]; omega
     refine AllReadyH.cons (o := _) rfl (fun K hK => ?_) ?_
     ·skip
      refine step_alloc_rowT rfl 140 rfl z2C zInfo2 ?_
      intro g6 w8 b6 e6 hB
      have m6 := Nat.le_trans hHeld.size b6
      refine hK.out _ _ ?_ (fun hHeld => ?_)
      ·exact hHeld.trans (hB.mono hHeld.size)
      clear hK K
      try simp only [Act.put, sQ]
      refine wpAnyH_ready (rs := [6]) (by kernel_rfl) (by simp) ?_
      refine AllReadyH.cons (o := _) rfl (fun K hK => ?_) AllReadyH.nil
      go_simp
      refine (hBt.out _).mono ?_
      rintro e w8 ⟨rfl, hB⟩
      try replace e6 := (hB.block _ (block_lt e6)).trans e6
      go_wp2_with fail
      refine hK.out _ _ ?_ (fun hHeld => ?_)
      ·exact hHeld.trans (hB.mono hHeld.size)
      clear hK K
      try simp only [Act.put, sQ]
      refine wpAnyH_ready (rs := [8]) (by kernel_rfl) (by simp) ?_
      refine AllReadyH.cons (o := _) rfl (fun K hK => ?_) AllReadyH.nil
      refine step_store_rowT rfl 140 (.tmp 6) (.tmp 16) rfl g6 _ rfl rfl 140 z2C e6 size2 rfl (one2 l rr) ?_
      intro w9 d6 hG
      refine hK.out _ _ ?_ (fun hHeld => ?_)
      ·exact hHeld.grown hG hHeld.size (by intro k hk; injection hk with hk; omega)
      clear hK K
      try simp only [Act.put, sQ]
      refine' tkL 9 ?_ rfl ?_ ?_
      rotate_left
      ·intro W hSw
       go_simp
       first | done | (with_reducible rfl)
      try simp only [Act.put, sQ]
      refine wpAnyH_done (by kernel_rfl) ?_ _
      refine NoPanic.normal ?_
      have q9 := rangeOf (l := [Value.int .i64 l, .int .i64 rr]) d6
      have c0 := q9 1 _ rfl
      rw [Nat.zero_add] at c0
      have o9 := hid (o2.out.bel hHeld)
      have W9 := hid (W2.out.trans (hHeld.mono W2.out.size))
      have lt6 := hid (block_lt d6)
      have lo9 := hid (Nat.le_trans hlo.out hHeld.size)
      clear d6 o2 hHeld R2 T2 k2
      try clear hB
      try clear hG
      try clear e6
      go_wp2_with (first
       | (with_reducible refine wpList_buildOne slotInt (by decide) rfl (.tmp 25) rfl [Value.int .i64 rr] rfl rfl ?_)
       | (at_builtin; refine wpList_appOwnG slotInt rfl (.tmp 21) (.tmp 26) rfl w0.heap.size w0.heap.size A5 _ os.length 1 c5 1 os [rr] (fun _ => False) rfl rfl rfl rfl (o9.out.alloc _) (src_alloc (rep_int hI2.out)) (fun b hb => hb.elim) (by have := hlt; simp only [List.length_singleton]; omega) (by have := lo9.out; rw [World.size_alloc]; omega) ?_; intro A6 c6 w11 ho11 hB11 hG11; have q11 := rangeAt_kept q9 (w' := w11) (fun hl => (hG11.block g6 (by have := lt6.out; rw [World.size_alloc]; omega) (ne_map fun a ha => ⟨(hbk.out a ha).1, Nat.lt_of_lt_of_le (hbk.out a ha).2 m6⟩)).trans ((ext_alloc w9 (.cells [Value.int .i64 rr].toArray 3)).block g6 hl)); have c1 := q11 0 _ rfl; rw [Nat.zero_add] at c1; have ho := hid ho11; have W11 := hid (W9.out.trans ((((ext_alloc w9 (.cells [Value.int .i64 rr].toArray 3)).mono lo9.out)).trans hB11)); clear ho11 hB11 hG11))
      go_roundw
      case rel => exact ⟨l, os ++ [rr], A6, c6, rfl, (by rw [List.length_append]; rfl), ho.out, hn2.out, W11.out⟩
      case measure => simp [lenV]; omega
     exact AllReadyH.nil
    refine AllReadyH.cons (o := _) rfl (fun K hK => ?_) ?_
    ·skip
     refine step_alloc_rowT rfl 140 rfl z2C zInfo2 ?_
     intro g6 w8 b6 e6 hB
     have m6 := Nat.le_trans hHeld.size b6
     refine hK.out _ _ ?_ (fun hHeld => ?_)
     ·exact hHeld.trans (hB.mono hHeld.size)
     clear hK K
     try simp only [Act.put, sQ]
     refine wpAnyH_ready (rs := [2]) (by kernel_rfl) (by simp) ?_
     refine AllReadyH.cons (o := _) rfl (fun K hK => ?_) AllReadyH.nil
     go_simp
     refine (hRd.out _ (rangeBel2 hHeld R2.out)).mono ?_
     rintro e w8 ⟨rfl, hB⟩
     try replace e6 := (hB.block _ (block_lt e6)).trans e6
     go_wp2_with fail
     refine hK.out _ _ ?_ (fun hHeld => ?_)
     ·exact hHeld.trans (hB.mono hHeld.size)
     clear hK K
     try simp only [Act.put, sQ]
     refine wpAnyH_ready (rs := [6]) (by kernel_rfl) (by simp) ?_
     refine AllReadyH.cons (o := _) rfl (fun K hK => ?_) AllReadyH.nil
     go_simp
     refine (hBt.out _).mono ?_
     rintro e w8 ⟨rfl, hB⟩
     try replace e6 := (hB.block _ (block_lt e6)).trans e6
     go_wp2_with fail
     refine hK.out _ _ ?_ (fun hHeld => ?_)
     ·exact hHeld.trans (hB.mono hHeld.size)
     clear hK K
     try simp only [Act.put, sQ]
     refine wpAnyH_ready (rs := [8]) (by kernel_rfl) (by simp) ?_
     refine AllReadyH.cons (o := _) rfl (fun K hK => ?_) AllReadyH.nil
     refine step_store_rowT rfl 140 (.tmp 6) (.tmp 16) rfl g6 _ rfl rfl 140 z2C e6 size2 rfl (one2 l rr) ?_
     intro w9 d6 hG
     refine hK.out _ _ ?_ (fun hHeld => ?_)
     ·exact hHeld.grown hG hHeld.size (by intro k hk; injection hk with hk; omega)
     clear hK K
     try simp only [Act.put, sQ]
     refine' tkL 9 ?_ rfl ?_ ?_
     rotate_left
     ·intro W hSw
      go_simp
      first | done | (with_reducible rfl)
     try simp only [Act.put, sQ]
     refine wpAnyH_done (by kernel_rfl) ?_ _
     refine NoPanic.normal ?_
     have q9 := rangeOf (l := [Value.int .i64 l, .int .i64 rr]) d6
     have c0 := q9 1 _ rfl
     rw [Nat.zero_add] at c0
     have o9 := hid (o2.out.bel hHeld)
     have W9 := hid (W2.out.trans (hHeld.mono W2.out.size))
     have lt6 := hid (block_lt d6)
     have lo9 := hid (Nat.le_trans hlo.out hHeld.size)
     clear d6 o2 hHeld R2 T2 k2
     try clear hB
     try clear hG
     try clear e6
     go_wp2_with (first
      | (with_reducible refine wpList_buildOne slotInt (by decide) rfl (.tmp 25) rfl [Value.int .i64 rr] rfl rfl ?_)
      | (at_builtin; refine wpList_appOwnG slotInt rfl (.tmp 21) (.tmp 26) rfl w0.heap.size w0.heap.size A5 _ os.length 1 c5 1 os [rr] (fun _ => False) rfl rfl rfl rfl (o9.out.alloc _) (src_alloc (rep_int hI2.out)) (fun b hb => hb.elim) (by have := hlt; simp only [List.length_singleton]; omega) (by have := lo9.out; rw [World.size_alloc]; omega) ?_; intro A6 c6 w11 ho11 hB11 hG11; have q11 := rangeAt_kept q9 (w' := w11) (fun hl => (hG11.block g6 (by have := lt6.out; rw [World.size_alloc]; omega) (ne_map fun a ha => ⟨(hbk.out a ha).1, Nat.lt_of_lt_of_le (hbk.out a ha).2 m6⟩)).trans ((ext_alloc w9 (.cells [Value.int .i64 rr].toArray 3)).block g6 hl)); have c1 := q11 0 _ rfl; rw [Nat.zero_add] at c1; have ho := hid ho11; have W11 := hid (W9.out.trans ((((ext_alloc w9 (.cells [Value.int .i64 rr].toArray 3)).mono lo9.out)).trans hB11)); clear ho11 hB11 hG11))
     go_roundw
     case rel => exact ⟨l, os ++ [rr], A6, c6, rfl, (by rw [List.length_append]; rfl), ho.out, hn2.out, W11.out⟩
     case measure => simp [lenV]; omega
    exact AllReadyH.nil
   ·have i1 : IntKind.u8.wrap ((1 : Int) - 1) = 0 := by decide
    have hn2 := hid (n1.out rfl)
    go_wp2
    refine wp_region_noPanic ?_
    refine wp_region_held_drew (S := fun w' => Below w2.heap.size w2 w') (by kernel_rfl) ?_ (fun hHeld => ?_)
    ·exact bel_drew w2
    refine' tkH 0 rfl (yieldsIf_load_mid (by rfl) _ _ rfl _ _ rfl _ _ (fun _ h => rangeBel2 h T2.all) hut rfl hiT.out) ?_
    try simp only [Act.put, sQ]
    refine' tkL 1 ?_ rfl ?_ ?_
    rotate_left
    ·intro W hSw
     go_simp
     first | done | (with_reducible rfl)
    try simp only [Act.put, sQ]
    refine' tkH 3 rfl (yieldsIf_load_mid (by rfl) _ _ rfl _ _ rfl _ _ (fun _ h => rangeBel2 h k2) hu rfl hi.out) ?_
    try simp only [Act.put, sQ]
    refine' tkL 4 ?_ rfl ?_ ?_
    rotate_left
    ·intro W hSw
     go_simp
     first | done | (with_reducible rfl)
    try simp only [Act.put, sQ]
    refine' tkL 5 ?_ rfl ?_ ?_
    rotate_left
    ·intro W hSw
     go_simp
     first | done | (with_reducible rfl)
    try simp only [Act.put, sQ]
    refine wpAnyH_ready (rs := [2, 7]) (by kernel_rfl) (by simp) ?_
    refine AllReadyH.cons (o := _) rfl (fun K hK => ?_) ?_
    ·skip
     go_simp
     refine (hRd.out _ (rangeBel2 hHeld R2.out)).mono ?_
     rintro e w8 ⟨rfl, hB⟩
     try replace e6 := (hB.block _ (block_lt e6)).trans e6
     go_wp2_with fail
     refine hK.out _ _ ?_ (fun hHeld => ?_)
     ·exact hHeld.trans (hB.mono hHeld.size)
     clear hK K
     try simp only [Act.put, sQ]
     refine wpAnyH_ready (rs := [6, 7]) (by kernel_rfl) (by simp) ?_
     refine AllReadyH.cons (o := _) rfl (fun K hK => ?_) ?_
     ·skip
      go_simp
      refine (hBt.out _).mono ?_
      rintro e w8 ⟨rfl, hB⟩
      try replace e6 := (hB.block _ (block_lt e6)).trans e6
      go_wp2_with fail
      refine hK.out _ _ ?_ (fun hHeld => ?_)
      ·exact hHeld.trans (hB.mono hHeld.size)
      clear hK K
      try simp only [Act.put, sQ]
      refine wpAnyH_ready (rs := [7]) (by kernel_rfl) (by simp) ?_
      refine AllReadyH.cons (o := _) rfl (fun K hK => ?_) AllReadyH.nil
      refine step_alloc_rowT rfl 140 rfl z2C zInfo2 ?_
      intro g6 w8 b6 e6 hB
      have m6 := Nat.le_trans hHeld.size b6
      refine hK.out _ _ ?_ (fun hHeld => ?_)
      ·exact hHeld.trans (hB.mono hHeld.size)
      clear hK K
      try simp only [Act.put, sQ]
      refine wpAnyH_ready (rs := [8]) (by kernel_rfl) (by simp) ?_
      refine AllReadyH.cons (o := _) rfl (fun K hK => ?_) AllReadyH.nil
      refine step_store_rowT rfl 140 (.tmp 6) (.tmp 16) rfl g6 _ rfl rfl 140 z2C e6 size2 rfl (one2 l rr) ?_
      intro w9 d6 hG
      refine hK.out _ _ ?_ (fun hHeld => ?_)
      ·exact hHeld.grown hG hHeld.size (by intro k hk; injection hk with hk; omega)
      clear hK K
      try simp only [Act.put, sQ]
      refine' tkL 9 ?_ rfl ?_ ?_
      rotate_left
      ·intro W hSw
       go_simp
       first | done | (with_reducible rfl)
      try simp only [Act.put, sQ]
      refine wpAnyH_done (by kernel_rfl) ?_ _
      refine NoPanic.normal ?_
      have q9 := rangeOf (l := [Value.int .i64 l, .int .i64 rr]) d6
      have c0 := q9 0 _ rfl
      rw [Nat.zero_add] at c0
      have o9 := hid (o2.out.bel hHeld)
      have W9 := hid (W2.out.trans (hHeld.mono W2.out.size))
      have lt6 := hid (block_lt d6)
      have lo9 := hid (Nat.le_trans hlo.out hHeld.size)
      clear d6 o2 hHeld R2 T2 k2
      try clear hB
      try clear hG
      try clear e6
      go_wp2_with (first
       | (with_reducible refine wpList_buildOne slotInt (by decide) rfl (.tmp 25) rfl [Value.int .i64 l] rfl rfl ?_)
       | (at_builtin; refine wpList_appOwnG slotInt rfl (.tmp 21) (.tmp 26) rfl w0.heap.size w0.heap.size A5 _ os.length 1 c5 1 os [l] (fun _ => False) rfl rfl rfl rfl (o9.out.alloc _) (src_alloc (rep_int hI1.out)) (fun b hb => hb.elim) (by have := hlt; simp only [List.length_singleton]; omega) (by have := lo9.out; rw [World.size_alloc]; omega) ?_; intro A6 c6 w11 ho11 hB11 hG11; have q11 := rangeAt_kept q9 (w' := w11) (fun hl => (hG11.block g6 (by have := lt6.out; rw [World.size_alloc]; omega) (ne_map fun a ha => ⟨(hbk.out a ha).1, Nat.lt_of_lt_of_le (hbk.out a ha).2 m6⟩)).trans ((ext_alloc w9 (.cells [Value.int .i64 l].toArray 3)).block g6 hl)); have c1 := q11 1 _ rfl; rw [Nat.zero_add] at c1; have ho := hid ho11; have W11 := hid (W9.out.trans ((((ext_alloc w9 (.cells [Value.int .i64 l].toArray 3)).mono lo9.out)).trans hB11)); clear ho11 hB11 hG11))
      go_roundw
      case rel => exact ⟨rr, os ++ [l], A6, c6, rfl, (by rw [List.length_append]; rfl), ho.out, hn2.out, W11.out⟩
      case measure => simp [lenV]; omega
     refine AllReadyH.cons (o := _) rfl (fun K hK => ?_) ?_
     ·skip
      refine step_alloc_rowT rfl 140 rfl z2C zInfo2 ?_
      intro g6 w8 b6 e6 hB
      have m6 := Nat.le_trans hHeld.size b6
      refine hK.out _ _ ?_ (fun hHeld => ?_)
      ·exact hHeld.trans (hB.mono hHeld.size)
      clear hK K
      try simp only [Act.put, sQ]
      refine wpAnyH_ready (rs := [6]) (by kernel_rfl) (by simp) ?_
      refine AllReadyH.cons (o := _) rfl (fun K hK => ?_) AllReadyH.nil
      go_simp
      refine (hBt.out _).mono ?_
      rintro e w8 ⟨rfl, hB⟩
      try replace e6 := (hB.block _ (block_lt e6)).trans e6
      go_wp2_with fail
      refine hK.out _ _ ?_ (fun hHeld => ?_)
      ·exact hHeld.trans (hB.mono hHeld.size)
      clear hK K
      try simp only [Act.put, sQ]
      refine wpAnyH_ready (rs := [8]) (by kernel_rfl) (by simp) ?_
      refine AllReadyH.cons (o := _) rfl (fun K hK => ?_) AllReadyH.nil
      refine step_store_rowT rfl 140 (.tmp 6) (.tmp 16) rfl g6 _ rfl rfl 140 z2C e6 size2 rfl (one2 l rr) ?_
      intro w9 d6 hG
      refine hK.out _ _ ?_ (fun hHeld => ?_)
      ·exact hHeld.grown hG hHeld.size (by intro k hk; injection hk with hk; omega)
      clear hK K
      try simp only [Act.put, sQ]
      refine' tkL 9 ?_ rfl ?_ ?_
      rotate_left
      ·intro W hSw
       go_simp
       first | done | (with_reducible rfl)
      try simp only [Act.put, sQ]
      refine wpAnyH_done (by kernel_rfl) ?_ _
      refine NoPanic.normal ?_
      have q9 := rangeOf (l := [Value.int .i64 l, .int .i64 rr]) d6
      have c0 := q9 0 _ rfl
      rw [Nat.zero_add] at c0
      have o9 := hid (o2.out.bel hHeld)
      have W9 := hid (W2.out.trans (hHeld.mono W2.out.size))
      have lt6 := hid (block_lt d6)
      have lo9 := hid (Nat.le_trans hlo.out hHeld.size)
      clear d6 o2 hHeld R2 T2 k2
      try clear hB
      try clear hG
      try clear e6
      go_wp2_with (first
       | (with_reducible refine wpList_buildOne slotInt (by decide) rfl (.tmp 25) rfl [Value.int .i64 l] rfl rfl ?_)
       | (at_builtin; refine wpList_appOwnG slotInt rfl (.tmp 21) (.tmp 26) rfl w0.heap.size w0.heap.size A5 _ os.length 1 c5 1 os [l] (fun _ => False) rfl rfl rfl rfl (o9.out.alloc _) (src_alloc (rep_int hI1.out)) (fun b hb => hb.elim) (by have := hlt; simp only [List.length_singleton]; omega) (by have := lo9.out; rw [World.size_alloc]; omega) ?_; intro A6 c6 w11 ho11 hB11 hG11; have q11 := rangeAt_kept q9 (w' := w11) (fun hl => (hG11.block g6 (by have := lt6.out; rw [World.size_alloc]; omega) (ne_map fun a ha => ⟨(hbk.out a ha).1, Nat.lt_of_lt_of_le (hbk.out a ha).2 m6⟩)).trans ((ext_alloc w9 (.cells [Value.int .i64 l].toArray 3)).block g6 hl)); have c1 := q11 1 _ rfl; rw [Nat.zero_add] at c1; have ho := hid ho11; have W11 := hid (W9.out.trans ((((ext_alloc w9 (.cells [Value.int .i64 l].toArray 3)).mono lo9.out)).trans hB11)); clear ho11 hB11 hG11))
      go_roundw
      case rel => exact ⟨rr, os ++ [l], A6, c6, rfl, (by rw [List.length_append]; rfl), ho.out, hn2.out, W11.out⟩
      case measure => simp [lenV]; omega
     exact AllReadyH.nil
    refine AllReadyH.cons (o := _) rfl (fun K hK => ?_) ?_
    ·skip
     refine step_alloc_rowT rfl 140 rfl z2C zInfo2 ?_
     intro g6 w8 b6 e6 hB
     have m6 := Nat.le_trans hHeld.size b6
     refine hK.out _ _ ?_ (fun hHeld => ?_)
     ·exact hHeld.trans (hB.mono hHeld.size)
     clear hK K
     try simp only [Act.put, sQ]
     refine wpAnyH_ready (rs := [2]) (by kernel_rfl) (by simp) ?_
     refine AllReadyH.cons (o := _) rfl (fun K hK => ?_) AllReadyH.nil
     go_simp
     refine (hRd.out _ (rangeBel2 hHeld R2.out)).mono ?_
     rintro e w8 ⟨rfl, hB⟩
     try replace e6 := (hB.block _ (block_lt e6)).trans e6
     go_wp2_with fail
     refine hK.out _ _ ?_ (fun hHeld => ?_)
     ·exact hHeld.trans (hB.mono hHeld.size)
     clear hK K
     try simp only [Act.put, sQ]
     refine wpAnyH_ready (rs := [6]) (by kernel_rfl) (by simp) ?_
     refine AllReadyH.cons (o := _) rfl (fun K hK => ?_) AllReadyH.nil
     go_simp
     refine (hBt.out _).mono ?_
     rintro e w8 ⟨rfl, hB⟩
     try replace e6 := (hB.block _ (block_lt e6)).trans e6
     go_wp2_with fail
     refine hK.out _ _ ?_ (fun hHeld => ?_)
     ·exact hHeld.trans (hB.mono hHeld.size)
     clear hK K
     try simp only [Act.put, sQ]
     refine wpAnyH_ready (rs := [8]) (by kernel_rfl) (by simp) ?_
     refine AllReadyH.cons (o := _) rfl (fun K hK => ?_) AllReadyH.nil
     refine step_store_rowT rfl 140 (.tmp 6) (.tmp 16) rfl g6 _ rfl rfl 140 z2C e6 size2 rfl (one2 l rr) ?_
     intro w9 d6 hG
     refine hK.out _ _ ?_ (fun hHeld => ?_)
     ·exact hHeld.grown hG hHeld.size (by intro k hk; injection hk with hk; omega)
     clear hK K
     try simp only [Act.put, sQ]
     refine' tkL 9 ?_ rfl ?_ ?_
     rotate_left
     ·intro W hSw
      go_simp
      first | done | (with_reducible rfl)
     try simp only [Act.put, sQ]
     refine wpAnyH_done (by kernel_rfl) ?_ _
     refine NoPanic.normal ?_
     have q9 := rangeOf (l := [Value.int .i64 l, .int .i64 rr]) d6
     have c0 := q9 0 _ rfl
     rw [Nat.zero_add] at c0
     have o9 := hid (o2.out.bel hHeld)
     have W9 := hid (W2.out.trans (hHeld.mono W2.out.size))
     have lt6 := hid (block_lt d6)
     have lo9 := hid (Nat.le_trans hlo.out hHeld.size)
     clear d6 o2 hHeld R2 T2 k2
     try clear hB
     try clear hG
     try clear e6
     go_wp2_with (first
      | (with_reducible refine wpList_buildOne slotInt (by decide) rfl (.tmp 25) rfl [Value.int .i64 l] rfl rfl ?_)
      | (at_builtin; refine wpList_appOwnG slotInt rfl (.tmp 21) (.tmp 26) rfl w0.heap.size w0.heap.size A5 _ os.length 1 c5 1 os [l] (fun _ => False) rfl rfl rfl rfl (o9.out.alloc _) (src_alloc (rep_int hI1.out)) (fun b hb => hb.elim) (by have := hlt; simp only [List.length_singleton]; omega) (by have := lo9.out; rw [World.size_alloc]; omega) ?_; intro A6 c6 w11 ho11 hB11 hG11; have q11 := rangeAt_kept q9 (w' := w11) (fun hl => (hG11.block g6 (by have := lt6.out; rw [World.size_alloc]; omega) (ne_map fun a ha => ⟨(hbk.out a ha).1, Nat.lt_of_lt_of_le (hbk.out a ha).2 m6⟩)).trans ((ext_alloc w9 (.cells [Value.int .i64 l].toArray 3)).block g6 hl)); have c1 := q11 1 _ rfl; rw [Nat.zero_add] at c1; have ho := hid ho11; have W11 := hid (W9.out.trans ((((ext_alloc w9 (.cells [Value.int .i64 l].toArray 3)).mono lo9.out)).trans hB11)); clear ho11 hB11 hG11))
     go_roundw
     case rel => exact ⟨rr, os ++ [l], A6, c6, rfl, (by rw [List.length_append]; rfl), ho.out, hn2.out, W11.out⟩
     case measure => simp [lenV]; omega
    exact AllReadyH.nil
end

/- (TreeLh)
 Contracts of the landed package tree: Sum.
-/
section
open Go.RowKit

/-- What Sum tells: equal to the document's text's sumT by rfl. -/
def sumM (t : Tr) : Dg := if mayT t = true then ⟨sumP t.ns 256 t.root, sumP_length⟩ else z0
end
end Go.Proofs.YtmjocmogfckmmaaDoor
