/-
  The Go function PairsWays returns true: two values put in either order make one map, and so one root: any pairs, and two more; its arguments read afterwards as before.
  Conditions: none. The frame around the walk was written by program (proof-skeleton.mjs).
-/
import Derived.Test.YtbblokhpoempbaaDoorRows
import Derived.Test.YtbblokhpoempbaaDoorDoor
import Derived.WalkKit
import Derived.ProofKit
import Derived.OpenShut
import Derived.ShutString
import Derived.ChangeOld
import Derived.Below
import Derived.Test.YtbblokhpoempbaaDoorAlive05
import Derived.Test.YtbblokhpoempbaaDoorBits
import Derived.Test.YtbblokhpoempbaaDoorStructArg
import Derived.Test.YtbblokhpoempbaaDoorPrR
import Derived.Test.YtbblokhpoempbaaDoorPrA
import Derived.Test.YtbblokhpoempbaaDoorPlain
import Derived.Test.YtbblokhpoempbaaDoorRefE
namespace Go.Proofs.YtbblokhpoempbaaDoor.pairsWays
open Go.ChangeShapes Go.WideShapes Go.ChangeAt Go.RowKit
open Go.ChangeMaps (open_string shut_string)
set_option linter.unusedVariables false

theorem own : ownKnob Tryd.prog.godebug = none := by kernel_rfl
theorem laidOut : laidOutB Tryd.prog = true := by kernel_rfl

/-- WHAT THE WALK IS TOLD OF A SLICE OF INTEGERS THAT CAME IN: it is nil; or it leads to a row of 'cap' cells, the numbers 'zs' (the first 'len' are its elements, the rest its spare room), each fitting its kind. -/
def IsRow (k : IntKind) (w : World) (a : Option Addr) (len cap : Nat) (zs : List Int) : Prop :=
  (a = none ∧ len = 0 ∧ cap = 0 ∧ zs = []) ∨
  ∃ x, a = some x ∧ len ≤ cap ∧ cap ≤ maxLen ∧ zs.length = cap ∧ (∀ i, i < zs.length → w.cell? (x.add i) = some (.int k (zs.getD i 0))) ∧ ∀ n ∈ zs, (Lit.int k n).wf = true

/-! ### the walk -/
open Go.Proofs.YtbblokhpoempbaaDoor
/-- A pair in a box. -/
structure BoxP (W : World) (g : Nat) (dk : List Value) (V : Option Addr) (n d : Nat) : Prop where
  key : W.rangeAt g 0 dk
  val : W.cell? ⟨g, 32, none⟩ = some (.slice V n d)
theorem BoxP.bel {W W' : World} {g : Nat} {dk : List Value} {V : Option Addr} {n d : Nat} (h : BoxP W g dk V n d) (hb : Below W.heap.size W W') : BoxP W' g dk V n d :=
  ⟨rangeBel2 hb h.key, (hb.cell (World.block_lt_of_cell? _ _ h.val)).trans h.val⟩
theorem BoxP.mk' {W : World} {g : Nat} {dk : List Value} {V : Option Addr} {n d : Nat} (hk : dk.length = 32) (h : W.rangeAt g 0 (dk ++ [.slice V n d])) : BoxP W g dk V n d :=
  ⟨fun j v hv => h j v (by rw [List.getElem?_append_left (List.getElem?_eq_some_iff.1 hv).1]; exact hv), by
    have := h 32 (.slice V n d) (by rw [List.getElem?_append_right (by omega), hk]; rfl)
    rw [Nat.zero_add] at this
    exact this⟩
theorem boxesW (w : World) (d1 d2 : List Value) (t : TypeId) : ((w.alloc (.cells d1.toArray t)).alloc (.cells d2.toArray t)).rangeAt w.heap.size 0 d1 ∧ ((w.alloc (.cells d1.toArray t)).alloc (.cells d2.toArray t)).rangeAt (w.heap.size + 1) 0 d2 ∧ Below w.heap.size w ((w.alloc (.cells d1.toArray t)).alloc (.cells d2.toArray t)) := by
  have h1 := rangeOf (heap_alloc_new w (.cells d1.toArray t))
  have h2 := rangeOf (heap_alloc_new (w.alloc (.cells d1.toArray t)) (.cells d2.toArray t))
  rw [World.size_alloc] at h2
  exact ⟨rangeBel2 (ext_alloc _ _) h1, h2, ext_trans (ext_alloc _ _) (ext_alloc _ _)⟩
theorem put_le (ps : List Pr) (k : Dg) (v : List UInt8) : (mPutL ps k v).length ≤ 512 := by
  by_cases h : mPutE ps k v = 0
  · obtain ⟨_, _, h3, h4⟩ := put_ok h
    rw [h3]
    exact (may_iff.1 h4).1
  · rw [put_no h]
    simp
theorem put_root (ps : List Pr) (k : Dg) (v : List UInt8) (h : mPutE ps k v = 0) : rootE (mPutL ps k v) = 0 := by
  obtain ⟨_, _, h3, h4⟩ := put_ok h
  unfold rootE
  rw [h3, h4, if_pos rfl]
/-- Two puts in either order. -/
theorem put_two {ps : List Pr} {a b : Dg} {v w : List UInt8} (hab : a ≠ b) (h1 : mPutE ps a v = 0) (h2 : mPutE (mPutL ps a v) b w = 0) :
    mPutE ps b w = 0 ∧ mPutE (mPutL ps b w) a v = 0 ∧ mPutL (mPutL ps b w) a v = mPutL (mPutL ps a v) b w := by
  obtain ⟨m1, v1, l1, n1⟩ := put_ok h1
  obtain ⟨m2, v2, l2, n2⟩ := put_ok h2
  rw [l1] at l2 n2 m2
  have hs := may_srt m1
  have hsw := with_swap hs v w hab
  have e3 : mPutE ps b w = 0 := by
    unfold mPutE
    rw [m1, v2, if_pos (show (true && true) = true from rfl), if_neg]
    have q1 := (may_iff.1 n2).1
    rw [hsw, with_length] at q1
    have q2 : (withP ps b w).length ≤ (withoutP (withP ps b w) a).length + 1 := by
      cases hh : hasP (withP ps b w) a with
      | true => rw [without_length (with_srt hs b w) hh]; omega
      | false => rw [without_no hh]; omega
    omega
  obtain ⟨_, _, l3, n3⟩ := put_ok e3
  have e4 : mPutE (mPutL ps b w) a v = 0 := by
    unfold mPutE
    rw [l3, n3, v1, if_pos (show (true && true) = true from rfl), if_neg]
    have q1 := (may_iff.1 n2).1
    rw [hsw] at q1
    omega
  obtain ⟨_, _, l4, n4⟩ := put_ok e4
  refine ⟨e3, e4, ?_⟩
  rw [l4, l3, l1, l2, hsw]
set_option maxRecDepth 100000 in
set_option maxHeartbeats 4000000 in
theorem walk (a0 : Option Addr) (len0 cap0 : Nat) (ps0 : List Pr) (x1 : Pr) (vs1 : List Value) (x2 : Pr) (vs2 : List Value) (w : World) (w0 : len0 = ps0.length ∧ Row (fun b => b < w.heap.size) w a0 ps0 ∧ ps0.length ≤ cap0 ∧ cap0 ≤ maxLen) (w1 : Enc.rep (fun b => b < w.heap.size) w x1 vs1) (w2 : Enc.rep (fun b => b < w.heap.size) w x2 vs2) (hT : Tab w) :
    Calls Tryd.prog 5 #[.slice a0 len0 cap0, .agg vs1.toArray, .agg vs2.toArray] w fun e w' => e = .returned (.bool true) ∧ Below w.heap.size w w' := by
  obtain ⟨rfl, hr, hcap, hcm⟩ := w0
  obtain ⟨V1, d1, rfl, hd1, hm1, hrv1⟩ := rep_pr w1
  obtain ⟨V2, d2, rfl, hd2, hm2, hrv2⟩ := rep_pr w2
  obtain ⟨k1, v1⟩ := x1
  obtain ⟨k2, v2⟩ := x2
  dsimp only at *
  have hcm2 : cap0 ≤ 9223372036854775807 := by unfold maxLen at hcm; omega
  have hu := Tryd.underlying23
  have hi1 := hid (sizeDg k1)
  have hi2 := hid (sizeDg k2)
  have hlk1 : (k1.1.map bv).length = 32 := by rw [List.length_map]; exact k1.2
  have hlk2 : (k2.1.map bv).length = 32 := by rw [List.length_map]; exact k2.2
  obtain ⟨r1, r2, B0⟩ := boxesW w (k1.1.map bv ++ [.slice V1 v1.length d1]) (k2.1.map bv ++ [.slice V2 v2.length d2]) 26
  have b1 := BoxP.mk' hlk1 r1
  have b2 := BoxP.mk' hlk2 r2
  have hr0 := hr.bel B0
  have hrv10 := hrv1.rd.bel B0
  have hrv20 := hrv2.rd.bel B0
  have hT0 := hid (hT.bel B0 hT.low)
  obtain ⟨gb, hgb⟩ : ∃ gb, greatP ps0 20 = gb := ⟨_, rfl⟩
  have hGr := fun W hW => RGreat_any (fun b => b < w.heap.size) a0 cap0 ps0.length 20 ps0 W hW rfl (by omega)
  rw [hgb] at hGr
  have hPu := fun F A c ps W hW h1 h2 h3 hV => PPut_any F A V1 c ps.length v1.length d1 ps k1 v1 W hW rfl hV rfl hd1 hm1 h1 h2 h3
  have hQu := fun F A c ps W hW h1 h2 h3 hV => PPut_any F A V2 c ps.length v2.length d2 ps k2 v2 W hW rfl hV rfl hd2 hm2 h1 h2 h3
  have hE : ∀ eb, decide (k1 = k2) = eb → ∀ W, (Op.equalIn 10000 23 (.agg (k1.1.map bv).toArray) (.agg (k2.1.map bv).toArray)).run Tryd.prog W = .ok eb W := fun eb heb W => eqd_is k1 k2 eb heb W
  obtain ⟨eb, heb⟩ : ∃ eb, decide (k1 = k2) = eb := ⟨_, rfl⟩
  replace hE := hE eb heb
  have hl1 := put_le ps0 k1 v1
  have hl2 := put_le ps0 k2 v2
  have hl3 := put_le (mPutL ps0 k1 v1) k2 v2
  have hl4 := put_le (mPutL ps0 k2 v2) k1 v1
  have hq1 : eb = false → mPutE ps0 k1 v1 = 0 → mPutE (mPutL ps0 k1 v1) k2 v2 = 0 → mPutE ps0 k2 v2 = 0 ∧ mPutE (mPutL ps0 k2 v2) k1 v1 = 0 ∧ mPutL (mPutL ps0 k2 v2) k1 v1 = mPutL (mPutL ps0 k1 v1) k2 v2 :=
    fun h h1 h2 => put_two (of_decide_eq_false (heb.trans h)) h1 h2
  have hq2 : eb = false → mPutE ps0 k2 v2 = 0 → mPutE (mPutL ps0 k2 v2) k1 v1 = 0 → mPutE ps0 k1 v1 = 0 ∧ mPutE (mPutL ps0 k1 v1) k2 v2 = 0 :=
    fun h h1 h2 => ⟨(put_two (fun e => of_decide_eq_false (heb.trans h) e.symm) h1 h2).1, (put_two (fun e => of_decide_eq_false (heb.trans h) e.symm) h1 h2).2.1⟩
  have hq3 := put_root (mPutL ps0 k1 v1) k2 v2
  have c1 := fun W hW (hc : ps0.length ≤ 1000000) hV => hPu (fun b => b < w.heap.size) a0 cap0 ps0 W hW hc hcap hcm2 hV
  have c2 := fun F A c W hW h2 h3 hV => hQu F A c (mPutL ps0 k1 v1) W hW (by omega) h2 h3 hV
  have c3 := fun W hW (hc : ps0.length ≤ 1000000) hV => hQu (fun b => b < w.heap.size) a0 cap0 ps0 W hW hc hcap hcm2 hV
  have c4 := fun F A c W hW h2 h3 hV => hPu F A c (mPutL ps0 k2 v2) W hW (by omega) h2 h3 hV
  clear hPu hQu w1 w2 hr hrv1 hrv2 hT r1 r2
  generalize mPutE ps0 k1 v1 = e1 at *
  generalize mPutE ps0 k2 v2 = e3 at *
  generalize mPutL ps0 k1 v1 = X at *
  generalize mPutL ps0 k2 v2 = Z at *
  generalize mPutE X k2 v2 = e2 at *
  generalize mPutE Z k1 v1 = e4 at *
  generalize mPutL X k2 v2 = Y at *
  generalize mPutL Z k1 v1 = U at *
  replace hgb := hid hgb
  replace hGr := hid hGr
  replace c1 := hid c1
  replace c2 := hid c2
  replace c3 := hid c3
  replace c4 := hid c4
  replace hq1 := hid hq1
  replace hq2 := hid hq2
  replace hq3 := hid hq3
  replace heb := hid heb
  generalize hdk1 : k1.1.map bv = dk1 at *
  generalize hdk2 : k2.1.map bv = dk2 at *
  replace hdk1 := hid hdk1
  replace hdk2 := hid hdk2
  replace hlk1 := hid hlk1
  replace hlk2 := hid hlk2
  go_enter Tryd.func5, Tryd.ntmps5
  go_wp2_with fail
  generalize (w.alloc (.cells (dk1 ++ [Value.slice V1 v1.length d1]).toArray 26)).alloc (.cells (dk2 ++ [Value.slice V2 v2.length d2]).toArray 26) = w0 at *
  refine (alive5_any _).mono ?_
  rintro e w3 ⟨rfl, hb3⟩
  have b13 := b1.bel hb3
  have b23 := b2.bel hb3
  have hr3 := hr0.bel hb3
  have hv13 := hrv10.bel hb3
  have hv23 := hrv20.bel hb3
  have T3 := hid (hT0.out.bel hb3 hT0.out.low)
  have B3 := hid (B0.trans (hb3.mono B0.size))
  clear b1 b2 hr0 hrv10 hrv20 hT0 B0 hb3
  go_wp2_with fail
  refine (hGr.out _ hr3).mono ?_
  rintro e w4 ⟨rfl, rfl⟩
  have y1 := b13.val
  have y2 := b23.val
  cases gb
  case' true =>
    go_wp2
    go_ret
    exact ⟨rfl, B3.out⟩
  have hlen := (great_no30 hgb.out).1
  by_cases h100 : 100 < v1.length
  case' pos =>
    go_wp2
    go_ret
    exact ⟨rfl, B3.out⟩
  by_cases h200 : 100 < v2.length
  case' pos =>
    go_wp2
    go_ret
    exact ⟨rfl, B3.out⟩
  have g1 : decide ((100 : Int) < (v1.length : Int)) = false := decide_eq_false (by omega)
  have g2 : decide ((100 : Int) < (v2.length : Int)) = false := decide_eq_false (by omega)
  cases eb
  case' true =>
    go_wp2_with (first
      | ((with_reducible refine wpList_load_rng ?_ 23 (.tmp 36) rfl w.heap.size 0 rfl dk1 _ ?_ hu rfl hi1.out ?_); rfl; exact b13.key)
      | ((with_reducible refine wpList_load_rng ?_ 23 (.tmp 38) rfl (w.heap.size + 1) 0 rfl dk2 _ ?_ hu rfl hi2.out ?_); rfl; exact b23.key))
    go_ret
    exact ⟨rfl, B3.out⟩
  replace hq1 := hid (hq1.out rfl)
  replace hq2 := hid (hq2.out rfl)
  go_wp2_with (first
    | ((with_reducible refine wpList_load_rng ?_ 23 (.tmp 36) rfl w.heap.size 0 rfl dk1 _ ?_ hu rfl hi1.out ?_); rfl; exact b13.key)
    | ((with_reducible refine wpList_load_rng ?_ 23 (.tmp 38) rfl (w.heap.size + 1) 0 rfl dk2 _ ?_ hu rfl hi2.out ?_); rfl; exact b23.key)
    | ((with_reducible refine wpList_load_rng rfl 23 (.tmp 49) rfl w.heap.size 0 rfl dk1 _ ?_ hu rfl hi1.out ?_); exact b13.key))
  have b1_3 := b13
  have b2_3 := b23
  have r_3 := hr3
  have v1_3 := hv13
  have v2_3 := hv23
  clear b13 b23 hr3 hv13 hv23 y1 y2 hgb hGr
  refine (c1.out _ r_3 (by omega) v1_3).mono ?_
  rintro e w5 ⟨A5, d5, rfl, ho, hb⟩
  have x_5 := ho.row
  have hc5 := ho.cap
  clear ho
  have b1_5 := b1_3.bel hb
  have b2_5 := b2_3.bel hb
  have r_5 := r_3.bel hb
  have v1_5 := v1_3.bel hb
  have v2_5 := v2_3.bel hb
  have T5 := hid (T3.out.bel hb T3.out.low)
  have B5 := hid (B3.out.trans (hb.mono B3.out.size))
  clear b1_3 b2_3 r_3 v1_3 v2_3 T3 B3 hb
  have y := b2_5.val
  go_wp2_with (first
    | ((with_reducible refine wpList_load_rng rfl 23 (.tmp 58) rfl (w.heap.size + 1) 0 rfl dk2 _ ?_ hu rfl hi2.out ?_); exact b2_5.key))
  refine (c2.out _ A5 d5 _ x_5 hc5.1 (by have := hc5.2; unfold maxLen at this; omega) v2_5).mono ?_
  rintro e w6 ⟨A6, d6, rfl, ho, hb⟩
  have y_6 := ho.row
  have hc6 := ho.cap
  clear ho y x_5 hc5
  have b1_6 := b1_5.bel hb
  have b2_6 := b2_5.bel hb
  have r_6 := r_5.bel hb
  have v1_6 := v1_5.bel hb
  have v2_6 := v2_5.bel hb
  have T6 := hid (T5.out.bel hb T5.out.low)
  have B6 := hid (B5.out.trans (hb.mono B5.out.size))
  clear b1_5 b2_5 r_5 v1_5 v2_5 T5 B5 hb
  have y := b2_6.val
  go_wp2_with (first
    | ((with_reducible refine wpList_load_rng rfl 23 (.tmp 67) rfl (w.heap.size + 1) 0 rfl dk2 _ ?_ hu rfl hi2.out ?_); exact b2_6.key))
  refine (c3.out _ r_6 (by omega) v2_6).mono ?_
  rintro e w7 ⟨A7, d7, rfl, ho, hb⟩
  have z_7 := ho.row
  have hc7 := ho.cap
  clear ho y
  have b1_7 := b1_6.bel hb
  have b2_7 := b2_6.bel hb
  have r_7 := r_6.bel hb
  have v1_7 := v1_6.bel hb
  have v2_7 := v2_6.bel hb
  have T7 := hid (T6.out.bel hb T6.out.low)
  have B7 := hid (B6.out.trans (hb.mono B6.out.size))
  have y_7 := y_6.bel hb
  clear b1_6 b2_6 r_6 v1_6 v2_6 T6 B6 y_6 hb
  have y := b1_7.val
  go_wp2_with (first
    | ((with_reducible refine wpList_load_rng rfl 23 (.tmp 76) rfl w.heap.size 0 rfl dk1 _ ?_ hu rfl hi1.out ?_); exact b1_7.key))
  refine (c4.out _ A7 d7 _ z_7 hc7.1 (by have := hc7.2; unfold maxLen at this; omega) v1_7).mono ?_
  rintro e w8 ⟨A8, d8, rfl, ho, hb⟩
  have u_8 := ho.row
  have hc8 := ho.cap
  clear ho y z_7 hc7
  have y_8 := y_7.bel hb
  have T8 := hid (T7.out.bel hb T7.out.low)
  have B8 := hid (B7.out.trans (hb.mono B7.out.size))
  clear y_7 T7 B7 hb
  clear b1_7 b2_7 r_7 v1_7 v2_7 c1 c2 c3 c4
  by_cases h1 : e1 = 0
  case' neg =>
    have n1 : (e1 != 0) = true := bne_iff_ne.2 h1
    by_cases h3 : e3 = 0
    case' pos =>
      have h4 : (e4 != 0) = true := bne_iff_ne.2 fun h4 => h1 (hq2.out h3 h4).1
      go_wp2
      go_ret
      exact ⟨rfl, B8.out⟩
    have n3 : (e3 != 0) = true := bne_iff_ne.2 h3
    go_wp2
    go_ret
    exact ⟨rfl, B8.out⟩
  by_cases h2 : e2 = 0
  case' neg =>
    have n2 : (e2 != 0) = true := bne_iff_ne.2 h2
    by_cases h3 : e3 = 0
    case' pos =>
      have h4 : (e4 != 0) = true := bne_iff_ne.2 fun h4 => h2 (hq2.out h3 h4).2
      go_wp2
      go_ret
      exact ⟨rfl, B8.out⟩
    have n3 : (e3 != 0) = true := bne_iff_ne.2 h3
    go_wp2
    go_ret
    exact ⟨rfl, B8.out⟩
  subst h1 h2
  obtain ⟨h3, h4, h5⟩ := hq1.out rfl rfl
  subst h3 h4 h5
  have hR := hq3.out rfl
  have hy6 : d6 ≤ 9223372036854775807 := by have := hc6.2; unfold maxLen at this; omega
  have hy8 : d8 ≤ 9223372036854775807 := by have := hc8.2; unfold maxLen at this; omega
  have p1 := fun F W hW hTW => PRoot_any F A6 d6 U.length U W hW rfl (by omega) hc6.1 hy6 hTW
  have p2 := fun F W hW hTW => PRoot_any F A8 d8 U.length U W hW rfl (by omega) hc8.1 hy8 hTW
  rw [hR] at p1 p2
  have hEq := fun W => eqd_is ⟨rootL U, rootL_length U⟩ ⟨rootL U, rootL_length U⟩ true (decide_eq_true rfl) W
  have ld := rootL_length U
  simp only at hEq
  generalize rootL U = dg at *
  have zz1 : ((dg.map bv).toArray).size = 32 := by simp [ld]
  have o1 := bvs_all dg
  have hi := hid (show (Tryd.prog.info? 23).map (·.size) = some (dg.map bv).length by rw [List.length_map, ld]; exact size32)
  replace p1 := hid p1
  replace p2 := hid p2
  have hSm := fun F G W h1 h2 => RSameP_any F G A6 A8 d6 d8 U.length U.length U U W h1 h2 rfl rfl (by omega) (by omega)
  rw [decide_eq_true rfl] at hSm
  replace hSm := hid hSm
  replace hE := trivial
  clear hR hq1 hq2 hq3
  go_wp2_with fail
  refine (p1.out _ _ y_8 T8.out).mono ?_
  rintro e w9 ⟨rfl, hb⟩
  have y_9 := y_8.bel hb
  have u_9 := u_8.bel hb
  have T9 := hid (T8.out.bel hb T8.out.low)
  have B9 := hid (B8.out.trans (hb.mono B8.out.size))
  clear y_8 u_8 T8 B8 hb
  have e3 := hid (heap_alloc_new w9 (.cells z32 23))
  have q9 := hid (Nat.le_refl w9.heap.size)
  have B10 := hid (B9.out.trans ((ext_alloc w9 (.cells z32 23)).mono B9.out.size))
  have X10 := hid (ext_alloc w9 (.cells z32 23))
  go_wp2_with (first
    | (with_reducible refine wpList_alloc_row rfl 23 rfl z32 info32 ?_)
    | ((with_reducible refine wpList_store_row rfl 23 (.tmp 16) (.tmp 101) rfl _ _ rfl rfl 23 z32 ?_ ?_ ?_ ?_ ?_); exact e3.out; (rw [zz1]; exact size32); (rw [zz1]; exact z32_size); exact o1; intro w10 hg10 hb10 hs10))
  have X11 := hid ((Below.refl w9.heap.size w9).trans ((X10.out).grown hb10 X10.out.size (by intro k hk; injection hk with hk; omega)))
  have y_11 := y_9.bel X11.out
  have u_11 := u_9.bel X11.out
  have T11 := hid (T9.out.bel X11.out T9.out.low)
  have B11 := hid (B9.out.trans (X11.out.mono B9.out.size))
  clear X10 X11 B10 y_9 u_9 T9 B9 e3 hb10 hs10
  refine (p2.out _ _ u_11 T11.out).mono ?_
  rintro e w12 ⟨rfl, hb⟩
  have r12 := hid ((hb.block _ (block_lt hg10)).trans hg10)
  have lt12 := hid (Nat.lt_of_lt_of_le (block_lt hg10) hb.size)
  have y_12 := y_11.bel hb
  have u_12 := u_11.bel hb
  have B12 := hid (B11.out.trans (hb.mono B11.out.size))
  clear y_11 u_11 B11 hb
  clear hg10 T11 p1 p2
  have e4 := hid (heap_alloc_new w12 (.cells z32 23))
  have X13 := hid (ext_alloc w12 (.cells z32 23))
  have r13 := hid ((X13.out.block _ (block_lt r12.out)).trans r12.out)
  have B13 := hid (B12.out.trans (X13.out.mono B12.out.size))
  have y_13 := y_12.bel X13.out
  have u_13 := u_12.bel X13.out
  clear X13 r12
  go_wp2_with (first
    | (with_reducible refine wpList_alloc_row rfl 23 rfl z32 info32 ?_)
    | ((with_reducible refine wpList_store_row rfl 23 (.tmp 18) (.tmp 106) rfl _ _ rfl rfl 23 z32 ?_ ?_ ?_ ?_ ?_); exact e4.out; (rw [zz1]; exact size32); (rw [zz1]; exact z32_size); exact o1; intro w14 hg14 hb14 hs14))
  have s16 := rangeOf ((hb14.block w9.heap.size (block_lt r13.out) (by have := lt12.out; simp; omega)).trans r13.out)
  have s18 := rangeOf hg14
  have X15 := hid ((B13.out).grown hb14 B13.out.size (by intro k hk; injection hk with hk; have := B12.out.size; omega))
  have Y15 := hid ((ext_alloc w12 (.cells z32 23)).grown hb14 (ext_alloc w12 (.cells z32 23)).size (by intro k hk; injection hk with hk; omega))
  have y_15 := y_12.bel Y15.out
  have u_15 := u_12.bel Y15.out
  refine (hSm.out _ _ _ y_15 u_15).mono ?_
  rintro e w15 ⟨rfl, hb⟩
  have t16 := rangeBel2 hb s16
  have t18 := rangeBel2 hb s18
  have B16 := hid (X15.out.trans (hb.mono X15.out.size))
  clear s16 s18 hb X15 Y15 y_15 u_15 hb14 hs14 hg14 hSm y_12 u_12 y_13 u_13
  go_wp2_with (first
    | ((with_reducible refine wpList_load_rng ?_ 23 (.tmp 16) rfl w9.heap.size 0 rfl (dg.map bv) _ ?_ hu rfl hi.out ?_); rfl; exact t16)
    | ((with_reducible refine wpList_load_rng ?_ 23 (.tmp 18) rfl w12.heap.size 0 rfl (dg.map bv) _ ?_ hu rfl hi.out ?_); rfl; exact t18))
  go_ret
  exact ⟨rfl, B16.out⟩

/-! ### WHAT THE WALK GIVES, FOR EVERY ARGUMENT AND EVERY WORLD THAT HOLDS THE TABLE -/
set_option maxRecDepth 100000 in
theorem contract (H : Type) (enc : TypeId × Value → H) (W : World) (base : Nat) (args : Array Value) (ds gs : List (DataW H)) (before : List MemPlace)
    (hval0 : ∀ (j : Nat) t v, Tryd.f5.params[j]? = some t → args[j]? = some v → Value.okWide Tryd.prog W .any base t v)
    (hW : DataW.Whole enc Tryd.prog Tryd.f5.params.toList Rows.pairsWaysSpec.vars false W args.toList ds gs before) (hL : laidMetH Tryd.prog Rows.pairsWaysRow.laid W) :
    Calls Tryd.prog 5 args W fun e W' => ∃ v, e = .returned v ∧ Rows.pairsWaysSpec.post enc Tryd.prog Tryd.f5 false true false false W args v W' := by
  have hval : ∀ (j : Nat) t v, Tryd.f5.params[j]? = some t → args[j]? = some v → Value.okWide Tryd.prog W .any base t v := hval0
  have hW' := hW
  obtain ⟨p, q, hA0, hV, rfl, hfz, hnd⟩ := hW
  have hA : DataW.TrodAll enc Tryd.prog W 0 (fun _ => true) true Tryd.f5.params.toList args.toList ds p := hA0
  rw [Tryd.params5] at hA hval
  obtain ⟨v0, vs0, d0, ds0, p0, q0, hargs, rfl, rfl, h0, r0⟩ := trodAll_cons hA
  obtain ⟨v1, vs1, d1, ds1, p1, q1, rfl, rfl, rfl, h1, r1⟩ := trodAll_cons r0
  obtain ⟨v2, vs2, d2, ds2, p2, q2, rfl, rfl, rfl, h2, r2⟩ := trodAll_cons r1
  obtain ⟨rfl, rfl, rfl⟩ := trodAll_nil r2
  obtain rfl : args = #[v0, v1, v2] := by cases args; simp_all
  obtain ⟨rfl, rfl⟩ := trodVars_none hV
  obtain ⟨a0, len0, cap0, rfl⟩ := okWide_slice Tryd.underlying28 (hval 0 28 v0 rfl rfl)
  have k0 := h0
  have lt0 : ∀ x ∈ p0, x.block < W.heap.size := by obtain ⟨m, hm⟩ := k0; exact DataW.trod_lt m _ _ _ hm
  obtain ⟨ps0, w0⟩ : ∃ ps : List Pr, len0 = ps.length ∧ Row (fun b => b < W.heap.size) W a0 ps ∧ ps.length ≤ cap0 ∧ cap0 ≤ maxLen := by
    obtain ⟨fuel, hf⟩ := h0
    exact open_list opensPrs hf
  have k1 := h1
  have lt1 : ∀ x ∈ p1, x.block < W.heap.size := by obtain ⟨m, hm⟩ := k1; exact DataW.trod_lt m _ _ _ hm
  obtain ⟨x1, vs1, rfl, w1⟩ := open_struct opensPr Tryd.underlying26 (hval 1 26 v1 rfl rfl) h1
  have k2 := h2
  have lt2 : ∀ x ∈ p2, x.block < W.heap.size := by obtain ⟨m, hm⟩ := k2; exact DataW.trod_lt m _ _ _ hm
  obtain ⟨x2, vs2, rfl, w2⟩ := open_struct opensPr Tryd.underlying26 (hval 2 26 v2 rfl rfl) h2
  clear hA0 hval0
  refine (walk a0 len0 cap0 ps0 x1 vs1 x2 vs2 W w0 w1 w2 (tab_of hL)).mono fun e W' ⟨he, bel⟩ => ?_
  subst he
  exact ⟨_, rfl, _, _, _, [], _, [], hW', trodAll_mk1 (shut_bool Tryd.underlying4 _), (trodAll_cons_mk (Below.trod laidOut (by kernel_rfl) (of_decide_eq_true (by kernel_rfl)) k0 bel lt0) (trodAll_cons_mk (Below.trod laidOut (by kernel_rfl) (of_decide_eq_true (by kernel_rfl)) k1 bel lt1) (trodAll_cons_mk (Below.trod laidOut (by kernel_rfl) (of_decide_eq_true (by kernel_rfl)) k2 bel lt2) trodAll_mk0))), rfl, bel.frame _, fun h => by cases h⟩

theorem laid_met (os : Os) : laidMet Tryd.prog Rows.pairsWaysRow.laid ((laidWorld os).forCall (fun _ _ => 0) ⟨#[], #[.slice none 0 0, .agg zPrC, .agg zPrC], []⟩).memory :=
  laidMet_of_run' 8 (by kernel_rfl) (by kernel_rfl)
theorem reads (os : Os) {H : Type} (enc : TypeId × Value → H) : ∃ places, DataW.whole enc Tryd.prog ((laidWorld os).forCall (fun _ _ => 0) ⟨#[], #[.slice none 0 0, .agg zPrC, .agg zPrC], []⟩).memory Tryd.f5.params.toList Rows.pairsWaysSpec.vars false (#[.slice none 0 0, .agg zPrC, .agg zPrC] : Array Value).toList 8 = some ([.nil, .agg [.agg (List.replicate 32 (.lit (.int .u8 0))), .nil], .agg [.agg (List.replicate 32 (.lit (.int .u8 0))), .nil]], [], places) :=
  ⟨[], by kernel_rfl⟩
set_option maxRecDepth 100000 in
theorem lifted (os : Os) (started : os.Started) (H : Type) (enc : TypeId × Value → H) (F : Stop.Interp) :
    ReturnsInHanded {} Tryd.checked os 5 .any ((OpenSpec.ofChange Rows.pairsWaysSpec).preRow enc Tryd.prog Tryd.f5 Rows.pairsWaysRow.domain false Rows.pairsWaysRow.laid) (((OpenSpec.ofChange Rows.pairsWaysSpec).at F).post enc Tryd.prog Tryd.f5 false true false false) := by
  obtain ⟨places, hx⟩ := reads os enc
  refine returnsInHanded_of_row (C := Tryd.checked) (s := OpenSpec.ofChange Rows.pairsWaysSpec) own started (by kernel_rfl) Tryd.func5
    (witness_row_at (enc := enc) (C := Tryd.checked) false (laidWorld os) #[.slice none 0 0, .agg zPrC, .agg zPrC] rfl (by kernel_rfl) (by kernel_rfl) (by kernel_rfl)
      (OpenSpec.preRow_of_cond 8 hx (by kernel_rfl) (fun k hk => by cases hk) (by kernel_rfl) (laid_met os))) ?_
  intro W base args ds gs before hval hW _ _ _ hL _ _
  exact contract H enc W base args ds gs before hval hW hL
theorem said : Rows.PairsWaysSaid :=
  OpenClaim.holds_of_cond 5 Tryd.f5 rfl rfl rfl rfl rfl rfl rfl ⟨rfl, rfl, rfl, rfl, rfl⟩ rfl rfl rfl rfl rfl (by kernel_rfl) Tryd.func5 (by kernel_rfl)
    (of_decide_eq_true (by kernel_rfl)) (by unfold Func.isWrapper; first | (rw [if_pos (by decide +kernel)]; kernel_rfl) | (rw [if_neg (by decide +kernel)]; exact ⟨rfl, rfl⟩))
    (fun os started H enc _ F => by rw [OpenClaim.pre_eq_preRow]; exact lifted os started H enc F)
set_option maxRecDepth 100000 in
/-- No parameter wants a stand-in; the program's own looks are off: what the card asks. -/
theorem plain (f : FuncId) (fn : Func) (hf : Tryd.pinned.checked.prog.funcNamed "beadroll/beadrolllaw05.PairsWays" = some f) (hfn : Tryd.pinned.checked.prog.funcs[f]? = some fn) :
    false = Tryd.pinned.checked.prog.looks [] ∧ ∀ (j : Nat) t, fn.params[j]? = some t → Tryd.pinned.checked.prog.wantsStandIn t = false := by
  obtain rfl : f = 5 := Option.some.inj ((show Tryd.prog.funcNamed "beadroll/beadrolllaw05.PairsWays" = some 5 by kernel_rfl).symm.trans hf) |>.symm
  obtain rfl : fn = Tryd.f5 := (Option.some.inj (Tryd.func5.symm.trans hfn)).symm
  refine ⟨by kernel_rfl, fun j t ht => ?_⟩
  rw [Tryd.params5] at ht
  have hm := Array.mem_of_getElem? ht
  simp only [List.mem_toArray, List.mem_cons, List.not_mem_nil, or_false] at hm
  rcases hm with rfl | rfl | rfl
  all_goals first | exact (show Tryd.prog.wantsStandIn 28 = false by kernel_rfl) | exact (show Tryd.prog.wantsStandIn 26 = false by kernel_rfl)
set_option maxRecDepth 100000 in
/-- ████ THE CARD ████ -/
theorem proved : Rows.PairsWaysCardSaid :=
  Claim7.holds_tied_plain_at .later [] _ _ _ _ said (fun _ h => by cases h) (by kernel_rfl) (fun _ h => by cases h) pairsWays_row_tie rfl ⟨rfl, rfl⟩ (by kernel_rfl) rfl plain (by kernel_rfl)
#print axioms proved
end Go.Proofs.YtbblokhpoempbaaDoor.pairsWays
