/-
  The Go function ClashSeeks returns true: of any two proofs of one key that tell unlike things two unlike texts are found, which have one digest, if the proofs have one root: any two; its arguments read afterwards as before.
  Conditions: none. The frame around the walk was written by program (proof-skeleton.mjs).
-/
import Derived.Test.YtapnhdpgogfceaaDoorRows
import Derived.Test.YtapnhdpgogfceaaDoorDoor
import Derived.WalkKit
import Derived.ProofKit
import Derived.OpenShut
import Derived.ShutString
import Derived.ChangeOld
import Derived.Below
import Derived.Test.YtapnhdpgogfceaaDoorAlive09
import Derived.Test.YtapnhdpgogfceaaDoorRef07a
import Derived.Test.YtapnhdpgogfceaaDoorVfX
import Derived.Test.YtapnhdpgogfceaaDoorClS
import Derived.Test.YtapnhdpgogfceaaDoorPfM
namespace Go.Proofs.YtapnhdpgogfceaaDoor.clashSeeks
open Go.ChangeShapes Go.WideShapes Go.ChangeAt Go.RowKit
open Go.ChangeMaps (open_string shut_string)
set_option linter.unusedVariables false

theorem own : ownKnob Tryd.prog.godebug = none := by kernel_rfl
theorem laidOut : laidOutB Tryd.prog = true := by kernel_rfl

/-- WHAT THE WALK IS TOLD OF A SLICE OF INTEGERS THAT CAME IN: it is nil; or it leads to a row of 'cap' cells, the numbers 'zs' (the first 'len' are its elements, the rest its spare room), each fitting its kind. -/
def IsRow (k : IntKind) (w : World) (a : Option Addr) (len cap : Nat) (zs : List Int) : Prop :=
  (a = none ∧ len = 0 ∧ cap = 0 ∧ zs = []) ∨
  ∃ x, a = some x ∧ len ≤ cap ∧ cap ≤ maxLen ∧ zs.length = cap ∧ (∀ i, i < zs.length → w.cell? (x.add i) = some (.int k (zs.getD i 0))) ∧ ∀ n ∈ zs, (Lit.int k n).wf = true

/-! ### the walk -/
open Go.Proofs.YtapnhdpgogfceaaDoor
set_option linter.unusedSimpArgs false
set_option maxRecDepth 100000 in
set_option maxHeartbeats 8000000 in
theorem walk (x0 : Pf) (vs0 : List Value) (x1 : Pf) (vs1 : List Value) (w : World) (w0 : Enc.rep (fun b => b < w.heap.size) w x0 vs0) (w1 : Enc.rep (fun b => b < w.heap.size) w x1 vs1) (hT : Tab w) :
    Calls Tryd.prog 4 #[.agg vs0.toArray, .agg vs1.toArray] w fun e w' => e = .returned (.bool true) ∧ Below w.heap.size w w' := by
  obtain ⟨A1, c1, D1, d1, rfl, ⟨hc1, hm1, hv1⟩, ⟨hd1, hn1, hs1⟩⟩ := rep_pf w0
  obtain ⟨A2, c2, D2, d2, rfl, ⟨hc2, hm2, hv2⟩, ⟨hd2, hn2, hs2⟩⟩ := rep_pf w1
  obtain ⟨B1, B2, W0⟩ := boxesPPr w x0 x1 A1 A2 c1 c2 D1 D2 d1 d2 30
  have hup := Tryd.underlying30
  have hu := Tryd.underlying27
  have X0 := hid B1.all
  have Y0 := hid B2.all
  have K0 := hid B1.key
  have L0 := hid B2.key
  have j1 := hid (sizePfC x0 A1 c1 D1 d1)
  have j2 := hid (sizePfC x1 A2 c2 D2 d2)
  have i1 := hid (sizeDg x0.k)
  have i2 := hid (sizeDg x1.k)
  replace W0 := hid W0
  have hlow := hT.low
  have fl : Hid (∀ W, Below w.heap.size w W → Rd W A1 x0.v ∧ Row (fun b => b < w.heap.size) W D1 x0.ss ∧ Rd W A2 x1.v ∧ Row (fun b => b < w.heap.size) W D2 x1.ss ∧ Tab W) := hid fun W hb => ⟨hv1.rd.bel hb, hs1.bel hb, hv2.rd.bel hb, hs2.bel hb, hT.bel hb hlow⟩
  obtain ⟨g1, hg1⟩ : ∃ g1, (decide (100 < x0.v.length) || decide (300 < x0.ss.length)) = g1 := ⟨_, rfl⟩
  obtain ⟨g2, hg2⟩ : ∃ g2, (decide (100 < x1.v.length) || decide (300 < x1.ss.length)) = g2 := ⟨_, rfl⟩
  obtain ⟨kb, hkb⟩ : ∃ kb, decide (x0.k = x1.k) = kb := ⟨_, rfl⟩
  obtain ⟨m1, em1⟩ : ∃ m, mayF x0 = m := ⟨_, rfl⟩
  obtain ⟨m2, em2⟩ : ∃ m, mayF x1 = m := ⟨_, rfl⟩
  obtain ⟨ub, hub⟩ : ∃ ub, (decide (toldF x0 ≠ toldF x1) || decide (tellV x0 ≠ tellV x1)) = ub := ⟨_, rfl⟩
  obtain ⟨pq, hpq⟩ : ∃ pq, decide (rootM x0 = rootM x1) = pq := ⟨_, rfl⟩
  have hG1 := hid (fun W => RPfGreat_is x0 A1 c1 D1 d1 g1 W hg1)
  have hG2 := hid (fun W => RPfGreat_is x1 A2 c2 D2 d2 g2 W hg2)
  have hE : ∀ W, (Op.equalIn 10000 27 (.agg (x0.k.1.map bv).toArray) (.agg (x1.k.1.map bv).toArray)).run Tryd.prog W = .ok kb W := fun W => eqd_is x0.k x1.k kb hkb W
  have hR : ∀ W, (Op.equalIn 10000 27 (.agg ((rootM x0).1.map bv).toArray) (.agg ((rootM x1).1.map bv).toArray)).run Tryd.prog W = .ok pq W := fun W => eqd_is (rootM x0) (rootM x1) pq hpq W
  have CS := hid (fun W (a : Rd W A1 x0.v) (b : Row (fun b => b < w.heap.size) W D1 x0.ss) (c : Rd W A2 x1.v) (d : Row (fun b => b < w.heap.size) W D2 x1.ss) (e : Tab W) => ClSeek_any _ _ x0 x1 A1 A2 c1 c2 D1 D2 d1 d2 W a hc1 hm1 b c hc2 hm2 d e)
  have R1 := hid (fun W (a : Rd W A1 x0.v) (b : Row (fun b => b < w.heap.size) W D1 x0.ss) (e : Tab W) => VfRoot_any x0 A1 c1 D1 d1 _ m1 W em1 a hc1 hm1 b e)
  have R2 := hid (fun W (a : Rd W A2 x1.v) (b : Row (fun b => b < w.heap.size) W D2 x1.ss) (e : Tab W) => VfRoot_any x1 A2 c2 D2 d2 _ m2 W em2 a hc2 hm2 b e)
  obtain ⟨r1, hr1⟩ : ∃ r, (if m1 = true then (0 : Int) else 8) = r := ⟨_, rfl⟩
  obtain ⟨r2, hr2⟩ : ∃ r, (if m2 = true then (0 : Int) else 8) = r := ⟨_, rfl⟩
  rw [hr1] at R1
  rw [hr2] at R2
  have n1 : m1 = false → r1 = 8 := fun h => by rw [← hr1, h]; rfl
  have n2 : m2 = false → r2 = 8 := fun h => by rw [← hr2, h]; rfl
  have y1 : m1 = true → r1 = 0 := fun h => by rw [← hr1, h]; rfl
  have y2 : m2 = true → r2 = 0 := fun h => by rw [← hr2, h]; rfl
  clear hr1 hr2
  replace n1 := hid n1
  replace n2 := hid n2
  replace y1 := hid y1
  replace y2 := hid y2
  have UN := hid (fun (k1 : x0.v.length ≤ 1000000) (k2 : x1.v.length ≤ 1000000) W (a : Rd W A1 x0.v) (c : Rd W A2 x1.v) => unlike9_is x0 x1 A1 A2 c1 c2 D1 D2 d1 d2 ub W a hc1 hm1 k1 c hc2 hm2 k2 hub)
  have sm1 : m1 = true → x0.v.length ≤ 1000000 := fun h => Nat.le_trans (may_small (em1.trans h)).1 (by omega)
  have sm2 : m2 = true → x1.v.length ≤ 1000000 := fun h => Nat.le_trans (may_small (em2.trans h)).1 (by omega)
  obtain ⟨SE, hSE⟩ : ∃ E, seekE x0 x1 = E := ⟨_, rfl⟩
  have uk : kb = true → unlikeF x0 x1 = ub := fun h => by
    unfold unlikeF
    rw [hkb, h, Bool.true_and, hub]
  have e8 : (m1 && m2) = false → (SE == 8) = true := fun h => by
    rw [← hSE]
    unfold seekE
    rw [em1, em2, h]
    rfl
  have e2 : m1 = true → m2 = true → kb = true → ub = false → (SE == 2) = true := fun h1 h2 h3 h4 => by
    rw [← hSE]
    unfold seekE
    rw [em1, em2, h1, h2, uk h3, h4]
    rfl
  have e0 : m1 = true → m2 = true → kb = true → ub = true → (SE == 0) = true ∧ (seekP x0 x1).1 ≠ (seekP x0 x1).2 ∧ (pq = true → sha256 (seekP x0 x1).1 = sha256 (seekP x0 x1).2) := fun h1 h2 h3 h4 => by
    have hP : seekP x0 x1 = firstI (inP x0) (inP x1) := by
      unfold seekP
      rw [em1, em2, h1, h2, uk h3, h4]
      rfl
    obtain ⟨f1, f2⟩ := clash_found (em1.trans h1) (em2.trans h2) ((uk h3).trans h4)
    refine ⟨?_, by rw [hP]; exact f1, fun hp => by
      rw [hP]
      refine f2 ?_
      rw [hp] at hpq
      have := of_decide_eq_true hpq
      unfold rootM at this
      rw [em1, em2, h1, h2] at this
      exact this⟩
    rw [← hSE]
    unfold seekE
    rw [em1, em2, h1, h2, uk h3, h4]
    rfl
  have AL := hid alive9_any
  have OF := hid (fun A c (l : List UInt8) W (h : Rd W A l) (h1 : l.length ≤ c) (h2 : c ≤ maxLen) (hl : l.length ≤ 1000000) (hTW : Tab W) => Of9_any A c l W h h1 h2 hl hTW)
  have ln := seekP_len x0 x1
  have z1d : ((rootM x0).1.map bv).toArray.size = 32 := by simp [(rootM x0).2]
  have z2d : ((rootM x1).1.map bv).toArray.size = 32 := by simp [(rootM x1).2]
  have z1o := bvs_all (rootM x0).1
  have z2o := bvs_all (rootM x1).1
  have i3 := hid (sizeDg (rootM x0))
  have i4 := hid (sizeDg (rootM x1))
  rw [hSE] at CS
  clear hg1 hg2 hkb em1 em2 hub hpq uk hSE w0 w1 hv1 hs1 hv2 hs2 hd1 hn1 hd2 hn2 hc1 hm1 hc2 hm2 B1 B2
  generalize seekP x0 x1 = SP at *
  generalize pfC x0 A1 c1 D1 d1 = cs1 at *
  generalize pfC x1 A2 c2 D2 d2 = cs2 at *
  generalize x0.k.1.map bv = dk1 at *
  generalize x1.k.1.map bv = dk2 at *
  generalize (rootM x0).1.map bv = dR1 at *
  generalize (rootM x1).1.map bv = dR2 at *
  replace e0 := hid e0
  replace e2 := hid e2
  replace e8 := hid e8
  have hlw := hid hlow
  clear hlow
  have T0 := hid (fl.out _ W0.out).2.2.2.2
  clear hT
  go_enter Tryd.func4, Tryd.ntmps4
  go_wp2_with fail
  generalize (w.alloc (.cells cs1.toArray 30)).alloc (.cells cs2.toArray 30) = v0 at *
  refine (AL.out _ T0.out).mono ?_
  rintro e w1 ⟨rfl, hb⟩
  have W1 := hid (W0.out.trans (hb.mono W0.out.size))
  have X1 := hid (rangeBel2 hb X0.out)
  have Y1 := hid (rangeBel2 hb Y0.out)
  have K1 := hid (rangeBel2 hb K0.out)
  have L1 := hid (rangeBel2 hb L0.out)
  clear hb
  go_wp2_with (first
    | ((with_reducible refine wpList_load_rng ?_ 30 (.tmp 2) rfl w.heap.size 0 rfl cs1 _ ?_ hup rfl j1.out ?_); rfl; exact X1.out))
  refine (hG1.out _).mono ?_
  rintro e w2 ⟨rfl, hb⟩
  have W2 := hid (W1.out.trans (hb.mono W1.out.size))
  have X2 := hid (rangeBel2 hb X1.out)
  have Y2 := hid (rangeBel2 hb Y1.out)
  have K2 := hid (rangeBel2 hb K1.out)
  have L2 := hid (rangeBel2 hb L1.out)
  clear hb
  cases g1 with
  | true =>
    go_wp2
    go_ret
    exact ⟨rfl, W2.out⟩
  | false =>
  go_wp2_with (first
    | ((with_reducible refine wpList_load_rng ?_ 30 (.tmp 3) rfl (w.heap.size + 1) 0 rfl cs2 _ ?_ hup rfl j2.out ?_); rfl; exact Y2.out))
  refine (hG2.out _).mono ?_
  rintro e w3 ⟨rfl, hb⟩
  have W3 := hid (W2.out.trans (hb.mono W2.out.size))
  have X3 := hid (rangeBel2 hb X2.out)
  have Y3 := hid (rangeBel2 hb Y2.out)
  have K3 := hid (rangeBel2 hb K2.out)
  have L3 := hid (rangeBel2 hb L2.out)
  clear hb
  cases g2 with
  | true =>
    go_wp2
    go_ret
    exact ⟨rfl, W3.out⟩
  | false =>
  cases kb with
  | false =>
    go_wp2_with (first
      | ((with_reducible refine wpList_load_rng ?_ 27 (.tmp 21) rfl w.heap.size 0 rfl dk1 _ ?_ hu rfl i1.out ?_); rfl; exact K3.out)
      | ((with_reducible refine wpList_load_rng ?_ 27 (.tmp 23) rfl (w.heap.size + 1) 0 rfl dk2 _ ?_ hu rfl i2.out ?_); rfl; exact L3.out))
    go_ret
    exact ⟨rfl, W3.out⟩
  | true =>
  go_wp2_with (first
    | ((with_reducible refine wpList_load_rng ?_ 27 (.tmp 21) rfl w.heap.size 0 rfl dk1 _ ?_ hu rfl i1.out ?_); rfl; exact K3.out)
    | ((with_reducible refine wpList_load_rng ?_ 27 (.tmp 23) rfl (w.heap.size + 1) 0 rfl dk2 _ ?_ hu rfl i2.out ?_); rfl; exact L3.out)
    | ((with_reducible refine wpList_load_rng ?_ 30 (.tmp 2) rfl w.heap.size 0 rfl cs1 _ ?_ hup rfl j1.out ?_); rfl; exact X3.out)
    | ((with_reducible refine wpList_load_rng ?_ 30 (.tmp 3) rfl (w.heap.size + 1) 0 rfl cs2 _ ?_ hup rfl j2.out ?_); rfl; exact Y3.out))
  refine (CS.out _ (fl.out _ W3.out).1 (fl.out _ W3.out).2.1 (fl.out _ W3.out).2.2.1 (fl.out _ W3.out).2.2.2.1 (fl.out _ W3.out).2.2.2.2).mono ?_
  rintro e w4 ⟨B1, b1, B2, b2, rfl, t1, t2, hb⟩
  have P4 := hid t1
  have Q4 := hid t2
  clear t1 t2
  have W4 := hid (W3.out.trans (hb.mono W3.out.size))
  have X4 := hid (rangeBel2 hb X3.out)
  have Y4 := hid (rangeBel2 hb Y3.out)
  clear hb
  go_wp2_with (first
    | ((with_reducible refine wpList_load_rng ?_ 30 (.tmp 2) rfl w.heap.size 0 rfl cs1 _ ?_ hup rfl j1.out ?_); rfl; exact X4.out))
  refine (R1.out _ (fl.out _ W4.out).1 (fl.out _ W4.out).2.1 (fl.out _ W4.out).2.2.2.2).mono ?_
  rintro e w5 ⟨rfl, hb⟩
  have W5 := hid (W4.out.trans (hb.mono W4.out.size))
  have X5 := hid (rangeBel2 hb X4.out)
  have Y5 := hid (rangeBel2 hb Y4.out)
  have P5 := hid (P4.out.bel hb)
  have Q5 := hid (Q4.out.bel hb)
  clear hb
  have e1005 := hid (heap_alloc_new w5 (.cells z32 27))
  go_wp2_with (first
    | (with_reducible refine wpList_alloc_row rfl 27 rfl z32 info32 ?_)
    | ((with_reducible refine wpList_store_row rfl 27 (.tmp 9) (.tmp 42) rfl _ _ rfl rfl 27 z32 ?_ ?_ ?_ ?_ ?_); exact e1005.out; (rw [z1d]; exact size32); (rw [z1d]; exact z32_size); exact z1o; intro w6 hgS hbS hsS; have Xb := hid (xnewP rfl hbS); have R6 := hid (rangeOf hgS); clear hgS hbS hsS; have W6 := hid (W5.out.trans (Xb.out.mono W5.out.size)); have X6 := hid (rangeBel2 Xb.out X5.out); have Y6 := hid (rangeBel2 Xb.out Y5.out); have P6 := hid (P5.out.bel Xb.out); have Q6 := hid (Q5.out.bel Xb.out))
    | ((with_reducible refine wpList_load_rng ?_ 30 (.tmp 3) rfl (w.heap.size + 1) 0 rfl cs2 _ ?_ hup rfl j2.out ?_); rfl; exact Y6.out))
  refine (R2.out _ (fl.out _ W6.out).2.2.1 (fl.out _ W6.out).2.2.2.1 (fl.out _ W6.out).2.2.2.2).mono ?_
  rintro e w7 ⟨rfl, hb⟩
  have W7 := hid (W6.out.trans (hb.mono W6.out.size))
  have X7 := hid (rangeBel2 hb X6.out)
  have Y7 := hid (rangeBel2 hb Y6.out)
  have R7 := hid (rangeBel2 hb R6.out)
  have P7 := hid (P6.out.bel hb)
  have Q7 := hid (Q6.out.bel hb)
  clear hb
  have e1007 := hid (heap_alloc_new w7 (.cells z32 27))
  cases m1 with
  | false =>
    obtain rfl := n1.out (by first | trivial | rfl)
    have q := e8.out (by first | trivial | rfl)
    go_wp2_with (first
      | (with_reducible refine wpList_alloc_row rfl 27 rfl z32 info32 ?_)
      | ((with_reducible refine wpList_store_row rfl 27 (.tmp 11) (.tmp 47) rfl _ _ rfl rfl 27 z32 ?_ ?_ ?_ ?_ ?_); exact e1007.out; (rw [z2d]; exact size32); (rw [z2d]; exact z32_size); exact z2o; intro w8 hgS hbS hsS; have Xb := hid (xnewP rfl hbS); have S8 := hid (rangeOf hgS); clear hgS hbS hsS; have W8 := hid (W7.out.trans (Xb.out.mono W7.out.size)); have X8 := hid (rangeBel2 Xb.out X7.out); have Y8 := hid (rangeBel2 Xb.out Y7.out); have R8 := hid (rangeBel2 Xb.out R7.out); have P8 := hid (P7.out.bel Xb.out); have Q8 := hid (Q7.out.bel Xb.out)))
    all_goals (go_ret; exact ⟨rfl, W8.out⟩)
  | true =>
  obtain rfl := y1.out (by first | trivial | rfl)
  cases m2 with
  | false =>
    obtain rfl := n2.out (by first | trivial | rfl)
    have q := e8.out (by first | trivial | rfl)
    go_wp2_with (first
      | (with_reducible refine wpList_alloc_row rfl 27 rfl z32 info32 ?_)
      | ((with_reducible refine wpList_store_row rfl 27 (.tmp 11) (.tmp 47) rfl _ _ rfl rfl 27 z32 ?_ ?_ ?_ ?_ ?_); exact e1007.out; (rw [z2d]; exact size32); (rw [z2d]; exact z32_size); exact z2o; intro w8 hgS hbS hsS; have Xb := hid (xnewP rfl hbS); have S8 := hid (rangeOf hgS); clear hgS hbS hsS; have W8 := hid (W7.out.trans (Xb.out.mono W7.out.size)); have X8 := hid (rangeBel2 Xb.out X7.out); have Y8 := hid (rangeBel2 Xb.out Y7.out); have R8 := hid (rangeBel2 Xb.out R7.out); have P8 := hid (P7.out.bel Xb.out); have Q8 := hid (Q7.out.bel Xb.out)))
    go_ret
    exact ⟨rfl, W8.out⟩
  | true =>
  obtain rfl := y2.out (by first | trivial | rfl)
  go_wp2_with (first
    | (with_reducible refine wpList_alloc_row rfl 27 rfl z32 info32 ?_)
    | ((with_reducible refine wpList_store_row rfl 27 (.tmp 11) (.tmp 47) rfl _ _ rfl rfl 27 z32 ?_ ?_ ?_ ?_ ?_); exact e1007.out; (rw [z2d]; exact size32); (rw [z2d]; exact z32_size); exact z2o; intro w8 hgS hbS hsS; have Xb := hid (xnewP rfl hbS); have S8 := hid (rangeOf hgS); clear hgS hbS hsS; have W8 := hid (W7.out.trans (Xb.out.mono W7.out.size)); have X8 := hid (rangeBel2 Xb.out X7.out); have Y8 := hid (rangeBel2 Xb.out Y7.out); have R8 := hid (rangeBel2 Xb.out R7.out); have P8 := hid (P7.out.bel Xb.out); have Q8 := hid (Q7.out.bel Xb.out))
    | ((with_reducible refine wpList_load_rng ?_ 30 (.tmp 2) rfl w.heap.size 0 rfl cs1 _ ?_ hup rfl j1.out ?_); rfl; exact X8.out)
    | ((with_reducible refine wpList_load_rng ?_ 30 (.tmp 3) rfl (w.heap.size + 1) 0 rfl cs2 _ ?_ hup rfl j2.out ?_); rfl; exact Y8.out))
  refine (UN.out (sm1 (by first | trivial | rfl)) (sm2 (by first | trivial | rfl)) _ (fl.out _ W8.out).1 (fl.out _ W8.out).2.2.1).mono ?_
  rintro e w9 ⟨rfl, hb⟩
  have W9 := hid (W8.out.trans (hb.mono W8.out.size))
  have R9 := hid (rangeBel2 hb R8.out)
  have S9 := hid (rangeBel2 hb S8.out)
  have P9 := hid (P8.out.bel hb)
  have Q9 := hid (Q8.out.bel hb)
  clear hb
  cases ub with
  | false =>
    have q := e2.out (by first | trivial | rfl) (by first | trivial | rfl) (by first | trivial | rfl) (by first | trivial | rfl)
    go_wp2_with fail
    go_ret
    exact ⟨rfl, W9.out⟩
  | true =>
  obtain ⟨q, hne, hsh⟩ := e0.out (by first | trivial | rfl) (by first | trivial | rfl) (by first | trivial | rfl) (by first | trivial | rfl)
  have hSm := hid (fun W (h1 : Rd W B1 SP.1) (h2 : Rd W B2 SP.2) => RSame01_is B1 B2 b1 b2 SP.1 SP.2 false W h1 h2 (decide_eq_false hne))
  clear hne
  replace hsh := hid hsh
  go_wp2_with fail
  refine (hSm.out _ P9.out.1 Q9.out.1).mono ?_
  rintro e wz ⟨rfl, rfl⟩
  cases pq with
  | false =>
    go_wp2_with (first
      | ((with_reducible refine wpList_load_rng ?_ 27 (.tmp 9) rfl w5.heap.size 0 rfl dR1 _ ?_ hu rfl i3.out ?_); rfl; exact R9.out)
      | ((with_reducible refine wpList_load_rng ?_ 27 (.tmp 11) rfl w7.heap.size 0 rfl dR2 _ ?_ hu rfl i4.out ?_); rfl; exact S9.out))
    go_ret
    exact ⟨rfl, W9.out⟩
  | true =>
  have O1 := hid (OF.out B1 b1 SP.1 w9 P9.out.1 P9.out.2.1 P9.out.2.2 ln.1 (fl.out _ W9.out).2.2.2.2)
  have O2f := hid (fun W (h : Txt W B2 b2 SP.2) (hTW : Tab W) => OF.out B2 b2 SP.2 W h.1 h.2.1 h.2.2 ln.2 hTW)
  have hs1 := hsh.out (by first | trivial | rfl)
  have hz : ∀ W, (Op.equalIn 10000 27 (.agg ((sha256 SP.1).map bv).toArray) (.agg ((sha256 SP.2).map bv).toArray)).run Tryd.prog W = .ok true W := fun W => eqd_is ⟨sha256 SP.1, shaLen _⟩ ⟨sha256 SP.2, shaLen _⟩ true (decide_eq_true (Subtype.ext hs1)) W
  clear hs1
  generalize (sha256 SP.1).map bv = h1 at *
  generalize (sha256 SP.2).map bv = h2 at *
  have hPl := P9.out.2
  have Q9' := Q9
  go_wp2_with (first
    | ((with_reducible refine wpList_load_rng ?_ 27 (.tmp 9) rfl w5.heap.size 0 rfl dR1 _ ?_ hu rfl i3.out ?_); rfl; exact R9.out)
    | ((with_reducible refine wpList_load_rng ?_ 27 (.tmp 11) rfl w7.heap.size 0 rfl dR2 _ ?_ hu rfl i4.out ?_); rfl; exact S9.out))
  refine O1.out.mono ?_
  rintro e w10 ⟨rfl, hb⟩
  have W10 := hid (W9.out.trans (hb.mono W9.out.size))
  have Q10 := hid (Q9.out.bel hb)
  clear hb
  have O2 := hid (O2f.out w10 Q10.out (fl.out _ W10.out).2.2.2.2)
  go_wp2_with fail
  refine O2.out.mono ?_
  rintro e w11 ⟨rfl, hb⟩
  have W11 := hid (W10.out.trans (hb.mono W10.out.size))
  clear hb
  go_wp2
  go_ret
  exact ⟨rfl, W11.out⟩

/-! ### WHAT THE WALK GIVES, FOR EVERY ARGUMENT AND EVERY WORLD THAT HOLDS THE TABLE -/
set_option maxRecDepth 100000 in
theorem contract (H : Type) (enc : TypeId × Value → H) (W : World) (base : Nat) (args : Array Value) (ds gs : List (DataW H)) (before : List MemPlace)
    (hval0 : ∀ (j : Nat) t v, Tryd.f4.params[j]? = some t → args[j]? = some v → Value.okWide Tryd.prog W .any base t v)
    (hW : DataW.Whole enc Tryd.prog Tryd.f4.params.toList Rows.clashSeeksSpec.vars false W args.toList ds gs before) (hL : laidMetH Tryd.prog Rows.clashSeeksRow.laid W) :
    Calls Tryd.prog 4 args W fun e W' => ∃ v, e = .returned v ∧ Rows.clashSeeksSpec.post enc Tryd.prog Tryd.f4 false true false false W args v W' := by
  have hval : ∀ (j : Nat) t v, Tryd.f4.params[j]? = some t → args[j]? = some v → Value.okWide Tryd.prog W .any base t v := hval0
  have hW' := hW
  obtain ⟨p, q, hA0, hV, rfl, hfz, hnd⟩ := hW
  have hA : DataW.TrodAll enc Tryd.prog W 0 (fun _ => true) true Tryd.f4.params.toList args.toList ds p := hA0
  rw [Tryd.params4] at hA hval
  obtain ⟨v0, vs0, d0, ds0, p0, q0, hargs, rfl, rfl, h0, r0⟩ := trodAll_cons hA
  obtain ⟨v1, vs1, d1, ds1, p1, q1, rfl, rfl, rfl, h1, r1⟩ := trodAll_cons r0
  obtain ⟨rfl, rfl, rfl⟩ := trodAll_nil r1
  obtain rfl : args = #[v0, v1] := by cases args; simp_all
  obtain ⟨rfl, rfl⟩ := trodVars_none hV
  have k0 := h0
  have lt0 : ∀ x ∈ p0, x.block < W.heap.size := by obtain ⟨m, hm⟩ := k0; exact DataW.trod_lt m _ _ _ hm
  obtain ⟨x0, vs0, rfl, w0⟩ := open_struct opensPf Tryd.underlying30 (hval 0 30 v0 rfl rfl) h0
  have k1 := h1
  have lt1 : ∀ x ∈ p1, x.block < W.heap.size := by obtain ⟨m, hm⟩ := k1; exact DataW.trod_lt m _ _ _ hm
  obtain ⟨x1, vs1, rfl, w1⟩ := open_struct opensPf Tryd.underlying30 (hval 1 30 v1 rfl rfl) h1
  clear hA0 hval0
  refine (walk x0 vs0 x1 vs1 W w0 w1 (tab_of hL)).mono fun e W' ⟨he, bel⟩ => ?_
  subst he
  exact ⟨_, rfl, _, _, _, [], _, [], hW', trodAll_mk1 (shut_bool Tryd.underlying4 _), (trodAll_cons_mk (Below.trod laidOut (by kernel_rfl) (of_decide_eq_true (by kernel_rfl)) k0 bel lt0) (trodAll_cons_mk (Below.trod laidOut (by kernel_rfl) (of_decide_eq_true (by kernel_rfl)) k1 bel lt1) trodAll_mk0)), rfl, bel.frame _, fun h => by cases h⟩

theorem laid_met (os : Os) : laidMet Tryd.prog Rows.clashSeeksRow.laid ((laidWorld os).forCall (fun _ _ => 0) ⟨#[], #[.agg zPfC, .agg zPfC], []⟩).memory :=
  laidMet_of_run' 8 (by kernel_rfl) (by kernel_rfl)
theorem reads (os : Os) {H : Type} (enc : TypeId × Value → H) : ∃ places, DataW.whole enc Tryd.prog ((laidWorld os).forCall (fun _ _ => 0) ⟨#[], #[.agg zPfC, .agg zPfC], []⟩).memory Tryd.f4.params.toList Rows.clashSeeksSpec.vars false (#[.agg zPfC, .agg zPfC] : Array Value).toList 8 = some ([.agg [.agg (List.replicate 32 (.lit (.int .u8 0))), .lit (.int .u8 0), .agg (List.replicate 32 (.lit (.int .u8 0))), .nil, .nil], .agg [.agg (List.replicate 32 (.lit (.int .u8 0))), .lit (.int .u8 0), .agg (List.replicate 32 (.lit (.int .u8 0))), .nil, .nil]], [], places) :=
  ⟨[], by kernel_rfl⟩
set_option maxRecDepth 100000 in
theorem lifted (os : Os) (started : os.Started) (H : Type) (enc : TypeId × Value → H) (F : Stop.Interp) :
    ReturnsInHanded {} Tryd.checked os 4 .any ((OpenSpec.ofChange Rows.clashSeeksSpec).preRow enc Tryd.prog Tryd.f4 Rows.clashSeeksRow.domain false Rows.clashSeeksRow.laid) (((OpenSpec.ofChange Rows.clashSeeksSpec).at F).post enc Tryd.prog Tryd.f4 false true false false) := by
  obtain ⟨places, hx⟩ := reads os enc
  refine returnsInHanded_of_row (C := Tryd.checked) (s := OpenSpec.ofChange Rows.clashSeeksSpec) own started (by kernel_rfl) Tryd.func4
    (witness_row_at (enc := enc) (C := Tryd.checked) false (laidWorld os) #[.agg zPfC, .agg zPfC] rfl (by kernel_rfl) (by kernel_rfl) (by kernel_rfl)
      (OpenSpec.preRow_of_cond 8 hx (by kernel_rfl) (fun k hk => by cases hk) (by kernel_rfl) (laid_met os))) ?_
  intro W base args ds gs before hval hW _ _ _ hL _ _
  exact contract H enc W base args ds gs before hval hW hL
theorem said : Rows.ClashSeeksSaid :=
  OpenClaim.holds_of_cond 4 Tryd.f4 rfl rfl rfl rfl rfl rfl rfl ⟨rfl, rfl, rfl, rfl, rfl⟩ rfl rfl rfl rfl rfl (by kernel_rfl) Tryd.func4 (by kernel_rfl)
    (of_decide_eq_true (by kernel_rfl)) (by unfold Func.isWrapper; first | (rw [if_pos (by decide +kernel)]; kernel_rfl) | (rw [if_neg (by decide +kernel)]; exact ⟨rfl, rfl⟩))
    (fun os started H enc _ F => by rw [OpenClaim.pre_eq_preRow]; exact lifted os started H enc F)
set_option maxRecDepth 100000 in
/-- No parameter wants a stand-in; the program's own looks are off: what the card asks. -/
theorem plain (f : FuncId) (fn : Func) (hf : Tryd.pinned.checked.prog.funcNamed "beadroll/beadrolllaw09.ClashSeeks" = some f) (hfn : Tryd.pinned.checked.prog.funcs[f]? = some fn) :
    false = Tryd.pinned.checked.prog.looks [] ∧ ∀ (j : Nat) t, fn.params[j]? = some t → Tryd.pinned.checked.prog.wantsStandIn t = false := by
  obtain rfl : f = 4 := Option.some.inj ((show Tryd.prog.funcNamed "beadroll/beadrolllaw09.ClashSeeks" = some 4 by kernel_rfl).symm.trans hf) |>.symm
  obtain rfl : fn = Tryd.f4 := (Option.some.inj (Tryd.func4.symm.trans hfn)).symm
  refine ⟨by kernel_rfl, fun j t ht => ?_⟩
  rw [Tryd.params4] at ht
  have hm := Array.mem_of_getElem? ht
  simp only [List.mem_toArray, List.mem_cons, List.not_mem_nil, or_false] at hm
  rcases hm with rfl | rfl
  all_goals first | exact (show Tryd.prog.wantsStandIn 30 = false by kernel_rfl)
set_option maxRecDepth 100000 in
/-- ████ THE CARD ████ -/
theorem proved : Rows.ClashSeeksCardSaid :=
  Claim7.holds_tied_plain_at .later [] _ _ _ _ said (fun _ h => by cases h) (by kernel_rfl) (fun _ h => by cases h) clashSeeks_row_tie rfl ⟨rfl, rfl⟩ (by kernel_rfl) rfl plain (by kernel_rfl)
#print axioms proved
end Go.Proofs.YtapnhdpgogfceaaDoor.clashSeeks
