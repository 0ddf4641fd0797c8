/-
  The Go function ClashShows returns true: a proof that fits a tree's sum tells what the tree has, or two unlike texts with one digest are found: any tree and proof; its arguments read afterwards as before.
  Conditions: none. The frame around the walk was written by program (proof-skeleton.mjs).
-/
import Derived.Test.YtapnhdpgogfceaaDoorRows
import Derived.Test.YtapnhdpgogfceaaDoorDoor
import Derived.WalkKit
import Derived.ProofKit
import Derived.OpenShut
import Derived.ShutString
import Derived.ChangeOld
import Derived.Below
import Derived.Test.YtapnhdpgogfceaaDoorAlive09
import Derived.Test.YtapnhdpgogfceaaDoorRef06a
import Derived.Test.YtapnhdpgogfceaaDoorRef07a
import Derived.Test.YtapnhdpgogfceaaDoorTreeB
import Derived.Test.YtapnhdpgogfceaaDoorTrB
import Derived.Test.YtapnhdpgogfceaaDoorTreeLj
import Derived.Test.YtapnhdpgogfceaaDoorPfT
import Derived.Test.YtapnhdpgogfceaaDoorVfX
import Derived.Test.YtapnhdpgogfceaaDoorClS
import Derived.Test.YtapnhdpgogfceaaDoorClE
import Derived.Test.YtapnhdpgogfceaaDoorPfM
namespace Go.Proofs.YtapnhdpgogfceaaDoor.clashShows
open Go.ChangeShapes Go.WideShapes Go.ChangeAt Go.RowKit
open Go.ChangeMaps (open_string shut_string)
set_option linter.unusedVariables false

theorem own : ownKnob Tryd.prog.godebug = none := by kernel_rfl
theorem laidOut : laidOutB Tryd.prog = true := by kernel_rfl

/-- WHAT THE WALK IS TOLD OF A SLICE OF INTEGERS THAT CAME IN: it is nil; or it leads to a row of 'cap' cells, the numbers 'zs' (the first 'len' are its elements, the rest its spare room), each fitting its kind. -/
def IsRow (k : IntKind) (w : World) (a : Option Addr) (len cap : Nat) (zs : List Int) : Prop :=
  (a = none ∧ len = 0 ∧ cap = 0 ∧ zs = []) ∨
  ∃ x, a = some x ∧ len ≤ cap ∧ cap ≤ maxLen ∧ zs.length = cap ∧ (∀ i, i < zs.length → w.cell? (x.add i) = some (.int k (zs.getD i 0))) ∧ ∀ n ∈ zs, (Lit.int k n).wf = true

/-! ### the walk -/
open Go.Proofs.YtapnhdpgogfceaaDoor
/-- What is found of a tree and a proof that fits its sum and tells otherwise. -/
theorem shows_found (t : Tr) (p : Pf) (hm : mayT t = true) (hf : fitsF p (sumM t) = true) (hu : ¬ (toldF p = getTB t p.k ∧ tellV p = getTL t p.k)) :
    (ofE t p == 0) = true ∧ (ofP t p).1 ≠ (ofP t p).2 ∧ sha256 (ofP t p).1 = sha256 (ofP t p).2 := by
  unfold fitsF at hf
  simp only [Bool.and_eq_true, decide_eq_true_eq] at hf
  obtain ⟨hp, hr⟩ := hf
  have hs : sumM t = rootT t := by unfold sumM; rw [if_pos hm]; rfl
  rw [hs] at hr
  obtain ⟨t1, t2⟩ := told_get p.k hm
  have hU : unlikeF (makeF t p.k) p = true := by
    unfold unlikeF
    rw [makeF_k p.k hm]
    have t3 : tellV (makeF t p.k) = getTL t p.k := t2
    rw [t1, t3]
    simp only [decide_true, Bool.true_and, Bool.or_eq_true, decide_eq_true_eq]
    refine Classical.byContradiction fun q => hu ?_
    have q1 : ¬ getTB t p.k ≠ toldF p := fun h => q (.inl h)
    have q2 : ¬ getTL t p.k ≠ tellV p := fun h => q (.inr h)
    exact ⟨(Decidable.of_not_not q1).symm, (Decidable.of_not_not q2).symm⟩
  have hP : ofP t p = firstI (inP (makeF t p.k)) (inP p) := by
    unfold ofP
    rw [hm, hp, hU, decide_eq_true hr]
    rfl
  have hE : ofE t p = 0 := by
    unfold ofE
    rw [hm, hp, hU, decide_eq_true hr]
    rfl
  obtain ⟨f1, f2⟩ := clash_tree hm hp (congrArg (·.1) hr) hU
  rw [hE, hP]
  exact ⟨rfl, f1, f2⟩
set_option linter.unusedSimpArgs false
set_option maxRecDepth 100000 in
set_option maxHeartbeats 8000000 in
theorem walk (x0 : Tr) (vs0 : List Value) (x1 : Pf) (vs1 : List Value) (w : World) (w0 : Enc.rep (fun b => b < w.heap.size) w x0 vs0) (w1 : Enc.rep (fun b => b < w.heap.size) w x1 vs1) (hT : Tab w) :
    Calls Tryd.prog 5 #[.agg vs0.toArray, .agg vs1.toArray] w fun e w' => e = .returned (.bool true) ∧ Below w.heap.size w w' := by
  obtain ⟨A0, c0, rfl, hc0, hm0, hr, hI⟩ := rep_tr w0
  obtain ⟨ns, root⟩ := x0
  obtain ⟨A1, c1, D1, d1, rfl, ⟨hc1, hm1, hv1⟩, ⟨hd1, hn1, hs1⟩⟩ := rep_pf w1
  dsimp only at *
  have hcm : ns.length ≤ 9223372036854775807 := by unfold maxLen at hm0; omega
  obtain ⟨B1, B2, W0⟩ := boxesTP w A0 ns.length c0 root x1 A1 c1 D1 d1 34 30
  have hut := Tryd.underlying34
  have hup := Tryd.underlying30
  have hu := Tryd.underlying27
  have X0 := hid B1.all
  have Y0 := hid B2.all
  have K0 := hid B2.key
  have jT := hid (show (Tryd.prog.info? 34).map (·.size) = some ([Value.slice A0 ns.length c0, .int .i64 root]).length from sizeTr)
  have j1 := hid (sizePfC x1 A1 c1 D1 d1)
  have i1 := hid (sizeDg x1.k)
  replace W0 := hid W0
  have hlow := hT.low
  have fl : Hid (∀ W, Below w.heap.size w W → Row (fun b => b < w.heap.size) W A0 ns ∧ Rd W A1 x1.v ∧ Row (fun b => b < w.heap.size) W D1 x1.ss ∧ Tab W) := hid fun W hb => ⟨hr.bel hb, hv1.rd.bel hb, hs1.bel hb, hT.bel hb hlow⟩
  obtain ⟨g0, hg0⟩ : ∃ gb, greatT ns 600 = gb := ⟨_, rfl⟩
  obtain ⟨g1, hg1⟩ : ∃ g1, (decide (100 < x1.v.length) || decide (300 < x1.ss.length)) = g1 := ⟨_, rfl⟩
  have hG0 := fun W hW => RGreatT_any (fun b => b < w.heap.size) A0 c0 600 ns root W hW hcm
  rw [hg0] at hG0
  have hG1 := hid (fun W => RPfGreat_is x1 A1 c1 D1 d1 g1 W hg1)
  have k0 : Hid (g0 = false → ns.length ≤ 600) := hid fun h => (greatT_no (hg0.trans h)).1
  have k1 : Hid (g1 = false → x1.v.length ≤ 100 ∧ x1.ss.length ≤ 300) := hid fun h => by rw [← hg1] at h; simp at h; exact h
  obtain ⟨mt, hmt⟩ : ∃ m, mayT ⟨ns, root⟩ = m := ⟨_, rfl⟩
  obtain ⟨fb, hfb⟩ : ∃ b, fitsF x1 (sumM ⟨ns, root⟩) = b := ⟨_, rfl⟩
  obtain ⟨tb, htb⟩ : ∃ b, toldF x1 = b := ⟨_, rfl⟩
  obtain ⟨gb, hgb⟩ : ∃ b, getTB ⟨ns, root⟩ x1.k = b := ⟨_, rfl⟩
  obtain ⟨lx, hlx⟩ : ∃ l, (if tb = true then x1.v else []) = l := ⟨_, rfl⟩
  obtain ⟨lg, hlg⟩ : ∃ l, getTL ⟨ns, root⟩ x1.k = l := ⟨_, rfl⟩
  obtain ⟨vb, hvb⟩ : ∃ vb, decide (lx = lg) = vb := ⟨_, rfl⟩
  have hlx2 : tellV x1 = lx := by rw [← hlx, ← htb]; rfl
  have FO := shows_found ⟨ns, root⟩ x1
  rw [hmt, hfb, htb, hgb, hlx2, hlg] at FO
  have CS := fun (k : ns.length ≤ 600) W h (hTW : Tab W) => PTSum_any (fun b => b < w.heap.size) A0 c0 ns root W h (by omega) hTW
  rw [hmt] at CS
  have CF := hid (fun W (a : Rd W A1 x1.v) (b : Row (fun b => b < w.heap.size) W D1 x1.ss) (e : Tab W) => VfFits_is x1 A1 c1 D1 d1 (sumM ⟨ns, root⟩) _ fb W hfb a hc1 hm1 b e)
  have CT := fun (k : x1.v.length ≤ 100 ∧ x1.ss.length ≤ 300) W (a : Rd W A1 x1.v) => PfTold_is x1 A1 c1 D1 d1 tb W a hc1 hm1 (by omega) htb
  rw [hlx] at CT
  have CG := fun (k : ns.length ≤ 600) W h => PGetT_any (fun b => b < w.heap.size) A0 c0 ns root x1.k W h (by omega)
  rw [hlg, hgb] at CG
  have CO := fun (k : ns.length ≤ 600) W h (a : Rd W A1 x1.v) (b : Row (fun b => b < w.heap.size) W D1 x1.ss) (e : Tab W) => ClOf_any (fun b => b < w.heap.size) _ A0 c0 ns root x1 A1 c1 D1 d1 W h (by omega) a hc1 hm1 b e
  have hV := hid (fun A c A2 c2 W (h1 : Rd W A lx) (h2 : Rd W A2 lg) => RSame01_is A A2 c c2 lx lg vb W h1 h2 hvb)
  have AL := hid alive9_any
  have OF := hid (fun A c (l : List UInt8) W (h : Rd W A l) (h1 : l.length ≤ c) (h2 : c ≤ maxLen) (hl : l.length ≤ 1000000) (hTW : Tab W) => Of9_any A c l W h h1 h2 hl hTW)
  have ln := ofP_len ⟨ns, root⟩ x1
  have z1d : ((sumM ⟨ns, root⟩).1.map bv).toArray.size = 32 := by simp [(sumM ⟨ns, root⟩).2]
  have z1o := bvs_all (sumM ⟨ns, root⟩).1
  have i3 := hid (sizeDg (sumM ⟨ns, root⟩))
  have ne0 : vb = false → lx ≠ lg := fun h => by rw [h] at hvb; exact of_decide_eq_false hvb
  clear hg0 hg1 hmt hfb htb hgb hlx hlx2 hlg hvb w0 w1 hI hr hv1 hs1 hc0 hm0 hd1 hn1 hc1 hm1 hcm B1 B2 hT
  generalize ofP ⟨ns, root⟩ x1 = SP at *
  generalize ofE ⟨ns, root⟩ x1 = SE at *
  generalize pfC x1 A1 c1 D1 d1 = cs1 at *
  generalize x1.k.1.map bv = dk1 at *
  generalize (sumM ⟨ns, root⟩).1.map bv = dR1 at *
  obtain ⟨csT, hcsT⟩ : ∃ cs, [Value.slice A0 ns.length c0, .int .i64 root] = cs := ⟨_, rfl⟩
  have hcsA : #[Value.slice A0 ns.length c0, .int .i64 root] = csT.toArray := by rw [← hcsT]
  rw [hcsA] at W0 X0 Y0 K0 hG0 CS CG CO
  rw [hcsA]
  rw [hcsT] at X0 jT
  have hcsA2 := hid hcsA
  clear hcsA hcsT
  replace hG0 := hid hG0
  replace CS := hid CS
  replace CT := hid CT
  replace CG := hid CG
  replace CO := hid CO
  replace FO := hid FO
  replace ne0 := hid ne0
  have hlw := hid hlow
  clear hlow
  have T0 := hid (fl.out _ W0.out).2.2.2
  go_enter Tryd.func5, Tryd.ntmps5
  go_wp2_with fail
  refine (AL.out _ T0.out).mono ?_
  rintro e w1 ⟨rfl, hb⟩
  have W1 := hid (W0.out.trans (hb.mono W0.out.size))
  have X1 := hid (rangeBel2 hb X0.out)
  have Y1 := hid (rangeBel2 hb Y0.out)
  have K1 := hid (rangeBel2 hb K0.out)
  clear hb
  go_wp2_with (first
    | ((with_reducible refine wpList_load_rng ?_ 34 (.tmp 2) rfl w.heap.size 0 rfl csT _ ?_ hut rfl jT.out ?_); rfl; exact X1.out))
  refine (hG0.out _ (fl.out _ W1.out).1).mono ?_
  rintro e w2 ⟨rfl, hb⟩
  have W2 := hid (W1.out.trans (hb.mono W1.out.size))
  have X2 := hid (rangeBel2 hb X1.out)
  have Y2 := hid (rangeBel2 hb Y1.out)
  have K2 := hid (rangeBel2 hb K1.out)
  clear hb
  cases g0 with
  | true =>
    go_wp2
    go_ret
    exact ⟨rfl, W2.out⟩
  | false =>
  replace k0 := k0.out rfl
  replace CS := hid (CS.out k0)
  replace CG := hid (CG.out k0)
  replace CO := hid (CO.out k0)
  clear k0
  go_wp2_with (first
    | ((with_reducible refine wpList_load_rng ?_ 30 (.tmp 3) rfl (w.heap.size + 1) 0 rfl cs1 _ ?_ hup rfl j1.out ?_); rfl; exact Y2.out))
  refine (hG1.out _).mono ?_
  rintro e w3 ⟨rfl, hb⟩
  have W3 := hid (W2.out.trans (hb.mono W2.out.size))
  have X3 := hid (rangeBel2 hb X2.out)
  have Y3 := hid (rangeBel2 hb Y2.out)
  have K3 := hid (rangeBel2 hb K2.out)
  clear hb
  cases g1 with
  | true =>
    go_wp2
    go_ret
    exact ⟨rfl, W3.out⟩
  | false =>
  replace CT := hid (CT.out (k1.out rfl))
  clear k1
  go_wp2_with (first
    | ((with_reducible refine wpList_load_rng ?_ 34 (.tmp 2) rfl w.heap.size 0 rfl csT _ ?_ hut rfl jT.out ?_); rfl; exact X3.out))
  refine (CS.out _ (fl.out _ W3.out).1 (fl.out _ W3.out).2.2.2).mono ?_
  rintro e w4 ⟨rfl, hb⟩
  have W4 := hid (W3.out.trans (hb.mono W3.out.size))
  have X4 := hid (rangeBel2 hb X3.out)
  have Y4 := hid (rangeBel2 hb Y3.out)
  have K4 := hid (rangeBel2 hb K3.out)
  clear hb
  have e1004 := hid (heap_alloc_new w4 (.cells z32 27))
  cases mt with
  | false =>
    go_wp2_with (first
      | (with_reducible refine wpList_alloc_row rfl 27 rfl z32 info32 ?_)
      | ((with_reducible refine wpList_store_row rfl 27 (.tmp 6) (.tmp 30) rfl _ _ rfl rfl 27 z32 ?_ ?_ ?_ ?_ ?_); exact e1004.out; (rw [z1d]; exact size32); (rw [z1d]; exact z32_size); exact z1o; intro w5 hgS hbS hsS; have Xb := hid (xnewP rfl hbS); have R5 := hid (rangeOf hgS); clear hgS hbS hsS; have W5 := hid (W4.out.trans (Xb.out.mono W4.out.size)); have X5 := hid (rangeBel2 Xb.out X4.out); have Y5 := hid (rangeBel2 Xb.out Y4.out); have K5 := hid (rangeBel2 Xb.out K4.out)))
    go_ret
    exact ⟨rfl, W5.out⟩
  | true =>
  go_wp2_with (first
    | (with_reducible refine wpList_alloc_row rfl 27 rfl z32 info32 ?_)
    | ((with_reducible refine wpList_store_row rfl 27 (.tmp 6) (.tmp 30) rfl _ _ rfl rfl 27 z32 ?_ ?_ ?_ ?_ ?_); exact e1004.out; (rw [z1d]; exact size32); (rw [z1d]; exact z32_size); exact z1o; intro w5 hgS hbS hsS; have Xb := hid (xnewP rfl hbS); have R5 := hid (rangeOf hgS); clear hgS hbS hsS; have W5 := hid (W4.out.trans (Xb.out.mono W4.out.size)); have X5 := hid (rangeBel2 Xb.out X4.out); have Y5 := hid (rangeBel2 Xb.out Y4.out); have K5 := hid (rangeBel2 Xb.out K4.out))
    | ((with_reducible refine wpList_load_rng ?_ 30 (.tmp 3) rfl (w.heap.size + 1) 0 rfl cs1 _ ?_ hup rfl j1.out ?_); rfl; exact Y5.out)
    | ((with_reducible refine wpList_load_rng ?_ 27 (.tmp 6) rfl w4.heap.size 0 rfl dR1 _ ?_ hu rfl i3.out ?_); rfl; exact R5.out))
  refine (CF.out _ (fl.out _ W5.out).2.1 (fl.out _ W5.out).2.2.1 (fl.out _ W5.out).2.2.2).mono ?_
  rintro e w6 ⟨rfl, hb⟩
  have W6 := hid (W5.out.trans (hb.mono W5.out.size))
  have X6 := hid (rangeBel2 hb X5.out)
  have Y6 := hid (rangeBel2 hb Y5.out)
  have K6 := hid (rangeBel2 hb K5.out)
  clear hb
  cases fb with
  | false =>
    go_wp2
    go_ret
    exact ⟨rfl, W6.out⟩
  | true =>
  go_wp2_with (first
    | ((with_reducible refine wpList_load_rng ?_ 30 (.tmp 3) rfl (w.heap.size + 1) 0 rfl cs1 _ ?_ hup rfl j1.out ?_); rfl; exact Y6.out))
  refine (CT.out _ (fl.out _ W6.out).2.1).mono ?_
  rintro e w7 ⟨A5, c5, rfl, o5, hb⟩
  have P7 := hid o5.rd
  clear o5
  have W7 := hid (W6.out.trans (hb.mono W6.out.size))
  have X7 := hid (rangeBel2 hb X6.out)
  have Y7 := hid (rangeBel2 hb Y6.out)
  have K7 := hid (rangeBel2 hb K6.out)
  clear hb
  go_wp2_with (first
    | ((with_reducible refine wpList_load_rng ?_ 34 (.tmp 2) rfl w.heap.size 0 rfl csT _ ?_ hut rfl jT.out ?_); rfl; exact X7.out)
    | ((with_reducible refine wpList_load_rng ?_ 27 (.tmp 48) rfl (w.heap.size + 1) 0 rfl dk1 _ ?_ hu rfl i1.out ?_); rfl; exact K7.out))
  refine (CG.out _ (fl.out _ W7.out).1).mono ?_
  rintro e w8 ⟨A6, c6, rfl, o6, hb⟩
  have Q8 := hid o6.rd
  clear o6
  have W8 := hid (W7.out.trans (hb.mono W7.out.size))
  have X8 := hid (rangeBel2 hb X7.out)
  have Y8 := hid (rangeBel2 hb Y7.out)
  have P8 := hid (P7.out.bel hb)
  clear hb
  cases tb with
  | false =>
    cases gb with
    | false =>
      go_wp2_with fail
      refine (hV.out _ _ _ _ _ P8.out Q8.out).mono ?_
      rintro e wz ⟨rfl, rfl⟩
      cases vb with
      | true =>
        go_wp2
        go_ret
        exact ⟨rfl, W8.out⟩
      | false =>
      obtain ⟨q, hne, hsh⟩ := FO.out (by first | trivial | rfl) (by first | trivial | rfl) (by first | exact (fun q => ne0.out (by first | trivial | rfl) q.2) | exact (fun q => ne0.out (by first | trivial | rfl) q) | (intro q; cases q.1) | (intro q; cases q))
      have hSm := hid (fun A c A2 c2 W (h1 : Rd W A SP.1) (h2 : Rd W A2 SP.2) => RSame01_is A A2 c c2 SP.1 SP.2 false W h1 h2 (decide_eq_false hne))
      clear hne FO
      have hz : ∀ W, (Op.equalIn 10000 27 (.agg ((sha256 SP.1).map bv).toArray) (.agg ((sha256 SP.2).map bv).toArray)).run Tryd.prog W = .ok true W := fun W => eqd_is ⟨sha256 SP.1, shaLen _⟩ ⟨sha256 SP.2, shaLen _⟩ true (decide_eq_true (Subtype.ext hsh)) W
      clear hsh
      go_wp2_with (first
        | ((with_reducible refine wpList_load_rng ?_ 34 (.tmp 2) rfl w.heap.size 0 rfl csT _ ?_ hut rfl jT.out ?_); rfl; exact X8.out)
        | ((with_reducible refine wpList_load_rng ?_ 30 (.tmp 3) rfl (w.heap.size + 1) 0 rfl cs1 _ ?_ hup rfl j1.out ?_); rfl; exact Y8.out))
      refine (CO.out _ (fl.out _ W8.out).1 (fl.out _ W8.out).2.1 (fl.out _ W8.out).2.2.1 (fl.out _ W8.out).2.2.2).mono ?_
      rintro e w9 ⟨E1, b1, E2, b2, rfl, t1, t2, hb⟩
      have P9 := hid t1
      have Q9 := hid t2
      clear t1 t2
      have W9 := hid (W8.out.trans (hb.mono W8.out.size))
      clear hb
      go_wp2_with fail
      refine (hSm.out _ _ _ _ _ P9.out.1 Q9.out.1).mono ?_
      rintro e wz ⟨rfl, rfl⟩
      have O1 := hid (OF.out E1 b1 SP.1 w9 P9.out.1 P9.out.2.1 P9.out.2.2 ln.1 (fl.out _ W9.out).2.2.2)
      have O2f := hid (fun W (h : Txt W E2 b2 SP.2) (hTW : Tab W) => OF.out E2 b2 SP.2 W h.1 h.2.1 h.2.2 ln.2 hTW)
      generalize (sha256 SP.1).map bv = h1 at *
      generalize (sha256 SP.2).map bv = h2 at *
      go_wp2_with fail
      refine O1.out.mono ?_
      rintro e w10 ⟨rfl, hb⟩
      have W10 := hid (W9.out.trans (hb.mono W9.out.size))
      have Q10 := hid (Q9.out.bel hb)
      clear hb
      have O2 := hid (O2f.out w10 Q10.out (fl.out _ W10.out).2.2.2)
      go_wp2_with fail
      refine O2.out.mono ?_
      rintro e w11 ⟨rfl, hb⟩
      have W11 := hid (W10.out.trans (hb.mono W10.out.size))
      clear hb
      go_wp2
      go_ret
      exact ⟨rfl, W11.out⟩
    | true =>
      obtain ⟨q, hne, hsh⟩ := FO.out (by first | trivial | rfl) (by first | trivial | rfl) (by first | (intro q; cases q.1) | (intro q; cases q))
      have hSm := hid (fun A c A2 c2 W (h1 : Rd W A SP.1) (h2 : Rd W A2 SP.2) => RSame01_is A A2 c c2 SP.1 SP.2 false W h1 h2 (decide_eq_false hne))
      clear hne FO
      have hz : ∀ W, (Op.equalIn 10000 27 (.agg ((sha256 SP.1).map bv).toArray) (.agg ((sha256 SP.2).map bv).toArray)).run Tryd.prog W = .ok true W := fun W => eqd_is ⟨sha256 SP.1, shaLen _⟩ ⟨sha256 SP.2, shaLen _⟩ true (decide_eq_true (Subtype.ext hsh)) W
      clear hsh
      go_wp2_with (first
        | ((with_reducible refine wpList_load_rng ?_ 34 (.tmp 2) rfl w.heap.size 0 rfl csT _ ?_ hut rfl jT.out ?_); rfl; exact X8.out)
        | ((with_reducible refine wpList_load_rng ?_ 30 (.tmp 3) rfl (w.heap.size + 1) 0 rfl cs1 _ ?_ hup rfl j1.out ?_); rfl; exact Y8.out))
      refine (CO.out _ (fl.out _ W8.out).1 (fl.out _ W8.out).2.1 (fl.out _ W8.out).2.2.1 (fl.out _ W8.out).2.2.2).mono ?_
      rintro e w9 ⟨E1, b1, E2, b2, rfl, t1, t2, hb⟩
      have P9 := hid t1
      have Q9 := hid t2
      clear t1 t2
      have W9 := hid (W8.out.trans (hb.mono W8.out.size))
      clear hb
      go_wp2_with fail
      refine (hSm.out _ _ _ _ _ P9.out.1 Q9.out.1).mono ?_
      rintro e wz ⟨rfl, rfl⟩
      have O1 := hid (OF.out E1 b1 SP.1 w9 P9.out.1 P9.out.2.1 P9.out.2.2 ln.1 (fl.out _ W9.out).2.2.2)
      have O2f := hid (fun W (h : Txt W E2 b2 SP.2) (hTW : Tab W) => OF.out E2 b2 SP.2 W h.1 h.2.1 h.2.2 ln.2 hTW)
      generalize (sha256 SP.1).map bv = h1 at *
      generalize (sha256 SP.2).map bv = h2 at *
      go_wp2_with fail
      refine O1.out.mono ?_
      rintro e w10 ⟨rfl, hb⟩
      have W10 := hid (W9.out.trans (hb.mono W9.out.size))
      have Q10 := hid (Q9.out.bel hb)
      clear hb
      have O2 := hid (O2f.out w10 Q10.out (fl.out _ W10.out).2.2.2)
      go_wp2_with fail
      refine O2.out.mono ?_
      rintro e w11 ⟨rfl, hb⟩
      have W11 := hid (W10.out.trans (hb.mono W10.out.size))
      clear hb
      go_wp2
      go_ret
      exact ⟨rfl, W11.out⟩
  | true =>
    cases gb with
    | false =>
      obtain ⟨q, hne, hsh⟩ := FO.out (by first | trivial | rfl) (by first | trivial | rfl) (by first | (intro q; cases q.1) | (intro q; cases q))
      have hSm := hid (fun A c A2 c2 W (h1 : Rd W A SP.1) (h2 : Rd W A2 SP.2) => RSame01_is A A2 c c2 SP.1 SP.2 false W h1 h2 (decide_eq_false hne))
      clear hne FO
      have hz : ∀ W, (Op.equalIn 10000 27 (.agg ((sha256 SP.1).map bv).toArray) (.agg ((sha256 SP.2).map bv).toArray)).run Tryd.prog W = .ok true W := fun W => eqd_is ⟨sha256 SP.1, shaLen _⟩ ⟨sha256 SP.2, shaLen _⟩ true (decide_eq_true (Subtype.ext hsh)) W
      clear hsh
      go_wp2_with (first
        | ((with_reducible refine wpList_load_rng ?_ 34 (.tmp 2) rfl w.heap.size 0 rfl csT _ ?_ hut rfl jT.out ?_); rfl; exact X8.out)
        | ((with_reducible refine wpList_load_rng ?_ 30 (.tmp 3) rfl (w.heap.size + 1) 0 rfl cs1 _ ?_ hup rfl j1.out ?_); rfl; exact Y8.out))
      refine (CO.out _ (fl.out _ W8.out).1 (fl.out _ W8.out).2.1 (fl.out _ W8.out).2.2.1 (fl.out _ W8.out).2.2.2).mono ?_
      rintro e w9 ⟨E1, b1, E2, b2, rfl, t1, t2, hb⟩
      have P9 := hid t1
      have Q9 := hid t2
      clear t1 t2
      have W9 := hid (W8.out.trans (hb.mono W8.out.size))
      clear hb
      go_wp2_with fail
      refine (hSm.out _ _ _ _ _ P9.out.1 Q9.out.1).mono ?_
      rintro e wz ⟨rfl, rfl⟩
      have O1 := hid (OF.out E1 b1 SP.1 w9 P9.out.1 P9.out.2.1 P9.out.2.2 ln.1 (fl.out _ W9.out).2.2.2)
      have O2f := hid (fun W (h : Txt W E2 b2 SP.2) (hTW : Tab W) => OF.out E2 b2 SP.2 W h.1 h.2.1 h.2.2 ln.2 hTW)
      generalize (sha256 SP.1).map bv = h1 at *
      generalize (sha256 SP.2).map bv = h2 at *
      go_wp2_with fail
      refine O1.out.mono ?_
      rintro e w10 ⟨rfl, hb⟩
      have W10 := hid (W9.out.trans (hb.mono W9.out.size))
      have Q10 := hid (Q9.out.bel hb)
      clear hb
      have O2 := hid (O2f.out w10 Q10.out (fl.out _ W10.out).2.2.2)
      go_wp2_with fail
      refine O2.out.mono ?_
      rintro e w11 ⟨rfl, hb⟩
      have W11 := hid (W10.out.trans (hb.mono W10.out.size))
      clear hb
      go_wp2
      go_ret
      exact ⟨rfl, W11.out⟩
    | true =>
      go_wp2_with fail
      refine (hV.out _ _ _ _ _ P8.out Q8.out).mono ?_
      rintro e wz ⟨rfl, rfl⟩
      cases vb with
      | true =>
        go_wp2
        go_ret
        exact ⟨rfl, W8.out⟩
      | false =>
      obtain ⟨q, hne, hsh⟩ := FO.out (by first | trivial | rfl) (by first | trivial | rfl) (by first | exact (fun q => ne0.out (by first | trivial | rfl) q.2) | exact (fun q => ne0.out (by first | trivial | rfl) q) | (intro q; cases q.1) | (intro q; cases q))
      have hSm := hid (fun A c A2 c2 W (h1 : Rd W A SP.1) (h2 : Rd W A2 SP.2) => RSame01_is A A2 c c2 SP.1 SP.2 false W h1 h2 (decide_eq_false hne))
      clear hne FO
      have hz : ∀ W, (Op.equalIn 10000 27 (.agg ((sha256 SP.1).map bv).toArray) (.agg ((sha256 SP.2).map bv).toArray)).run Tryd.prog W = .ok true W := fun W => eqd_is ⟨sha256 SP.1, shaLen _⟩ ⟨sha256 SP.2, shaLen _⟩ true (decide_eq_true (Subtype.ext hsh)) W
      clear hsh
      go_wp2_with (first
        | ((with_reducible refine wpList_load_rng ?_ 34 (.tmp 2) rfl w.heap.size 0 rfl csT _ ?_ hut rfl jT.out ?_); rfl; exact X8.out)
        | ((with_reducible refine wpList_load_rng ?_ 30 (.tmp 3) rfl (w.heap.size + 1) 0 rfl cs1 _ ?_ hup rfl j1.out ?_); rfl; exact Y8.out))
      refine (CO.out _ (fl.out _ W8.out).1 (fl.out _ W8.out).2.1 (fl.out _ W8.out).2.2.1 (fl.out _ W8.out).2.2.2).mono ?_
      rintro e w9 ⟨E1, b1, E2, b2, rfl, t1, t2, hb⟩
      have P9 := hid t1
      have Q9 := hid t2
      clear t1 t2
      have W9 := hid (W8.out.trans (hb.mono W8.out.size))
      clear hb
      go_wp2_with fail
      refine (hSm.out _ _ _ _ _ P9.out.1 Q9.out.1).mono ?_
      rintro e wz ⟨rfl, rfl⟩
      have O1 := hid (OF.out E1 b1 SP.1 w9 P9.out.1 P9.out.2.1 P9.out.2.2 ln.1 (fl.out _ W9.out).2.2.2)
      have O2f := hid (fun W (h : Txt W E2 b2 SP.2) (hTW : Tab W) => OF.out E2 b2 SP.2 W h.1 h.2.1 h.2.2 ln.2 hTW)
      generalize (sha256 SP.1).map bv = h1 at *
      generalize (sha256 SP.2).map bv = h2 at *
      go_wp2_with fail
      refine O1.out.mono ?_
      rintro e w10 ⟨rfl, hb⟩
      have W10 := hid (W9.out.trans (hb.mono W9.out.size))
      have Q10 := hid (Q9.out.bel hb)
      clear hb
      have O2 := hid (O2f.out w10 Q10.out (fl.out _ W10.out).2.2.2)
      go_wp2_with fail
      refine O2.out.mono ?_
      rintro e w11 ⟨rfl, hb⟩
      have W11 := hid (W10.out.trans (hb.mono W10.out.size))
      clear hb
      go_wp2
      go_ret
      exact ⟨rfl, W11.out⟩

/-! ### WHAT THE WALK GIVES, FOR EVERY ARGUMENT AND EVERY WORLD THAT HOLDS THE TABLE -/
set_option maxRecDepth 100000 in
theorem contract (H : Type) (enc : TypeId × Value → H) (W : World) (base : Nat) (args : Array Value) (ds gs : List (DataW H)) (before : List MemPlace)
    (hval0 : ∀ (j : Nat) t v, Tryd.f5.params[j]? = some t → args[j]? = some v → Value.okWide Tryd.prog W .any base t v)
    (hW : DataW.Whole enc Tryd.prog Tryd.f5.params.toList Rows.clashShowsSpec.vars false W args.toList ds gs before) (hL : laidMetH Tryd.prog Rows.clashShowsRow.laid W) :
    Calls Tryd.prog 5 args W fun e W' => ∃ v, e = .returned v ∧ Rows.clashShowsSpec.post enc Tryd.prog Tryd.f5 false true false false W args v W' := by
  have hval : ∀ (j : Nat) t v, Tryd.f5.params[j]? = some t → args[j]? = some v → Value.okWide Tryd.prog W .any base t v := hval0
  have hW' := hW
  obtain ⟨p, q, hA0, hV, rfl, hfz, hnd⟩ := hW
  have hA : DataW.TrodAll enc Tryd.prog W 0 (fun _ => true) true Tryd.f5.params.toList args.toList ds p := hA0
  rw [Tryd.params5] at hA hval
  obtain ⟨v0, vs0, d0, ds0, p0, q0, hargs, rfl, rfl, h0, r0⟩ := trodAll_cons hA
  obtain ⟨v1, vs1, d1, ds1, p1, q1, rfl, rfl, rfl, h1, r1⟩ := trodAll_cons r0
  obtain ⟨rfl, rfl, rfl⟩ := trodAll_nil r1
  obtain rfl : args = #[v0, v1] := by cases args; simp_all
  obtain ⟨rfl, rfl⟩ := trodVars_none hV
  have k0 := h0
  have lt0 : ∀ x ∈ p0, x.block < W.heap.size := by obtain ⟨m, hm⟩ := k0; exact DataW.trod_lt m _ _ _ hm
  obtain ⟨x0, vs0, rfl, w0⟩ := open_struct opensTr Tryd.underlying34 (hval 0 34 v0 rfl rfl) h0
  have k1 := h1
  have lt1 : ∀ x ∈ p1, x.block < W.heap.size := by obtain ⟨m, hm⟩ := k1; exact DataW.trod_lt m _ _ _ hm
  obtain ⟨x1, vs1, rfl, w1⟩ := open_struct opensPf Tryd.underlying30 (hval 1 30 v1 rfl rfl) h1
  clear hA0 hval0
  refine (walk x0 vs0 x1 vs1 W w0 w1 (tab_of hL)).mono fun e W' ⟨he, bel⟩ => ?_
  subst he
  exact ⟨_, rfl, _, _, _, [], _, [], hW', trodAll_mk1 (shut_bool Tryd.underlying4 _), (trodAll_cons_mk (Below.trod laidOut (by kernel_rfl) (of_decide_eq_true (by kernel_rfl)) k0 bel lt0) (trodAll_cons_mk (Below.trod laidOut (by kernel_rfl) (of_decide_eq_true (by kernel_rfl)) k1 bel lt1) trodAll_mk0)), rfl, bel.frame _, fun h => by cases h⟩

theorem laid_met (os : Os) : laidMet Tryd.prog Rows.clashShowsRow.laid ((laidWorld os).forCall (fun _ _ => 0) ⟨#[], #[.agg zTrC, .agg zPfC], []⟩).memory :=
  laidMet_of_run' 8 (by kernel_rfl) (by kernel_rfl)
theorem reads (os : Os) {H : Type} (enc : TypeId × Value → H) : ∃ places, DataW.whole enc Tryd.prog ((laidWorld os).forCall (fun _ _ => 0) ⟨#[], #[.agg zTrC, .agg zPfC], []⟩).memory Tryd.f5.params.toList Rows.clashShowsSpec.vars false (#[.agg zTrC, .agg zPfC] : Array Value).toList 8 = some ([.agg [.nil, .lit (.int .i64 0)], .agg [.agg (List.replicate 32 (.lit (.int .u8 0))), .lit (.int .u8 0), .agg (List.replicate 32 (.lit (.int .u8 0))), .nil, .nil]], [], places) :=
  ⟨[], by kernel_rfl⟩
set_option maxRecDepth 100000 in
theorem lifted (os : Os) (started : os.Started) (H : Type) (enc : TypeId × Value → H) (F : Stop.Interp) :
    ReturnsInHanded {} Tryd.checked os 5 .any ((OpenSpec.ofChange Rows.clashShowsSpec).preRow enc Tryd.prog Tryd.f5 Rows.clashShowsRow.domain false Rows.clashShowsRow.laid) (((OpenSpec.ofChange Rows.clashShowsSpec).at F).post enc Tryd.prog Tryd.f5 false true false false) := by
  obtain ⟨places, hx⟩ := reads os enc
  refine returnsInHanded_of_row (C := Tryd.checked) (s := OpenSpec.ofChange Rows.clashShowsSpec) own started (by kernel_rfl) Tryd.func5
    (witness_row_at (enc := enc) (C := Tryd.checked) false (laidWorld os) #[.agg zTrC, .agg zPfC] rfl (by kernel_rfl) (by kernel_rfl) (by kernel_rfl)
      (OpenSpec.preRow_of_cond 8 hx (by kernel_rfl) (fun k hk => by cases hk) (by kernel_rfl) (laid_met os))) ?_
  intro W base args ds gs before hval hW _ _ _ hL _ _
  exact contract H enc W base args ds gs before hval hW hL
theorem said : Rows.ClashShowsSaid :=
  OpenClaim.holds_of_cond 5 Tryd.f5 rfl rfl rfl rfl rfl rfl rfl ⟨rfl, rfl, rfl, rfl, rfl⟩ rfl rfl rfl rfl rfl (by kernel_rfl) Tryd.func5 (by kernel_rfl)
    (of_decide_eq_true (by kernel_rfl)) (by unfold Func.isWrapper; first | (rw [if_pos (by decide +kernel)]; kernel_rfl) | (rw [if_neg (by decide +kernel)]; exact ⟨rfl, rfl⟩))
    (fun os started H enc _ F => by rw [OpenClaim.pre_eq_preRow]; exact lifted os started H enc F)
set_option maxRecDepth 100000 in
/-- No parameter wants a stand-in; the program's own looks are off: what the card asks. -/
theorem plain (f : FuncId) (fn : Func) (hf : Tryd.pinned.checked.prog.funcNamed "beadroll/beadrolllaw09.ClashShows" = some f) (hfn : Tryd.pinned.checked.prog.funcs[f]? = some fn) :
    false = Tryd.pinned.checked.prog.looks [] ∧ ∀ (j : Nat) t, fn.params[j]? = some t → Tryd.pinned.checked.prog.wantsStandIn t = false := by
  obtain rfl : f = 5 := Option.some.inj ((show Tryd.prog.funcNamed "beadroll/beadrolllaw09.ClashShows" = some 5 by kernel_rfl).symm.trans hf) |>.symm
  obtain rfl : fn = Tryd.f5 := (Option.some.inj (Tryd.func5.symm.trans hfn)).symm
  refine ⟨by kernel_rfl, fun j t ht => ?_⟩
  rw [Tryd.params5] at ht
  have hm := Array.mem_of_getElem? ht
  simp only [List.mem_toArray, List.mem_cons, List.not_mem_nil, or_false] at hm
  rcases hm with rfl | rfl
  all_goals first | exact (show Tryd.prog.wantsStandIn 34 = false by kernel_rfl) | exact (show Tryd.prog.wantsStandIn 30 = false by kernel_rfl)
set_option maxRecDepth 100000 in
/-- ████ THE CARD ████ -/
theorem proved : Rows.ClashShowsCardSaid :=
  Claim7.holds_tied_plain_at .later [] _ _ _ _ said (fun _ h => by cases h) (by kernel_rfl) (fun _ h => by cases h) clashShows_row_tie rfl ⟨rfl, rfl⟩ (by kernel_rfl) rfl plain (by kernel_rfl)
#print axioms proved
end Go.Proofs.YtapnhdpgogfceaaDoor.clashShows
