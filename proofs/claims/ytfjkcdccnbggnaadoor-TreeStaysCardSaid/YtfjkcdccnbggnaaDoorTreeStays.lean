/-
  The Go function TreeStays returns true: a version stays: whatever is put and dropped, it stands for the same pairs, and has the same sum: any tree, two keys and values; its arguments read afterwards as before.
  Conditions: none. The frame around the walk was written by program (proof-skeleton.mjs).
-/
import Derived.Test.YtfjkcdccnbggnaaDoorRows
import Derived.Test.YtfjkcdccnbggnaaDoorDoor
import Derived.WalkKit
import Derived.ProofKit
import Derived.OpenShut
import Derived.ShutString
import Derived.ChangeOld
import Derived.Below
import Derived.Test.YtfjkcdccnbggnaaDoorRef06a
import Derived.Test.YtfjkcdccnbggnaaDoorTreeStay
import Derived.Test.YtfjkcdccnbggnaaDoorAlive06
import Derived.Test.YtfjkcdccnbggnaaDoorTreeB
namespace Go.Proofs.YtfjkcdccnbggnaaDoor.treeStays
open Go.ChangeShapes Go.WideShapes Go.ChangeAt Go.RowKit
open Go.ChangeMaps (open_string shut_string)
set_option linter.unusedVariables false

theorem own : ownKnob Tryd.prog.godebug = none := by kernel_rfl
theorem laidOut : laidOutB Tryd.prog = true := by kernel_rfl

/-- WHAT THE WALK IS TOLD OF A SLICE OF INTEGERS THAT CAME IN: it is nil; or it leads to a row of 'cap' cells, the numbers 'zs' (the first 'len' are its elements, the rest its spare room), each fitting its kind. -/
def IsRow (k : IntKind) (w : World) (a : Option Addr) (len cap : Nat) (zs : List Int) : Prop :=
  (a = none ∧ len = 0 ∧ cap = 0 ∧ zs = []) ∨
  ∃ x, a = some x ∧ len ≤ cap ∧ cap ≤ maxLen ∧ zs.length = cap ∧ (∀ i, i < zs.length → w.cell? (x.add i) = some (.int k (zs.getD i 0))) ∧ ∀ n ∈ zs, (Lit.int k n).wf = true

/-! ### the walk -/
open Go.Proofs.YtfjkcdccnbggnaaDoor
set_option linter.unusedSimpArgs false
theorem boxesTKK (w : World) (A : Option Addr) (n c : Nat) (root : Int) (k j : Dg) :
    BoxT (((w.alloc (.cells #[.slice A n c, .int .i64 root] 44)).alloc (.cells (k.1.map bv).toArray 23)).alloc (.cells (j.1.map bv).toArray 23)) w.heap.size A n c root ∧
    (((w.alloc (.cells #[.slice A n c, .int .i64 root] 44)).alloc (.cells (k.1.map bv).toArray 23)).alloc (.cells (j.1.map bv).toArray 23)).rangeAt (w.heap.size + 1) 0 (k.1.map bv) ∧
    (((w.alloc (.cells #[.slice A n c, .int .i64 root] 44)).alloc (.cells (k.1.map bv).toArray 23)).alloc (.cells (j.1.map bv).toArray 23)).rangeAt (w.heap.size + 1 + 1) 0 (j.1.map bv) ∧
    Below w.heap.size w (((w.alloc (.cells #[.slice A n c, .int .i64 root] 44)).alloc (.cells (k.1.map bv).toArray 23)).alloc (.cells (j.1.map bv).toArray 23)) := by
  obtain ⟨h1, h2, h3⟩ := boxesTDp w A n c root k 44 23
  have h4 := rangeOf (heap_alloc_new ((w.alloc (.cells #[.slice A n c, .int .i64 root] 44)).alloc (.cells (k.1.map bv).toArray 23)) (.cells (j.1.map bv).toArray 23))
  simp only [World.size_alloc] at h4
  exact ⟨h1.bel (ext_alloc _ _), rangeBel2 (ext_alloc _ _) h2, h4, ext_trans h3 (ext_alloc _ _)⟩
set_option maxRecDepth 100000 in
set_option maxHeartbeats 16000000 in
theorem walk (x0 : Tr) (vs0 : List Value) (l1 : List UInt8) (a2 : Option Addr) (len2 cap2 : Nat) (z2 : List Int) (l3 : List UInt8) (a4 : Option Addr) (len4 cap4 : Nat) (z4 : List Int) (w : World) (w0 : Enc.rep (fun b => b < w.heap.size) w x0 vs0) (w1 : l1.length = 32) (w2 : IsRow .u8 w a2 len2 cap2 z2) (w3 : l3.length = 32) (w4 : IsRow .u8 w a4 len4 cap4 z4) (hT : Tab w) :
    Calls Tryd.prog 5 #[.agg vs0.toArray, .agg (l1.map bv).toArray, .slice a2 len2 cap2, .agg (l3.map bv).toArray, .slice a4 len4 cap4] w fun e w' => e = .returned (.bool true) ∧ Below w.heap.size w w' := by
  obtain ⟨A0, c0, rfl, hc0, hm0, hr, hI⟩ := rep_tr w0
  obtain ⟨ns, root⟩ := x0
  obtain ⟨k, rfl⟩ : ∃ k : Dg, l1 = k.1 := ⟨⟨l1, w1⟩, rfl⟩
  obtain ⟨j, rfl⟩ : ∃ j : Dg, l3 = j.1 := ⟨⟨l3, w3⟩, rfl⟩
  obtain ⟨v, rfl, hv, hvd, hdm⟩ := rd_of_row w2
  obtain ⟨u, rfl, hq, hqd, hqm⟩ := rd_of_row w4
  dsimp only at *
  have hcm : ns.length ≤ 9223372036854775807 := by unfold maxLen at hm0; omega
  have hvl : v.length ≤ 9223372036854775807 := by unfold maxLen at hdm; omega
  have hul : u.length ≤ 9223372036854775807 := by unfold maxLen at hqm; omega
  obtain ⟨T0, K0, J0, W0⟩ := boxesTKK w A0 ns.length c0 root k j
  have hu := Tryd.underlying23
  have hut := Tryd.underlying44
  have hi := hid (sizeDgT k)
  have hj := hid (sizeDgT j)
  have hiT := hid (show (Tryd.prog.info? 44).map (·.size) = some ([Value.slice A0 ns.length c0, .int .i64 root]).length from sizeTr)
  have R0 := hid (hr.bel W0)
  have V0 := hid (hv.bel W0)
  have U0 := hid (hq.bel W0)
  have H0 := hid (hT.bel W0 hT.low)
  have hlow := hid hT.low
  obtain ⟨gb, hgb⟩ : ∃ gb, greatT ns 600 = gb := ⟨_, rfl⟩
  have hGr := fun W hW => RGreatT_any (fun b => b < w.heap.size) A0 c0 600 ns root W hW hcm
  rw [hgb] at hGr
  replace hGr := hid hGr
  replace hgb := hid hgb
  have hAl := hid (fun W hTW => alive6_any W hTW)
  replace T0 := hid T0
  replace K0 := hid K0
  replace J0 := hid J0
  replace W0 := hid W0
  clear hr hv hq w0 w1 w2 w3 w4 hI hT
  generalize hdk : k.1.map bv = dk at *
  generalize hdj : j.1.map bv = dj at *
  replace hdk := hid hdk
  replace hdj := hid hdj
  go_enter Tryd.func5, Tryd.ntmps5
  go_wp2_with fail
  generalize ((w.alloc (.cells #[.slice A0 ns.length c0, .int .i64 root] 44)).alloc (.cells dk.toArray 23)).alloc (.cells dj.toArray 23) = w0 at *
  refine (hAl.out _ H0.out).mono ?_
  rintro e w1 ⟨rfl, hb⟩
  have T1 := hid (T0.out.bel hb)
  have K1 := hid (rangeBel2 hb K0.out)
  have J1 := hid (rangeBel2 hb J0.out)
  have R1 := hid (R0.out.bel hb)
  have V1 := hid (V0.out.bel hb)
  have U1 := hid (U0.out.bel hb)
  have H1 := hid (H0.out.bel hb (Nat.lt_of_lt_of_le hlow.out W0.out.size))
  have W1 := hid (W0.out.trans (hb.mono W0.out.size))
  clear T0 K0 J0 R0 V0 U0 H0 W0
  clear hb hAl
  go_wp2_with (first
    | ((with_reducible refine wpList_load_rng ?_ 44 (.tmp 5) rfl w.heap.size 0 rfl [Value.slice A0 ns.length c0, .int .i64 root] _ ?_ hut rfl hiT.out ?_); rfl; exact T1.out.all))
  refine (hGr.out _ R1.out).mono ?_
  rintro e w2 ⟨rfl, hb⟩
  have T2 := hid (T1.out.bel hb)
  have K2 := hid (rangeBel2 hb K1.out)
  have J2 := hid (rangeBel2 hb J1.out)
  have R2 := hid (R1.out.bel hb)
  have V2 := hid (V1.out.bel hb)
  have U2 := hid (U1.out.bel hb)
  have H2 := hid (H1.out.bel hb (Nat.lt_of_lt_of_le hlow.out W1.out.size))
  have W2 := hid (W1.out.trans (hb.mono W1.out.size))
  clear T1 K1 J1 R1 V1 U1 H1 W1
  clear hb hGr
  cases gb with
  | true =>
    go_wp2
    go_ret
    exact ⟨rfl, W2.out⟩
  | false =>
    by_cases hv100 : 100 < v.length
    · have q1 : decide ((100 : Int) < (v.length : Int)) = true := decide_eq_true (by omega)
      go_wp2
      go_ret
      exact ⟨rfl, W2.out⟩
    have q1 : decide ((100 : Int) < (v.length : Int)) = false := decide_eq_false (by omega)
    by_cases hu100 : 100 < u.length
    · have q2 : decide ((100 : Int) < (u.length : Int)) = true := decide_eq_true (by omega)
      go_wp2
      go_ret
      exact ⟨rfl, W2.out⟩
    have q2 : decide ((100 : Int) < (u.length : Int)) = false := decide_eq_false (by omega)
    obtain ⟨hlen, -⟩ := greatT_no hgb.out
    clear hgb
    have hP0 : Hid (∀ (F : Nat → Prop) (A : Option Addr) (c : Nat) (W : World), Row F W A ns → Calls Tryd.prog 22 #[.agg #[.slice A ns.length c, .int .i64 root]] W fun e w' => ∃ A' c', e = .returned (.tuple #[.slice A' (pairsM ⟨ns, root⟩).length c', .int .i64 (if mayT ⟨ns, root⟩ = true then 0 else 8)]) ∧ OwnR 26 w' W.heap.size A' c' (pairsM ⟨ns, root⟩) ∧ Below W.heap.size W w') := hid (fun F A c W hW => PTPairs_any F A c ns root W hW (by omega))
    have hS0 := hid (fun F A c W hW hTW => PTSum_any F A c ns root W hW (by omega) hTW)
    have hX := hid (fun F A c W hW hV => PTPut_any F A a2 c cap2 ns root k v W hW (by omega) hV hvd hdm)
    have hla : (tputT ⟨ns, root⟩ k v).ns.length ≤ 1000000 := by
      by_cases h : tputE ⟨ns, root⟩ v = 0
      · obtain ⟨⟨ms, s1, s2⟩, _⟩ := tputT_spec (k := k) h
        rw [s1, List.length_append]; dsimp only; omega
      · rw [tput_no h]; simp
    have hlb : (tputT (tputT ⟨ns, root⟩ k v) j u).ns.length ≤ 1000000 := by
      by_cases h : tputE (tputT ⟨ns, root⟩ k v) u = 0
      · exact Nat.le_trans (mayT_iff.1 (tputT_spec (k := j) h).2.1).1 (by decide)
      · rw [tput_no h]; simp
    have hY := hid (fun F A c W hW hV => PTPut_any F A a4 c cap4 (tputT ⟨ns, root⟩ k v).ns (tputT ⟨ns, root⟩ k v).root j u W hW hla hV hqd hqm)
    have hZ := hid (fun F A c W hW => PTDrop_any F A c (tputT (tputT ⟨ns, root⟩ k v) j u).ns (tputT (tputT ⟨ns, root⟩ k v) j u).root k W hW hlb)
    have hKEY : (if mayT ⟨ns, root⟩ = true then (0 : Int) else 8) = 0 → tputE ⟨ns, root⟩ v = 0 → tputE (tputT ⟨ns, root⟩ k v) u = 0 → tdropE (tputT (tputT ⟨ns, root⟩ k v) j u) k = 0 ∧
        (∀ (F : Nat → Prop) (A : Option Addr) (c : Nat) (W : World), Row F W A (tdropT (tputT (tputT ⟨ns, root⟩ k v) j u) k).ns → Calls Tryd.prog 24 #[.agg #[.slice A (tdropT (tputT (tputT ⟨ns, root⟩ k v) j u) k).ns.length c, .int .i64 (tdropT (tputT (tputT ⟨ns, root⟩ k v) j u) k).root], .int .i64 root] W fun e w' => ∃ A' c', e = .returned (.tuple #[.agg #[.slice A' (tdropT (tputT (tputT ⟨ns, root⟩ k v) j u) k).ns.length c', .int .i64 root], .int .i64 0]) ∧ OwnR 50 w' W.heap.size A' c' (tdropT (tputT (tputT ⟨ns, root⟩ k v) j u) k).ns ∧ Below W.heap.size W w') ∧
        (∀ (F : Nat → Prop) (A : Option Addr) (c : Nat) (W : World), Row F W A (tdropT (tputT (tputT ⟨ns, root⟩ k v) j u) k).ns → Calls Tryd.prog 22 #[.agg #[.slice A (tdropT (tputT (tputT ⟨ns, root⟩ k v) j u) k).ns.length c, .int .i64 root]] W fun e w' => ∃ A' c', e = .returned (.tuple #[.slice A' (pairsM ⟨ns, root⟩).length c', .int .i64 0]) ∧ OwnR 26 w' W.heap.size A' c' (pairsM ⟨ns, root⟩) ∧ Below W.heap.size W w') ∧
        (∀ (F : Nat → Prop) (A : Option Addr) (c : Nat) (W : World), Row F W A (tdropT (tputT (tputT ⟨ns, root⟩ k v) j u) k).ns → Tab W → Calls Tryd.prog 27 #[.agg #[.slice A (tdropT (tputT (tputT ⟨ns, root⟩ k v) j u) k).ns.length c, .int .i64 root]] W fun e w' => e = .returned (.tuple #[.agg ((sumM ⟨ns, root⟩).1.map bv).toArray, .int .i64 0]) ∧ Below W.heap.size W w') ∧
        (∀ (F : Nat → Prop) (A : Option Addr) (c : Nat) (W : World), Row F W A (tdropT (tputT (tputT ⟨ns, root⟩ k v) j u) k).ns → Calls Tryd.prog 24 #[.agg #[.slice A (tdropT (tputT (tputT ⟨ns, root⟩ k v) j u) k).ns.length c, .int .i64 (tdropT (tputT (tputT ⟨ns, root⟩ k v) j u) k).root], .int .i64 (tputT ⟨ns, root⟩ k v).root] W fun e w' => ∃ A' c', e = .returned (.tuple #[.agg #[.slice A' (tdropT (tputT (tputT ⟨ns, root⟩ k v) j u) k).ns.length c', .int .i64 (tputT ⟨ns, root⟩ k v).root], .int .i64 0]) ∧ OwnR 50 w' W.heap.size A' c' (tdropT (tputT (tputT ⟨ns, root⟩ k v) j u) k).ns ∧ Below W.heap.size W w') ∧
        (∀ (F : Nat → Prop) (A : Option Addr) (c : Nat) (W : World), Row F W A (tdropT (tputT (tputT ⟨ns, root⟩ k v) j u) k).ns → Calls Tryd.prog 28 #[.agg #[.slice A (tdropT (tputT (tputT ⟨ns, root⟩ k v) j u) k).ns.length c, .int .i64 (tputT ⟨ns, root⟩ k v).root], .agg dk.toArray] W fun e w' => ∃ ad1 c1, e = .returned (.tuple #[.slice ad1 v.length c1, .bool true]) ∧ Own 5 w' W.heap.size ad1 c1 v ∧ Below W.heap.size W w') := fun h1 h2 h3 => by
      have hm : mayT ⟨ns, root⟩ = true := by
        by_cases h : mayT ⟨ns, root⟩ = true
        · exact h
        · rw [if_neg h] at h1; cases h1
      obtain ⟨s1, s2, ⟨s3, s4, s5, s6, s7⟩, s8, s9, s10, s11⟩ := stays (t := ⟨ns, root⟩) (a := k) (b := j) hlen hm h2 h3
      dsimp only at s3 s4 s5 s6 s7
      have eta : ∀ t : Tr, (⟨t.ns, t.root⟩ : Tr) = t := fun _ => rfl
      refine ⟨s1, fun F A c W hW => ?_, fun F A c W hW => ?_, fun F A c W hW hTW => ?_, fun F A c W hW => ?_, fun F A c W hW => ?_⟩
      · have := PTAt_any F A c _ (tdropT (tputT (tputT ⟨ns, root⟩ k v) j u) k).root root W hW s2
        rw [eta, s3, s4] at this
        exact this
      · have := PTPairs_any F A c _ root W hW s2
        rw [s6, s5, if_pos rfl] at this
        exact this
      · have := PTSum_any F A c _ root W hW s2 hTW
        rw [s7, s5, if_pos rfl] at this
        exact this
      · have := PTAt_any F A c _ (tdropT (tputT (tputT ⟨ns, root⟩ k v) j u) k).root (tputT ⟨ns, root⟩ k v).root W hW s2
        rw [eta, s8, s9] at this
        exact this
      · have := PGetT_any F A c _ (tputT ⟨ns, root⟩ k v).root k W hW s2
        rw [s10, s11, hdk.out] at this
        exact this
    rw [hdk.out] at hX hZ
    rw [hdj.out] at hY
    generalize hz1 : (if mayT ⟨ns, root⟩ = true then (0 : Int) else 8) = z1 at *
    generalize tputE ⟨ns, root⟩ v = z2 at *
    have hpl : (pairsM ⟨ns, root⟩).length ≤ 600 := by
      unfold pairsM
      split
      · rename_i hm
        have := (all_spec hm).2.2.1
        dsimp only at this
        omega
      · simp
    have hSq := fun F G A D c d W hW hV => RSameP_any F G A D c d _ _ (pairsM ⟨ns, root⟩) (pairsM ⟨ns, root⟩) W hW hV rfl rfl (by omega) (by omega)
    rw [decide_eq_true rfl] at hSq
    replace hSq := hid hSq
    have hSl := hid (fun A D c d W hW hV => Same_is A D c d v v true W hW hV (decide_eq_true rfl))
    have hE := fun W => eqd_is (sumM ⟨ns, root⟩) (sumM ⟨ns, root⟩) true (decide_eq_true rfl) W
    have hiS := hid (sizeDgT (sumM ⟨ns, root⟩))
    generalize pairsM ⟨ns, root⟩ = ps at *
    generalize sumM ⟨ns, root⟩ = sm at *
    generalize tdropE (tputT (tputT ⟨ns, root⟩ k v) j u) k = z4 at *
    generalize tdropT (tputT (tputT ⟨ns, root⟩ k v) j u) k = tc at *
    generalize tputE (tputT ⟨ns, root⟩ k v) u = z3 at *
    generalize tputT (tputT ⟨ns, root⟩ k v) j u = tb at *
    generalize tputT ⟨ns, root⟩ k v = ta at *
    obtain ⟨na, ra⟩ := ta
    obtain ⟨nb, rb⟩ := tb
    obtain ⟨nc, rc⟩ := tc
    dsimp only at hla hlb hKEY hX hY hZ
    replace hKEY := hid hKEY
    replace hz1 := hid hz1
    have f4 : ((z1 == 0) == (z1 == 0)) = true := by simp
    go_wp2_with (first
      | ((with_reducible refine wpList_load_rng rfl 44 (.tmp 5) rfl w.heap.size 0 rfl [Value.slice A0 ns.length c0, .int .i64 root] _ ?_ hut rfl hiT.out ?_); exact T2.out.all))
    refine (hP0.out _ A0 c0 _ R2.out).mono ?_
    rintro e w3 ⟨ad3, c3, rfl, ho, hb⟩
    have T3 := hid (T2.out.bel hb)
    have K3 := hid (rangeBel2 hb K2.out)
    have J3 := hid (rangeBel2 hb J2.out)
    have R3 := hid (R2.out.bel hb)
    have V3 := hid (V2.out.bel hb)
    have U3 := hid (U2.out.bel hb)
    have H3 := hid (H2.out.bel hb (Nat.lt_of_lt_of_le hlow.out W2.out.size))
    have W3 := hid (W2.out.trans (hb.mono W2.out.size))
    clear T2 K2 J2 R2 V2 U2 H2 W2
    have l3 := hid (OwnR.row ho)
    clear hb ho hP0
    go_wp2_with (first
      | ((with_reducible refine wpList_load_rng rfl 44 (.tmp 5) rfl w.heap.size 0 rfl [Value.slice A0 ns.length c0, .int .i64 root] _ ?_ hut rfl hiT.out ?_); exact T3.out.all))
    refine (hS0.out _ A0 c0 _ R3.out H3.out).mono ?_
    rintro e w4 ⟨rfl, hb⟩
    have T4 := hid (T3.out.bel hb)
    have K4 := hid (rangeBel2 hb K3.out)
    have J4 := hid (rangeBel2 hb J3.out)
    have R4 := hid (R3.out.bel hb)
    have V4 := hid (V3.out.bel hb)
    have U4 := hid (U3.out.bel hb)
    have H4 := hid (H3.out.bel hb (Nat.lt_of_lt_of_le hlow.out W3.out.size))
    have W4 := hid (W3.out.trans (hb.mono W3.out.size))
    have l4 := hid (l3.out.bel hb)
    clear T3 K3 J3 R3 V3 U3 H3 W3 l3
    clear hb hS0
    have e4 := hid (heap_alloc_new w4 (.cells z32 23))
    go_wp2_with (first
      | (with_reducible refine wpList_alloc_row rfl 23 rfl z32 info32 ?_)
      | ((with_reducible refine wpList_store_row rfl 23 (.tmp 14) (.tmp 58) rfl _ _ rfl rfl 23 z32 ?_ ?_ ?_ ?_ ?_); exact e4.out; exact sizeDgA sm; exact zDg sm; exact oneDg sm; intro w5 hgS hbS hsS; have X5 := hid (xnewP rfl hbS); have Y5 := hid (rangeOf (l := sm.1.map bv) hgS); clear hgS hbS hsS; have T5 := hid (T4.out.bel X5.out); have K5 := hid (rangeBel2 X5.out K4.out); have J5 := hid (rangeBel2 X5.out J4.out); have R5 := hid (R4.out.bel X5.out); have V5 := hid (V4.out.bel X5.out); have U5 := hid (U4.out.bel X5.out); have H5 := hid (H4.out.bel X5.out (Nat.lt_of_lt_of_le hlow.out W4.out.size)); have W5 := hid (W4.out.trans (X5.out.mono W4.out.size)); have l5 := hid (l4.out.bel X5.out); clear T4 K4 J4 R4 V4 U4 H4 W4 l4)
      | ((with_reducible refine wpList_load_rng rfl 44 (.tmp 5) rfl w.heap.size 0 rfl [Value.slice A0 ns.length c0, .int .i64 root] _ ?_ hut rfl hiT.out ?_); exact T5.out.all)
      | ((with_reducible refine wpList_load_rng rfl 23 (.tmp 6) rfl (w.heap.size + 1) 0 rfl dk _ ?_ hu rfl hi.out ?_); exact K5.out))
    refine (hX.out _ A0 c0 _ R5.out V5.out).mono ?_
    rintro e w6 ⟨ad6, c6, rfl, ho, hb⟩
    have T6 := hid (T5.out.bel hb)
    have K6 := hid (rangeBel2 hb K5.out)
    have J6 := hid (rangeBel2 hb J5.out)
    have R6 := hid (R5.out.bel hb)
    have V6 := hid (V5.out.bel hb)
    have U6 := hid (U5.out.bel hb)
    have H6 := hid (H5.out.bel hb (Nat.lt_of_lt_of_le hlow.out W5.out.size))
    have W6 := hid (W5.out.trans (hb.mono W5.out.size))
    have l6 := hid (l5.out.bel hb)
    have Y6 := hid (rangeBel2 hb Y5.out)
    clear T5 K5 J5 R5 V5 U5 H5 W5 l5 Y5
    have a6 := hid (OwnR.row ho)
    clear hb ho hX
    have e6 := hid (heap_alloc_new w6 (.cells zTrC 44))
    have hiA := hid (show (Tryd.prog.info? 44).map (·.size) = some ([Value.slice ad6 na.length c6, .int .i64 ra]).length from sizeTr)
    go_wp2_with (first
      | (with_reducible refine wpList_alloc_row rfl 44 rfl zTrC zInfoTr ?_)
      | ((with_reducible refine wpList_store_row rfl 44 (.tmp 16) (.tmp 65) rfl _ _ rfl rfl 44 zTrC ?_ ?_ ?_ ?_ ?_); exact e6.out; exact sizeTr; rfl; exact one_trP ad6 na.length c6 ra; intro w7 hgS hbS hsS; have X7 := hid (xnewP rfl hbS); have lt7 := hid (block_lt hgS); have A7 := hid (BoxT.of (rangeOf (l := [Value.slice ad6 na.length c6, .int .i64 ra]) hgS)); clear hgS hbS hsS; have T7 := hid (T6.out.bel X7.out); have K7 := hid (rangeBel2 X7.out K6.out); have J7 := hid (rangeBel2 X7.out J6.out); have R7 := hid (R6.out.bel X7.out); have V7 := hid (V6.out.bel X7.out); have U7 := hid (U6.out.bel X7.out); have H7 := hid (H6.out.bel X7.out (Nat.lt_of_lt_of_le hlow.out W6.out.size)); have W7 := hid (W6.out.trans (X7.out.mono W6.out.size)); have l7 := hid (l6.out.bel X7.out); have Y7 := hid (rangeBel2 X7.out Y6.out); have a7 := hid (a6.out.bel X7.out); clear T6 K6 J6 R6 V6 U6 H6 W6 l6 Y6 a6)
      | ((with_reducible refine wpList_load_rng rfl 44 (.tmp 16) rfl w6.heap.size 0 rfl [Value.slice ad6 na.length c6, .int .i64 ra] _ ?_ hut rfl hiA.out ?_); exact A7.out.all)
      | ((with_reducible refine wpList_load_rng rfl 23 (.tmp 8) rfl (w.heap.size + 1 + 1) 0 rfl dj _ ?_ hu rfl hj.out ?_); exact J7.out))
    refine (hY.out _ ad6 c6 _ a7.out U7.out).mono ?_
    rintro e w8 ⟨ad8, c8, rfl, ho, hb⟩
    have T8 := hid (T7.out.bel hb)
    have K8 := hid (rangeBel2 hb K7.out)
    have J8 := hid (rangeBel2 hb J7.out)
    have R8 := hid (R7.out.bel hb)
    have V8 := hid (V7.out.bel hb)
    have U8 := hid (U7.out.bel hb)
    have H8 := hid (H7.out.bel hb (Nat.lt_of_lt_of_le hlow.out W7.out.size))
    have W8 := hid (W7.out.trans (hb.mono W7.out.size))
    have l8 := hid (l7.out.bel hb)
    have Y8 := hid (rangeBel2 hb Y7.out)
    have a8 := hid (a7.out.bel hb)
    have A8 := hid (A7.out.bel hb)
    clear T7 K7 J7 R7 V7 U7 H7 W7 l7 Y7 a7 A7
    have b8 := hid (OwnR.row ho)
    clear hb ho hY
    clear a8
    have e8 := hid (heap_alloc_new w8 (.cells zTrC 44))
    have hiB := hid (show (Tryd.prog.info? 44).map (·.size) = some ([Value.slice ad8 nb.length c8, .int .i64 rb]).length from sizeTr)
    go_wp2_with (first
      | (with_reducible refine wpList_alloc_row rfl 44 rfl zTrC zInfoTr ?_)
      | ((with_reducible refine wpList_store_row rfl 44 (.tmp 18) (.tmp 72) rfl _ _ rfl rfl 44 zTrC ?_ ?_ ?_ ?_ ?_); exact e8.out; exact sizeTr; rfl; exact one_trP ad8 nb.length c8 rb; intro w9 hgS hbS hsS; have X9 := hid (xnewP rfl hbS); have lt9 := hid (block_lt hgS); have B9 := hid (BoxT.of (rangeOf (l := [Value.slice ad8 nb.length c8, .int .i64 rb]) hgS)); clear hgS hbS hsS; have T9 := hid (T8.out.bel X9.out); have K9 := hid (rangeBel2 X9.out K8.out); have J9 := hid (rangeBel2 X9.out J8.out); have R9 := hid (R8.out.bel X9.out); have V9 := hid (V8.out.bel X9.out); have U9 := hid (U8.out.bel X9.out); have H9 := hid (H8.out.bel X9.out (Nat.lt_of_lt_of_le hlow.out W8.out.size)); have W9 := hid (W8.out.trans (X9.out.mono W8.out.size)); have l9 := hid (l8.out.bel X9.out); have Y9 := hid (rangeBel2 X9.out Y8.out); have A9 := hid (A8.out.bel X9.out); have b9 := hid (b8.out.bel X9.out); clear T8 K8 J8 R8 V8 U8 H8 W8 l8 Y8 A8 b8)
      | ((with_reducible refine wpList_load_rng rfl 44 (.tmp 18) rfl w8.heap.size 0 rfl [Value.slice ad8 nb.length c8, .int .i64 rb] _ ?_ hut rfl hiB.out ?_); exact B9.out.all)
      | ((with_reducible refine wpList_load_rng rfl 23 (.tmp 6) rfl (w.heap.size + 1) 0 rfl dk _ ?_ hu rfl hi.out ?_); exact K9.out))
    refine (hZ.out _ ad8 c8 _ b9.out).mono ?_
    rintro e w10 ⟨ad10, c10, rfl, ho, hb⟩
    have T10 := hid (T9.out.bel hb)
    have K10 := hid (rangeBel2 hb K9.out)
    have J10 := hid (rangeBel2 hb J9.out)
    have R10 := hid (R9.out.bel hb)
    have V10 := hid (V9.out.bel hb)
    have U10 := hid (U9.out.bel hb)
    have H10 := hid (H9.out.bel hb (Nat.lt_of_lt_of_le hlow.out W9.out.size))
    have W10 := hid (W9.out.trans (hb.mono W9.out.size))
    have l10 := hid (l9.out.bel hb)
    have Y10 := hid (rangeBel2 hb Y9.out)
    have A10 := hid (A9.out.bel hb)
    have b10 := hid (b9.out.bel hb)
    have B10 := hid (B9.out.bel hb)
    clear T9 K9 J9 R9 V9 U9 H9 W9 l9 Y9 A9 b9 B9
    have z10 := hid (OwnR.row ho)
    clear hb ho hZ
    clear b10
    clear B10
    have e10 := hid (heap_alloc_new w10 (.cells zTrC 44))
    have hiC := hid (show (Tryd.prog.info? 44).map (·.size) = some ([Value.slice ad10 nc.length c10, .int .i64 rc]).length from sizeTr)
    by_cases h1 : z1 = 0
    rotate_left
    · have g1 : (z1 == 0) = false := beq_eq_false_iff_ne.2 h1
      clear hKEY hSq hSl hE
      go_wp2_with (first
        | (with_reducible refine wpList_alloc_row rfl 44 rfl zTrC zInfoTr ?_)
        | ((with_reducible refine wpList_store_row rfl 44 (.tmp 20) (.tmp 78) rfl _ _ rfl rfl 44 zTrC ?_ ?_ ?_ ?_ ?_); exact e10.out; exact sizeTr; rfl; exact one_trP ad10 nc.length c10 rc; intro w11 hgS hbS hsS; have X11 := hid (xnewP rfl hbS); have lt11 := hid (block_lt hgS); have C11 := hid (BoxT.of (rangeOf (l := [Value.slice ad10 nc.length c10, .int .i64 rc]) hgS)); clear hgS hbS hsS; have T11 := hid (T10.out.bel X11.out); have K11 := hid (rangeBel2 X11.out K10.out); have J11 := hid (rangeBel2 X11.out J10.out); have R11 := hid (R10.out.bel X11.out); have V11 := hid (V10.out.bel X11.out); have U11 := hid (U10.out.bel X11.out); have H11 := hid (H10.out.bel X11.out (Nat.lt_of_lt_of_le hlow.out W10.out.size)); have W11 := hid (W10.out.trans (X11.out.mono W10.out.size)); have l11 := hid (l10.out.bel X11.out); have Y11 := hid (rangeBel2 X11.out Y10.out); have A11 := hid (A10.out.bel X11.out); have z11 := hid (z10.out.bel X11.out); clear T10 K10 J10 R10 V10 U10 H10 W10 l10 Y10 A10 z10))
      go_ret
      exact ⟨rfl, W11.out⟩
    by_cases h2 : z2 = 0
    rotate_left
    · have g1 : (z2 == 0) = false := beq_eq_false_iff_ne.2 h2
      clear hKEY hSq hSl hE
      subst h1
      go_wp2_with (first
        | (with_reducible refine wpList_alloc_row rfl 44 rfl zTrC zInfoTr ?_)
        | ((with_reducible refine wpList_store_row rfl 44 (.tmp 20) (.tmp 78) rfl _ _ rfl rfl 44 zTrC ?_ ?_ ?_ ?_ ?_); exact e10.out; exact sizeTr; rfl; exact one_trP ad10 nc.length c10 rc; intro w11 hgS hbS hsS; have X11 := hid (xnewP rfl hbS); have lt11 := hid (block_lt hgS); have C11 := hid (BoxT.of (rangeOf (l := [Value.slice ad10 nc.length c10, .int .i64 rc]) hgS)); clear hgS hbS hsS; have T11 := hid (T10.out.bel X11.out); have K11 := hid (rangeBel2 X11.out K10.out); have J11 := hid (rangeBel2 X11.out J10.out); have R11 := hid (R10.out.bel X11.out); have V11 := hid (V10.out.bel X11.out); have U11 := hid (U10.out.bel X11.out); have H11 := hid (H10.out.bel X11.out (Nat.lt_of_lt_of_le hlow.out W10.out.size)); have W11 := hid (W10.out.trans (X11.out.mono W10.out.size)); have l11 := hid (l10.out.bel X11.out); have Y11 := hid (rangeBel2 X11.out Y10.out); have A11 := hid (A10.out.bel X11.out); have z11 := hid (z10.out.bel X11.out); clear T10 K10 J10 R10 V10 U10 H10 W10 l10 Y10 A10 z10))
      go_ret
      exact ⟨rfl, W11.out⟩
    by_cases h3 : z3 = 0
    rotate_left
    · have g1 : (z3 == 0) = false := beq_eq_false_iff_ne.2 h3
      clear hKEY hSq hSl hE
      subst h1 h2
      go_wp2_with (first
        | (with_reducible refine wpList_alloc_row rfl 44 rfl zTrC zInfoTr ?_)
        | ((with_reducible refine wpList_store_row rfl 44 (.tmp 20) (.tmp 78) rfl _ _ rfl rfl 44 zTrC ?_ ?_ ?_ ?_ ?_); exact e10.out; exact sizeTr; rfl; exact one_trP ad10 nc.length c10 rc; intro w11 hgS hbS hsS; have X11 := hid (xnewP rfl hbS); have lt11 := hid (block_lt hgS); have C11 := hid (BoxT.of (rangeOf (l := [Value.slice ad10 nc.length c10, .int .i64 rc]) hgS)); clear hgS hbS hsS; have T11 := hid (T10.out.bel X11.out); have K11 := hid (rangeBel2 X11.out K10.out); have J11 := hid (rangeBel2 X11.out J10.out); have R11 := hid (R10.out.bel X11.out); have V11 := hid (V10.out.bel X11.out); have U11 := hid (U10.out.bel X11.out); have H11 := hid (H10.out.bel X11.out (Nat.lt_of_lt_of_le hlow.out W10.out.size)); have W11 := hid (W10.out.trans (X11.out.mono W10.out.size)); have l11 := hid (l10.out.bel X11.out); have Y11 := hid (rangeBel2 X11.out Y10.out); have A11 := hid (A10.out.bel X11.out); have z11 := hid (z10.out.bel X11.out); clear T10 K10 J10 R10 V10 U10 H10 W10 l10 Y10 A10 z10))
      go_ret
      exact ⟨rfl, W11.out⟩
    obtain ⟨h4, hA1, hP1, hS1, hA2, hG1⟩ := hKEY.out h1 h2 h3
    subst h1 h2 h3 h4
    replace hA1 := hid hA1
    replace hP1 := hid hP1
    replace hS1 := hid hS1
    replace hA2 := hid hA2
    replace hG1 := hid hG1
    clear hKEY
    have yr := T10.out.rt
    go_wp2_with (first
      | (with_reducible refine wpList_alloc_row rfl 44 rfl zTrC zInfoTr ?_)
      | ((with_reducible refine wpList_store_row rfl 44 (.tmp 20) (.tmp 78) rfl _ _ rfl rfl 44 zTrC ?_ ?_ ?_ ?_ ?_); exact e10.out; exact sizeTr; rfl; exact one_trP ad10 nc.length c10 rc; intro w11 hgS hbS hsS; have X11 := hid (xnewP rfl hbS); have lt11 := hid (block_lt hgS); have C11 := hid (BoxT.of (rangeOf (l := [Value.slice ad10 nc.length c10, .int .i64 rc]) hgS)); clear hgS hbS hsS; have T11 := hid (T10.out.bel X11.out); have K11 := hid (rangeBel2 X11.out K10.out); have J11 := hid (rangeBel2 X11.out J10.out); have R11 := hid (R10.out.bel X11.out); have V11 := hid (V10.out.bel X11.out); have U11 := hid (U10.out.bel X11.out); have H11 := hid (H10.out.bel X11.out (Nat.lt_of_lt_of_le hlow.out W10.out.size)); have W11 := hid (W10.out.trans (X11.out.mono W10.out.size)); have l11 := hid (l10.out.bel X11.out); have Y11 := hid (rangeBel2 X11.out Y10.out); have A11 := hid (A10.out.bel X11.out); have z11 := hid (z10.out.bel X11.out); have yr11 := T11.out.rt; clear yr; clear T10 K10 J10 R10 V10 U10 H10 W10 l10 Y10 A10 z10)
      | ((with_reducible refine wpList_load_rng rfl 44 (.tmp 20) rfl w10.heap.size 0 rfl [Value.slice ad10 nc.length c10, .int .i64 rc] _ ?_ hut rfl hiC.out ?_); exact C11.out.all))
    refine (hA1.out _ ad10 c10 _ z11.out).mono ?_
    rintro e w12 ⟨ad12, c12, rfl, ho, hb⟩
    clear yr11
    have T12 := hid (T11.out.bel hb)
    have K12 := hid (rangeBel2 hb K11.out)
    have J12 := hid (rangeBel2 hb J11.out)
    have R12 := hid (R11.out.bel hb)
    have V12 := hid (V11.out.bel hb)
    have U12 := hid (U11.out.bel hb)
    have H12 := hid (H11.out.bel hb (Nat.lt_of_lt_of_le hlow.out W11.out.size))
    have W12 := hid (W11.out.trans (hb.mono W11.out.size))
    have l12 := hid (l11.out.bel hb)
    have Y12 := hid (rangeBel2 hb Y11.out)
    have A12 := hid (A11.out.bel hb)
    have z12 := hid (z11.out.bel hb)
    have C12 := hid (C11.out.bel hb)
    clear T11 K11 J11 R11 V11 U11 H11 W11 l11 Y11 A11 z11 C11
    have o12 := hid (OwnR.row ho)
    clear hb ho hA1
    have e12 := hid (heap_alloc_new w12 (.cells zTrC 44))
    have hiO := hid (show (Tryd.prog.info? 44).map (·.size) = some ([Value.slice ad12 nc.length c12, .int .i64 root]).length from sizeTr)
    go_wp2_with (first
      | (with_reducible refine wpList_alloc_row rfl 44 rfl zTrC zInfoTr ?_)
      | ((with_reducible refine wpList_store_row rfl 44 (.tmp 22) (.tmp 103) rfl _ _ rfl rfl 44 zTrC ?_ ?_ ?_ ?_ ?_); exact e12.out; exact sizeTr; rfl; exact one_trP ad12 nc.length c12 root; intro w13 hgS hbS hsS; have X13 := hid (xnewP rfl hbS); have lt13 := hid (block_lt hgS); have O13 := hid (BoxT.of (rangeOf (l := [Value.slice ad12 nc.length c12, .int .i64 root]) hgS)); clear hgS hbS hsS; have T13 := hid (T12.out.bel X13.out); have K13 := hid (rangeBel2 X13.out K12.out); have J13 := hid (rangeBel2 X13.out J12.out); have R13 := hid (R12.out.bel X13.out); have V13 := hid (V12.out.bel X13.out); have U13 := hid (U12.out.bel X13.out); have H13 := hid (H12.out.bel X13.out (Nat.lt_of_lt_of_le hlow.out W12.out.size)); have W13 := hid (W12.out.trans (X13.out.mono W12.out.size)); have l13 := hid (l12.out.bel X13.out); have Y13 := hid (rangeBel2 X13.out Y12.out); have A13 := hid (A12.out.bel X13.out); have z13 := hid (z12.out.bel X13.out); have C13 := hid (C12.out.bel X13.out); have o13 := hid (o12.out.bel X13.out); clear T12 K12 J12 R12 V12 U12 H12 W12 l12 Y12 A12 z12 C12 o12)
      | ((with_reducible refine wpList_load_rng rfl 44 (.tmp 22) rfl w12.heap.size 0 rfl [Value.slice ad12 nc.length c12, .int .i64 root] _ ?_ hut rfl hiO.out ?_); exact O13.out.all))
    refine (hP1.out _ ad12 c12 _ o13.out).mono ?_
    rintro e w14 ⟨ad14, c14, rfl, ho, hb⟩
    have T14 := hid (T13.out.bel hb)
    have K14 := hid (rangeBel2 hb K13.out)
    have J14 := hid (rangeBel2 hb J13.out)
    have R14 := hid (R13.out.bel hb)
    have V14 := hid (V13.out.bel hb)
    have U14 := hid (U13.out.bel hb)
    have H14 := hid (H13.out.bel hb (Nat.lt_of_lt_of_le hlow.out W13.out.size))
    have W14 := hid (W13.out.trans (hb.mono W13.out.size))
    have l14 := hid (l13.out.bel hb)
    have Y14 := hid (rangeBel2 hb Y13.out)
    have A14 := hid (A13.out.bel hb)
    have z14 := hid (z13.out.bel hb)
    have C14 := hid (C13.out.bel hb)
    have o14 := hid (o13.out.bel hb)
    have O14 := hid (O13.out.bel hb)
    clear T13 K13 J13 R13 V13 U13 H13 W13 l13 Y13 A13 z13 C13 o13 O13
    have m14 := hid (OwnR.row ho)
    clear hb ho hP1
    go_wp2_with (first
      | ((with_reducible refine wpList_load_rng rfl 44 (.tmp 22) rfl w12.heap.size 0 rfl [Value.slice ad12 nc.length c12, .int .i64 root] _ ?_ hut rfl hiO.out ?_); exact O14.out.all))
    refine (hS1.out _ ad12 c12 _ o14.out H14.out).mono ?_
    rintro e w15 ⟨rfl, hb⟩
    have T15 := hid (T14.out.bel hb)
    have K15 := hid (rangeBel2 hb K14.out)
    have J15 := hid (rangeBel2 hb J14.out)
    have R15 := hid (R14.out.bel hb)
    have V15 := hid (V14.out.bel hb)
    have U15 := hid (U14.out.bel hb)
    have H15 := hid (H14.out.bel hb (Nat.lt_of_lt_of_le hlow.out W14.out.size))
    have W15 := hid (W14.out.trans (hb.mono W14.out.size))
    have l15 := hid (l14.out.bel hb)
    have Y15 := hid (rangeBel2 hb Y14.out)
    have A15 := hid (A14.out.bel hb)
    have z15 := hid (z14.out.bel hb)
    have C15 := hid (C14.out.bel hb)
    have o15 := hid (o14.out.bel hb)
    have O15 := hid (O14.out.bel hb)
    have m15 := hid (m14.out.bel hb)
    clear T14 K14 J14 R14 V14 U14 H14 W14 l14 Y14 A14 z14 C14 o14 O14 m14
    clear hb hS1
    clear o15
    clear O15
    have e15 := hid (heap_alloc_new w15 (.cells z32 23))
    have yr := A15.out.rt
    go_wp2_with (first
      | (with_reducible refine wpList_alloc_row rfl 23 rfl z32 info32 ?_)
      | ((with_reducible refine wpList_store_row rfl 23 (.tmp 26) (.tmp 113) rfl _ _ rfl rfl 23 z32 ?_ ?_ ?_ ?_ ?_); exact e15.out; exact sizeDgA sm; exact zDg sm; exact oneDg sm; intro w16 hgS hbS hsS; have X16 := hid (xnewP rfl hbS); have Z16 := hid (rangeOf (l := sm.1.map bv) hgS); clear hgS hbS hsS; have T16 := hid (T15.out.bel X16.out); have K16 := hid (rangeBel2 X16.out K15.out); have J16 := hid (rangeBel2 X16.out J15.out); have R16 := hid (R15.out.bel X16.out); have V16 := hid (V15.out.bel X16.out); have U16 := hid (U15.out.bel X16.out); have H16 := hid (H15.out.bel X16.out (Nat.lt_of_lt_of_le hlow.out W15.out.size)); have W16 := hid (W15.out.trans (X16.out.mono W15.out.size)); have l16 := hid (l15.out.bel X16.out); have Y16 := hid (rangeBel2 X16.out Y15.out); have A16 := hid (A15.out.bel X16.out); have z16 := hid (z15.out.bel X16.out); have C16 := hid (C15.out.bel X16.out); have m16 := hid (m15.out.bel X16.out); have yr16 := A16.out.rt; clear yr; clear T15 K15 J15 R15 V15 U15 H15 W15 l15 Y15 A15 z15 C15 m15)
      | ((with_reducible refine wpList_load_rng rfl 44 (.tmp 20) rfl w10.heap.size 0 rfl [Value.slice ad10 nc.length c10, .int .i64 rc] _ ?_ hut rfl hiC.out ?_); exact C16.out.all))
    refine (hA2.out _ ad10 c10 _ z16.out).mono ?_
    rintro e w17 ⟨ad17, c17, rfl, ho, hb⟩
    clear yr16
    have T17 := hid (T16.out.bel hb)
    have K17 := hid (rangeBel2 hb K16.out)
    have J17 := hid (rangeBel2 hb J16.out)
    have R17 := hid (R16.out.bel hb)
    have V17 := hid (V16.out.bel hb)
    have U17 := hid (U16.out.bel hb)
    have H17 := hid (H16.out.bel hb (Nat.lt_of_lt_of_le hlow.out W16.out.size))
    have W17 := hid (W16.out.trans (hb.mono W16.out.size))
    have l17 := hid (l16.out.bel hb)
    have Y17 := hid (rangeBel2 hb Y16.out)
    have A17 := hid (A16.out.bel hb)
    have z17 := hid (z16.out.bel hb)
    have C17 := hid (C16.out.bel hb)
    have m17 := hid (m16.out.bel hb)
    have Z17 := hid (rangeBel2 hb Z16.out)
    clear T16 K16 J16 R16 V16 U16 H16 W16 l16 Y16 A16 z16 C16 m16 Z16
    have f17 := hid (OwnR.row ho)
    clear hb ho hA2
    clear z17
    clear C17
    clear A17
    have e17 := hid (heap_alloc_new w17 (.cells zTrC 44))
    have hiF := hid (show (Tryd.prog.info? 44).map (·.size) = some ([Value.slice ad17 nc.length c17, .int .i64 ra]).length from sizeTr)
    go_wp2_with (first
      | (with_reducible refine wpList_alloc_row rfl 44 rfl zTrC zInfoTr ?_)
      | ((with_reducible refine wpList_store_row rfl 44 (.tmp 28) (.tmp 120) rfl _ _ rfl rfl 44 zTrC ?_ ?_ ?_ ?_ ?_); exact e17.out; exact sizeTr; rfl; exact one_trP ad17 nc.length c17 ra; intro w18 hgS hbS hsS; have X18 := hid (xnewP rfl hbS); have lt18 := hid (block_lt hgS); have F18 := hid (BoxT.of (rangeOf (l := [Value.slice ad17 nc.length c17, .int .i64 ra]) hgS)); clear hgS hbS hsS; have T18 := hid (T17.out.bel X18.out); have K18 := hid (rangeBel2 X18.out K17.out); have J18 := hid (rangeBel2 X18.out J17.out); have R18 := hid (R17.out.bel X18.out); have V18 := hid (V17.out.bel X18.out); have U18 := hid (U17.out.bel X18.out); have H18 := hid (H17.out.bel X18.out (Nat.lt_of_lt_of_le hlow.out W17.out.size)); have W18 := hid (W17.out.trans (X18.out.mono W17.out.size)); have l18 := hid (l17.out.bel X18.out); have Y18 := hid (rangeBel2 X18.out Y17.out); have m18 := hid (m17.out.bel X18.out); have Z18 := hid (rangeBel2 X18.out Z17.out); have f18 := hid (f17.out.bel X18.out); clear T17 K17 J17 R17 V17 U17 H17 W17 l17 Y17 m17 Z17 f17)
      | ((with_reducible refine wpList_load_rng rfl 44 (.tmp 28) rfl w17.heap.size 0 rfl [Value.slice ad17 nc.length c17, .int .i64 ra] _ ?_ hut rfl hiF.out ?_); exact F18.out.all)
      | ((with_reducible refine wpList_load_rng rfl 23 (.tmp 6) rfl (w.heap.size + 1) 0 rfl dk _ ?_ hu rfl hi.out ?_); exact K18.out))
    refine (hG1.out _ ad17 c17 _ f18.out).mono ?_
    rintro e w19 ⟨ad19, c19, rfl, ho, hb⟩
    have T19 := hid (T18.out.bel hb)
    have K19 := hid (rangeBel2 hb K18.out)
    have J19 := hid (rangeBel2 hb J18.out)
    have R19 := hid (R18.out.bel hb)
    have V19 := hid (V18.out.bel hb)
    have U19 := hid (U18.out.bel hb)
    have H19 := hid (H18.out.bel hb (Nat.lt_of_lt_of_le hlow.out W18.out.size))
    have W19 := hid (W18.out.trans (hb.mono W18.out.size))
    have l19 := hid (l18.out.bel hb)
    have Y19 := hid (rangeBel2 hb Y18.out)
    have m19 := hid (m18.out.bel hb)
    have Z19 := hid (rangeBel2 hb Z18.out)
    have f19 := hid (f18.out.bel hb)
    have F19 := hid (F18.out.bel hb)
    clear T18 K18 J18 R18 V18 U18 H18 W18 l18 Y18 m18 Z18 f18 F18
    have x19 := hid ho.rd
    clear hb ho hG1
    go_wp2_with fail
    refine (hSq.out _ _ ad14 ad3 c14 c3 _ m19.out l19.out).mono ?_
    rintro e w20 ⟨rfl, hb⟩
    have T20 := hid (T19.out.bel hb)
    have K20 := hid (rangeBel2 hb K19.out)
    have J20 := hid (rangeBel2 hb J19.out)
    have R20 := hid (R19.out.bel hb)
    have V20 := hid (V19.out.bel hb)
    have U20 := hid (U19.out.bel hb)
    have H20 := hid (H19.out.bel hb (Nat.lt_of_lt_of_le hlow.out W19.out.size))
    have W20 := hid (W19.out.trans (hb.mono W19.out.size))
    have l20 := hid (l19.out.bel hb)
    have Y20 := hid (rangeBel2 hb Y19.out)
    have m20 := hid (m19.out.bel hb)
    have Z20 := hid (rangeBel2 hb Z19.out)
    have f20 := hid (f19.out.bel hb)
    have F20 := hid (F19.out.bel hb)
    have x20 := hid (x19.out.bel hb)
    clear T19 K19 J19 R19 V19 U19 H19 W19 l19 Y19 m19 Z19 f19 F19 x19
    clear hb hSq
    go_wp2_with (first
      | ((with_reducible refine wpList_load_rng ?_ 23 (.tmp 26) rfl w15.heap.size 0 rfl (sm.1.map bv) _ ?_ hu rfl hiS.out ?_); rfl; exact Z20.out)
      | ((with_reducible refine wpList_load_rng ?_ 23 (.tmp 14) rfl w4.heap.size 0 rfl (sm.1.map bv) _ ?_ hu rfl hiS.out ?_); rfl; exact Y20.out))
    refine (hSl.out ad19 a2 c19 cap2 _ x20.out V20.out).mono ?_
    rintro e wq ⟨rfl, rfl⟩
    go_wp2
    go_ret
    exact ⟨rfl, W20.out⟩

/-! ### WHAT THE WALK GIVES, FOR EVERY ARGUMENT AND EVERY WORLD THAT HOLDS THE TABLE -/
set_option maxRecDepth 100000 in
theorem contract (H : Type) (enc : TypeId × Value → H) (W : World) (base : Nat) (args : Array Value) (ds gs : List (DataW H)) (before : List MemPlace)
    (hval0 : ∀ (j : Nat) t v, Tryd.f5.params[j]? = some t → args[j]? = some v → Value.okWide Tryd.prog W .any base t v)
    (hW : DataW.Whole enc Tryd.prog Tryd.f5.params.toList Rows.treeStaysSpec.vars false W args.toList ds gs before) (hL : laidMetH Tryd.prog Rows.treeStaysRow.laid W) :
    Calls Tryd.prog 5 args W fun e W' => ∃ v, e = .returned v ∧ Rows.treeStaysSpec.post enc Tryd.prog Tryd.f5 false true false false W args v W' := by
  have hval : ∀ (j : Nat) t v, Tryd.f5.params[j]? = some t → args[j]? = some v → Value.okWide Tryd.prog W .any base t v := hval0
  have hW' := hW
  obtain ⟨p, q, hA0, hV, rfl, hfz, hnd⟩ := hW
  have hA : DataW.TrodAll enc Tryd.prog W 0 (fun _ => true) true Tryd.f5.params.toList args.toList ds p := hA0
  rw [Tryd.params5] at hA hval
  obtain ⟨v0, vs0, d0, ds0, p0, q0, hargs, rfl, rfl, h0, r0⟩ := trodAll_cons hA
  obtain ⟨v1, vs1, d1, ds1, p1, q1, rfl, rfl, rfl, h1, r1⟩ := trodAll_cons r0
  obtain ⟨v2, vs2, d2, ds2, p2, q2, rfl, rfl, rfl, h2, r2⟩ := trodAll_cons r1
  obtain ⟨v3, vs3, d3, ds3, p3, q3, rfl, rfl, rfl, h3, r3⟩ := trodAll_cons r2
  obtain ⟨v4, vs4, d4, ds4, p4, q4, rfl, rfl, rfl, h4, r4⟩ := trodAll_cons r3
  obtain ⟨rfl, rfl, rfl⟩ := trodAll_nil r4
  obtain rfl : args = #[v0, v1, v2, v3, v4] := by cases args; simp_all
  obtain ⟨rfl, rfl⟩ := trodVars_none hV
  have k0 := h0
  have lt0 : ∀ x ∈ p0, x.block < W.heap.size := by obtain ⟨m, hm⟩ := k0; exact DataW.trod_lt m _ _ _ hm
  obtain ⟨x0, vs0, rfl, w0⟩ := open_struct opensTr Tryd.underlying44 (hval 0 44 v0 rfl rfl) h0
  have k1 := h1
  have lt1 : ∀ x ∈ p1, x.block < W.heap.size := by obtain ⟨m, hm⟩ := k1; exact DataW.trod_lt m _ _ _ hm
  obtain ⟨l1, w1, rfl⟩ := open_dig Tryd.underlying23 Tryd.underlying5 cellsByte cellsDig (hval 1 23 v1 rfl rfl) h1
  obtain ⟨a2, len2, cap2, rfl⟩ := okWide_slice Tryd.underlying24 (hval 2 24 v2 rfl rfl)
  have k2 := h2
  have lt2 : ∀ x ∈ p2, x.block < W.heap.size := by obtain ⟨m, hm⟩ := k2; exact DataW.trod_lt m _ _ _ hm
  obtain ⟨z2, w2⟩ : ∃ zs, IsRow .u8 W a2 len2 cap2 zs := by
    obtain ⟨fuel, hf⟩ := h2
    rcases open_ints Tryd.underlying24 Tryd.underlying5 (by kernel_rfl) hf with ⟨hcs, _⟩ | ⟨x, l, c, zs, hcs, _, hl, hm, hz, _, hcell, hwz⟩
    · simp [Value.cells] at hcs
      obtain ⟨rfl, rfl, rfl⟩ := hcs
      exact ⟨[], .inl ⟨rfl, rfl, rfl, rfl⟩⟩
    · simp [Value.cells] at hcs
      obtain ⟨rfl, rfl, rfl⟩ := hcs
      exact ⟨zs, .inr ⟨_, rfl, hl, hm, by simpa using hz, hcell, hwz⟩⟩
  have k3 := h3
  have lt3 : ∀ x ∈ p3, x.block < W.heap.size := by obtain ⟨m, hm⟩ := k3; exact DataW.trod_lt m _ _ _ hm
  obtain ⟨l3, w3, rfl⟩ := open_dig Tryd.underlying23 Tryd.underlying5 cellsByte cellsDig (hval 3 23 v3 rfl rfl) h3
  obtain ⟨a4, len4, cap4, rfl⟩ := okWide_slice Tryd.underlying24 (hval 4 24 v4 rfl rfl)
  have k4 := h4
  have lt4 : ∀ x ∈ p4, x.block < W.heap.size := by obtain ⟨m, hm⟩ := k4; exact DataW.trod_lt m _ _ _ hm
  obtain ⟨z4, w4⟩ : ∃ zs, IsRow .u8 W a4 len4 cap4 zs := by
    obtain ⟨fuel, hf⟩ := h4
    rcases open_ints Tryd.underlying24 Tryd.underlying5 (by kernel_rfl) hf with ⟨hcs, _⟩ | ⟨x, l, c, zs, hcs, _, hl, hm, hz, _, hcell, hwz⟩
    · simp [Value.cells] at hcs
      obtain ⟨rfl, rfl, rfl⟩ := hcs
      exact ⟨[], .inl ⟨rfl, rfl, rfl, rfl⟩⟩
    · simp [Value.cells] at hcs
      obtain ⟨rfl, rfl, rfl⟩ := hcs
      exact ⟨zs, .inr ⟨_, rfl, hl, hm, by simpa using hz, hcell, hwz⟩⟩
  clear hA0 hval0
  refine (walk x0 vs0 l1 a2 len2 cap2 z2 l3 a4 len4 cap4 z4 W w0 w1 w2 w3 w4 (tab_of hL)).mono fun e W' ⟨he, bel⟩ => ?_
  subst he
  exact ⟨_, rfl, _, _, _, [], _, [], hW', trodAll_mk1 (shut_bool Tryd.underlying4 _), (trodAll_cons_mk (Below.trod laidOut (by kernel_rfl) (of_decide_eq_true (by kernel_rfl)) k0 bel lt0) (trodAll_cons_mk (Below.trod laidOut (by kernel_rfl) (of_decide_eq_true (by kernel_rfl)) k1 bel lt1) (trodAll_cons_mk (Below.trod laidOut (by kernel_rfl) (of_decide_eq_true (by kernel_rfl)) k2 bel lt2) (trodAll_cons_mk (Below.trod laidOut (by kernel_rfl) (of_decide_eq_true (by kernel_rfl)) k3 bel lt3) (trodAll_cons_mk (Below.trod laidOut (by kernel_rfl) (of_decide_eq_true (by kernel_rfl)) k4 bel lt4) trodAll_mk0))))), rfl, bel.frame _, fun h => by cases h⟩

theorem laid_met (os : Os) : laidMet Tryd.prog Rows.treeStaysRow.laid ((laidWorld os).forCall (fun _ _ => 0) ⟨#[], #[.agg zTrC, .agg z32, .slice none 0 0, .agg z32, .slice none 0 0], []⟩).memory :=
  laidMet_of_run' 8 (by kernel_rfl) (by kernel_rfl)
theorem reads (os : Os) {H : Type} (enc : TypeId × Value → H) : ∃ places, DataW.whole enc Tryd.prog ((laidWorld os).forCall (fun _ _ => 0) ⟨#[], #[.agg zTrC, .agg z32, .slice none 0 0, .agg z32, .slice none 0 0], []⟩).memory Tryd.f5.params.toList Rows.treeStaysSpec.vars false (#[.agg zTrC, .agg z32, .slice none 0 0, .agg z32, .slice none 0 0] : Array Value).toList 8 = some ([.agg [.nil, .lit (.int .i64 0)], .agg (List.replicate 32 (.lit (.int .u8 0))), .nil, .agg (List.replicate 32 (.lit (.int .u8 0))), .nil], [], places) :=
  ⟨[], by kernel_rfl⟩
set_option maxRecDepth 100000 in
theorem lifted (os : Os) (started : os.Started) (H : Type) (enc : TypeId × Value → H) (F : Stop.Interp) :
    ReturnsInHanded {} Tryd.checked os 5 .any ((OpenSpec.ofChange Rows.treeStaysSpec).preRow enc Tryd.prog Tryd.f5 Rows.treeStaysRow.domain false Rows.treeStaysRow.laid) (((OpenSpec.ofChange Rows.treeStaysSpec).at F).post enc Tryd.prog Tryd.f5 false true false false) := by
  obtain ⟨places, hx⟩ := reads os enc
  refine returnsInHanded_of_row (C := Tryd.checked) (s := OpenSpec.ofChange Rows.treeStaysSpec) own started (by kernel_rfl) Tryd.func5
    (witness_row_at (enc := enc) (C := Tryd.checked) false (laidWorld os) #[.agg zTrC, .agg z32, .slice none 0 0, .agg z32, .slice none 0 0] rfl (by kernel_rfl) (by kernel_rfl) (by kernel_rfl)
      (OpenSpec.preRow_of_cond 8 hx (by kernel_rfl) (fun k hk => by cases hk) (by kernel_rfl) (laid_met os))) ?_
  intro W base args ds gs before hval hW _ _ _ hL _ _
  exact contract H enc W base args ds gs before hval hW hL
theorem said : Rows.TreeStaysSaid :=
  OpenClaim.holds_of_cond 5 Tryd.f5 rfl rfl rfl rfl rfl rfl rfl ⟨rfl, rfl, rfl, rfl, rfl⟩ rfl rfl rfl rfl rfl (by kernel_rfl) Tryd.func5 (by kernel_rfl)
    (of_decide_eq_true (by kernel_rfl)) (by unfold Func.isWrapper; first | (rw [if_pos (by decide +kernel)]; kernel_rfl) | (rw [if_neg (by decide +kernel)]; exact ⟨rfl, rfl⟩))
    (fun os started H enc _ F => by rw [OpenClaim.pre_eq_preRow]; exact lifted os started H enc F)
set_option maxRecDepth 100000 in
/-- No parameter wants a stand-in; the program's own looks are off: what the card asks. -/
theorem plain (f : FuncId) (fn : Func) (hf : Tryd.pinned.checked.prog.funcNamed "beadroll/beadrolllaw06.TreeStays" = some f) (hfn : Tryd.pinned.checked.prog.funcs[f]? = some fn) :
    false = Tryd.pinned.checked.prog.looks [] ∧ ∀ (j : Nat) t, fn.params[j]? = some t → Tryd.pinned.checked.prog.wantsStandIn t = false := by
  obtain rfl : f = 5 := Option.some.inj ((show Tryd.prog.funcNamed "beadroll/beadrolllaw06.TreeStays" = some 5 by kernel_rfl).symm.trans hf) |>.symm
  obtain rfl : fn = Tryd.f5 := (Option.some.inj (Tryd.func5.symm.trans hfn)).symm
  refine ⟨by kernel_rfl, fun j t ht => ?_⟩
  rw [Tryd.params5] at ht
  have hm := Array.mem_of_getElem? ht
  simp only [List.mem_toArray, List.mem_cons, List.not_mem_nil, or_false] at hm
  rcases hm with rfl | rfl | rfl | rfl | rfl
  all_goals first | exact (show Tryd.prog.wantsStandIn 44 = false by kernel_rfl) | exact (show Tryd.prog.wantsStandIn 23 = false by kernel_rfl) | exact (show Tryd.prog.wantsStandIn 24 = false by kernel_rfl)
set_option maxRecDepth 100000 in
/-- ████ THE CARD ████ -/
theorem proved : Rows.TreeStaysCardSaid :=
  Claim7.holds_tied_plain_at .later [] _ _ _ _ said (fun _ h => by cases h) (by kernel_rfl) (fun _ h => by cases h) treeStays_row_tie rfl ⟨rfl, rfl⟩ (by kernel_rfl) rfl plain (by kernel_rfl)
#print axioms proved
end Go.Proofs.YtfjkcdccnbggnaaDoor.treeStays
