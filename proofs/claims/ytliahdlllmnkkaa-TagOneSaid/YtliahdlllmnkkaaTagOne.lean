/-
  Whatever the two kinds and lists of parts, the Go function TagOne returns true and its arguments read as before: what is digested tells its kind and its parts, and so unlike ones are unlike texts.
  Conditions: none. The frame around the walk was written by program (proof-skeleton.mjs).
-/
import Derived.Test.YtliahdlllmnkkaaRows
import Derived.WalkKit
import Derived.ProofKit
import Derived.OpenShut
import Derived.ShutString
import Derived.ChangeOld
import Derived.Below
import Derived.Test.YtliahdlllmnkkaaAlive03
import Derived.Test.YtliahdlllmnkkaaRef03a
import Derived.Test.YtliahdlllmnkkaaOwnL
import Derived.Test.YtliahdlllmnkkaaTagP
import Derived.Test.YtliahdlllmnkkaaLists
namespace Go.Proofs.Ytliahdlllmnkkaa.tagOne
open Go.ChangeShapes Go.WideShapes Go.ChangeAt Go.RowKit
open Go.ChangeMaps (open_string shut_string)
set_option linter.unusedVariables false

theorem own : ownKnob Try.prog.godebug = none := by kernel_rfl
theorem laidOut : laidOutB Try.prog = true := by kernel_rfl

/-- WHAT THE WALK IS TOLD OF A SLICE OF INTEGERS THAT CAME IN: it is nil; or it leads to a row of 'cap' cells, the numbers 'zs' (the first 'len' are its elements, the rest its spare room), each fitting its kind. -/
def IsRow (k : IntKind) (w : World) (a : Option Addr) (len cap : Nat) (zs : List Int) : Prop :=
  (a = none ∧ len = 0 ∧ cap = 0 ∧ zs = []) ∨
  ∃ x, a = some x ∧ len ≤ cap ∧ cap ≤ maxLen ∧ zs.length = cap ∧ (∀ i, i < zs.length → w.cell? (x.add i) = some (.int k (zs.getD i 0))) ∧ ∀ n ∈ zs, (Lit.int k n).wf = true

/-! ### the walk -/
open Go.Proofs.Ytliahdlllmnkkaa
theorem u8_wf {a : Int} (h : (Lit.int .u8 a).wf = true) : ∃ k : UInt8, a = (k.toNat : Int) := by
  simp [Lit.wf, IntKind.min, IntKind.max, IntKind.signed, IntKind.bits] at h
  refine ⟨UInt8.ofNat a.toNat, ?_⟩
  rw [UInt8.toNat_ofNat']
  omega
set_option maxHeartbeats 1000000 in
theorem walk (a0 : Int) (a1 : Option Addr) (len1 cap1 : Nat) (ls1 : List (List UInt8)) (a2 : Int) (a3 : Option Addr) (len3 cap3 : Nat) (ls3 : List (List UInt8)) (w : World) (w0 : (Lit.int .u8 a0).wf = true) (w1 : len1 = ls1.length ∧ Rds w a1 ls1 ∧ ls1.length ≤ cap1 ∧ cap1 ≤ maxLen) (w2 : (Lit.int .u8 a2).wf = true) (w3 : len3 = ls3.length ∧ Rds w a3 ls3 ∧ ls3.length ≤ cap3 ∧ cap3 ≤ maxLen) :
    Calls Try.prog 4 #[.int .u8 a0, .slice a1 len1 cap1, .int .u8 a2, .slice a3 len3 cap3] w fun e w' => e = .returned (.bool true) ∧ Below w.heap.size w w' := by
  obtain ⟨rfl, r1, m1, x1⟩ := w1
  obtain ⟨rfl, r3, m3, x3⟩ := w3
  unfold maxLen at x1 x3
  obtain ⟨ka, rfl⟩ := u8_wf w0
  obtain ⟨kb, rfl⟩ := u8_wf w2
  have g1 : great ls1 = true ∨ great ls1 = false := by cases great ls1 <;> simp
  have g3 : great ls3 = true ∨ great ls3 = false := by cases great ls3 <;> simp
  have R1 := hid r1
  have R3 := hid r3
  clear r1 r3 w0 w2
  go_enter Try.func4, Try.ntmps4
  go_wp2_with fail
  refine (alive3_any _).mono ?_
  rintro e w4 ⟨rfl, W4⟩
  go_wp2_with fail
  refine (Great_any _ _ _ ls1 _ (R1.out.bel W4) rfl (by omega)).mono ?_
  rintro e w5 ⟨rfl, rfl⟩
  rcases g1 with g1 | g1
  · rw [g1]
    go_wp2_with fail
    go_ret
    exact ⟨rfl, by (repeat (first | exact Below.refl _ _ | assumption | refine ext_trans ?_ (by assumption) | refine ext_trans ?_ (ext_alloc _ _)))⟩
  rw [g1]
  go_wp2_with fail
  refine (Great_any _ _ _ ls3 _ (R3.out.bel W4) rfl (by omega)).mono ?_
  rintro e w5 ⟨rfl, rfl⟩
  rcases g3 with g3 | g3
  · rw [g3]
    go_wp2_with fail
    go_ret
    exact ⟨rfl, by (repeat (first | exact Below.refl _ _ | assumption | refine ext_trans ?_ (by assumption) | refine ext_trans ?_ (ext_alloc _ _)))⟩
  rw [g3]
  obtain ⟨q1, q2⟩ := great_no g1
  obtain ⟨q3, q4⟩ := great_no g3
  obtain ⟨t, ht⟩ : ∃ t, t = tagB ka ls1 := ⟨_, rfl⟩
  obtain ⟨s, hs⟩ : ∃ s, s = tagB kb ls3 := ⟨_, rfl⟩
  have lt : t.length ≤ 2433 := by
    have := tagB_le ka ls1 300 (fun l hl => by obtain ⟨j, hj⟩ := List.mem_iff_getElem?.1 hl; exact q2 j l hj)
    rw [ht]; omega
  have ls : s.length ≤ 2433 := by
    have := tagB_le kb ls3 300 (fun l hl => by obtain ⟨j, hj⟩ := List.mem_iff_getElem?.1 hl; exact q4 j l hj)
    rw [hs]; omega
  obtain ⟨k1, k2, k3⟩ := tag_back ka ls1 (fun l hl => by obtain ⟨j, hj⟩ := List.mem_iff_getElem?.1 hl; have := q2 j l hj; omega)
  obtain ⟨n1, n2, n3⟩ := tag_back kb ls3 (fun l hl => by obtain ⟨j, hj⟩ := List.mem_iff_getElem?.1 hl; have := q4 j l hj; omega)
  rw [← ht] at k1 k2 k3
  rw [← hs] at n1 n2 n3
  have hst : Hid (decide (t = s) = (decide (ka = kb) && decide (ls1 = ls3))) := by
    show _ = _
    rw [Bool.eq_iff_iff, decide_eq_true_iff, Bool.and_eq_true, decide_eq_true_iff, decide_eq_true_iff]
    constructor
    · intro h
      rw [← k2, ← k3, ← n2, ← n3, h]
      exact ⟨rfl, rfl⟩
    · rintro ⟨rfl, rfl⟩
      rw [ht, hs]
  replace q2 := trivial
  replace q4 := trivial
  replace n1 := trivial
  replace n2 := trivial
  replace n3 := trivial
  replace k1 := hid k1
  replace k2 := hid k2
  replace k3 := hid k3
  replace ht := hid ht
  replace hs := hid hs
  replace lt := hid lt
  replace ls := hid ls
  go_wp2_with fail
  refine (TBytes_any ka _ _ _ ls1 _ (R1.out.bel W4) rfl (by omega) (by have := lt.out; rw [← ht.out]; omega)).mono ?_
  rintro e w6 ⟨A6, c6, rfl, O6, B6⟩
  rw [← ht.out] at O6 ⊢
  have E6 := ext_trans W4 B6
  replace R1 := hid (R1.out.bel W4)
  replace R3 := hid (R3.out.bel W4)
  replace R1 := hid (R1.out.bel B6)
  have R3' := hid (R3.out.bel B6)
  replace R3 := R3'
  clear R3'
  have b6 := hid O6.rd
  have q6 := O6.cap
  unfold maxLen at q6
  clear O6 B6
  replace W4 := trivial
  go_wp2_with fail
  refine (TBytes_any kb _ _ _ ls3 _ R3.out rfl (by omega) (by have := ls.out; rw [← hs.out]; omega)).mono ?_
  rintro e w7 ⟨A7, c7, rfl, O7, B7⟩
  rw [← hs.out] at O7 ⊢
  have E7 := ext_trans E6 B7
  replace R1 := hid (R1.out.bel B7)
  replace R3 := hid (R3.out.bel B7)
  replace b6 := hid (b6.out.bel B7)
  have b7 := hid O7.rd
  clear O7 B7
  replace E6 := trivial
  go_wp2_with fail
  refine (TParts_any A6 c6 _ t _ b6.out rfl (by have := lt.out; omega) q6.1 (by omega)).mono ?_
  rintro e w8 ⟨A8, c8, rfl, O8, B8⟩
  rw [k1.out, k2.out, k3.out] at *
  have E8 := ext_trans E7 B8
  replace R1 := hid (R1.out.bel B8)
  replace R3 := hid (R3.out.bel B8)
  replace b6 := hid (b6.out.bel B8)
  replace b7 := hid (b7.out.bel B8)
  have l8 := hid O8.rds
  have q8 := O8.cap.2
  unfold maxLen at q8
  clear O8 B8
  replace E7 := trivial
  have hkk : ((ka.toNat : Int) == (ka.toNat : Int)) = true := by simp
  have hk : ((ka.toNat : Int) == (kb.toNat : Int)) = decide (ka = kb) := by
    rw [Bool.eq_iff_iff, beq_iff_eq, decide_eq_true_iff]
    constructor
    · intro h; exact UInt8.toNat_inj.1 (by omega)
    · rintro rfl; rfl
  have fin : ∀ x : Bool, (x == x) = true := by intro x; cases x <;> rfl
  rcases Decidable.em (ka = kb) with hab | hab
  · rw [decide_eq_true hab] at hk
    rw [decide_eq_true hab, Bool.true_and] at hst
    replace hab := hid hab
    go_wp2_with fail
    refine (SameL_any _ _ _ _ _ _ ls1 ls3 _ R1.out R3.out rfl rfl (by omega) (by omega)).mono ?_
    rintro e w9 ⟨rfl, B9⟩
    have E9 := ext_trans E8 B9
    have i1 := hid (R1.out.bel B9)
    have i2 := hid (l8.out.bel B9)
    have i3 := hid (b6.out.bel B9)
    have i4 := hid (b7.out.bel B9)
    replace E8 := trivial
    clear R1 R3 b6 b7 l8 B9
    obtain ⟨d, hd⟩ : ∃ d, d = decide (ls1 = ls3) := ⟨_, rfl⟩
    rw [← hd] at hst ⊢
    replace hd := hid hd
    have dd := Bool.eq_false_or_eq_true d
    rcases dd with rfl | rfl
    all_goals
      as_aux_lemma =>
        go_wp2_with fail
        refine (SameL_any _ _ _ _ _ _ ls1 ls1 _ i2.out i1.out rfl rfl (by omega) (by omega)).mono ?_
        rintro e w10 ⟨rfl, B10⟩
        rw [decide_eq_true rfl]
        have E10 := ext_trans E9 B10
        replace i3 := hid (i3.out.bel B10)
        replace i4 := hid (i4.out.bel B10)
        replace E9 := trivial
        clear i1 i2 B10
        go_wp2_with fail
        refine (Same_q _ _ _ _ _ _ t s _ i3.out i4.out rfl rfl).mono ?_
        rintro e w11 ⟨rfl, rfl⟩
        rw [hst.out]
        go_wp2_with fail
        go_ret
        exact ⟨rfl, by (repeat (first | exact Below.refl _ _ | assumption | refine ext_trans ?_ (by assumption) | refine ext_trans ?_ (ext_alloc _ _)))⟩
  · rw [decide_eq_false hab] at hk
    rw [decide_eq_false hab, Bool.false_and] at hst
    replace hab := hid hab
    go_wp2_with fail
    refine (SameL_any _ _ _ _ _ _ ls1 ls1 _ l8.out R1.out rfl rfl (by omega) (by omega)).mono ?_
    rintro e w10 ⟨rfl, B10⟩
    rw [decide_eq_true rfl]
    have E10 := ext_trans E8 B10
    have i3 := hid (b6.out.bel B10)
    have i4 := hid (b7.out.bel B10)
    replace E8 := trivial
    clear R1 R3 b6 b7 l8 B10
    go_wp2_with fail
    refine (Same_q _ _ _ _ _ _ t s _ i3.out i4.out rfl rfl).mono ?_
    rintro e w11 ⟨rfl, rfl⟩
    rw [hst.out]
    go_wp2_with fail
    go_ret
    exact ⟨rfl, by (repeat (first | exact Below.refl _ _ | assumption | refine ext_trans ?_ (by assumption) | refine ext_trans ?_ (ext_alloc _ _)))⟩

/-! ### THE ROW's STEP: WRITTEN OUT: LEAVE IT -/
set_option maxRecDepth 100000 in
theorem lifted (os : Os) (started : os.Started) (H : Type) (enc : TypeId × Value → H) :
    ReturnsInHanded {} Try.checked os 4 .any (Rows.tagOneSpec.pre6 enc Try.prog Try.f4 Rows.tagOneRow.domain false) (Rows.tagOneSpec.post enc Try.prog Try.f4 false true false false) := by
  refine returnsInHanded_of_change (C := Try.checked) own started (by kernel_rfl) Try.func4
    (ChangeSpec.witness6 (enc := enc) (C := Try.checked) false ⟨#[], #[.int .u8 0, .slice none 0 0, .int .u8 0, .slice none 0 0], []⟩ 8 (by kernel_rfl) (by kernel_rfl) (by kernel_rfl) (by kernel_rfl)) ?_
  intro W base args ds gs before hval0 hW hcnd _
  have hval : ∀ (j : Nat) t v, Try.f4.params[j]? = some t → args[j]? = some v → Value.okWide Try.prog W .any base t v := hval0
  have hW' := hW
  obtain ⟨p, q, hA0, hV, rfl, hfz, hnd⟩ := hW
  have hA : DataW.TrodAll enc Try.prog W 0 (fun _ => true) true Try.f4.params.toList args.toList ds p := hA0
  rw [Try.params4] at hA hval
  obtain ⟨v0, vs0, d0, ds0, p0, q0, hargs, rfl, rfl, h0, r0⟩ := trodAll_cons hA
  obtain ⟨v1, vs1, d1, ds1, p1, q1, rfl, rfl, rfl, h1, r1⟩ := trodAll_cons r0
  obtain ⟨v2, vs2, d2, ds2, p2, q2, rfl, rfl, rfl, h2, r2⟩ := trodAll_cons r1
  obtain ⟨v3, vs3, d3, ds3, p3, q3, rfl, rfl, rfl, h3, r3⟩ := trodAll_cons r2
  obtain ⟨rfl, rfl, rfl⟩ := trodAll_nil r3
  obtain rfl : args = #[v0, v1, v2, v3] := by cases args; simp_all
  obtain ⟨rfl, rfl⟩ := trodVars_none hV
  obtain ⟨a0, rfl, rfl, rfl, w0⟩ := open_int Try.underlying5 (hval 0 5 v0 rfl rfl) h0
  obtain ⟨a1, len1, cap1, rfl⟩ := okWide_slice Try.underlying24 (hval 1 24 v1 rfl rfl)
  have k1 := h1
  have lt1 : ∀ x ∈ p1, x.block < W.heap.size := by obtain ⟨m, hm⟩ := k1; exact DataW.trod_lt m _ _ _ hm
  obtain ⟨ls1, w1⟩ : ∃ ls : List (List UInt8), len1 = ls.length ∧ Rds W a1 ls ∧ ls.length ≤ cap1 ∧ cap1 ≤ maxLen := by
    obtain ⟨fuel, hf⟩ := h1
    exact open_rows Try.underlying24 Try.underlying22 Try.underlying5 (by kernel_rfl) (by kernel_rfl) hf
  obtain ⟨a2, rfl, rfl, rfl, w2⟩ := open_int Try.underlying5 (hval 2 5 v2 rfl rfl) h2
  obtain ⟨a3, len3, cap3, rfl⟩ := okWide_slice Try.underlying24 (hval 3 24 v3 rfl rfl)
  have k3 := h3
  have lt3 : ∀ x ∈ p3, x.block < W.heap.size := by obtain ⟨m, hm⟩ := k3; exact DataW.trod_lt m _ _ _ hm
  obtain ⟨ls3, w3⟩ : ∃ ls : List (List UInt8), len3 = ls.length ∧ Rds W a3 ls ∧ ls.length ≤ cap3 ∧ cap3 ≤ maxLen := by
    obtain ⟨fuel, hf⟩ := h3
    exact open_rows Try.underlying24 Try.underlying22 Try.underlying5 (by kernel_rfl) (by kernel_rfl) hf
  clear hA0 hval0
  refine (walk a0 a1 len1 cap1 ls1 a2 a3 len3 cap3 ls3 W w0 w1 w2 w3).mono fun e W' ⟨he, bel⟩ => ?_
  subst he
  exact ⟨_, rfl, _, _, _, [], _, [], hW', trodAll_mk1 (shut_bool Try.underlying4 _), (trodAll_cons_mk (shut_int Try.underlying5 w0) (trodAll_cons_mk (Below.trod laidOut (by kernel_rfl) (of_decide_eq_true (by kernel_rfl)) k1 bel lt1) (trodAll_cons_mk (shut_int Try.underlying5 w2) (trodAll_cons_mk (Below.trod laidOut (by kernel_rfl) (of_decide_eq_true (by kernel_rfl)) k3 bel lt3) trodAll_mk0)))), rfl, bel.frame _, fun h => by cases h⟩

theorem over : Rows.tagOneRow.holds Try.pinned (OpenSpec.ofChange Rows.tagOneSpec) :=
  OpenClaim.holds_of_wide 4 Try.f4 rfl rfl rfl rfl rfl rfl rfl ⟨rfl, rfl, rfl, rfl, rfl⟩ rfl rfl rfl rfl rfl (by kernel_rfl) Try.func4 (by kernel_rfl)
    (of_decide_eq_true (by kernel_rfl)) (by unfold Func.isWrapper; first | (rw [if_pos (by decide +kernel)]; kernel_rfl) | (rw [if_neg (by decide +kernel)]; exact ⟨rfl, rfl⟩))
    (fun os started H enc _ => lifted os started H enc)

/-- ████ THE STATEMENT ████ -/
theorem proved : Rows.TagOneSaid := over
#print axioms proved
end Go.Proofs.Ytliahdlllmnkkaa.tagOne
