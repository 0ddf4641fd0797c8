/-
  Whatever the number, the size, the part and the bytes behind, the Go function NumBack returns true and its arguments read as before: what num.Put or num.PutPart puts is taken by num.Take or num.TakePart, whatever stands behind it.
  Conditions: none. The frame around the walk was written by program (proof-skeleton.mjs).
-/
import Derived.Test.YtjpneokbcnkpkaaRows
import Derived.WalkKit
import Derived.ProofKit
import Derived.OpenShut
import Derived.ShutString
import Derived.ChangeOld
import Derived.Below
import Derived.Test.YtjpneokbcnkpkaaAlive01
import Derived.Test.YtjpneokbcnkpkaaNumLaw
namespace Go.Proofs.Ytjpneokbcnkpkaa.numBack
open Go.ChangeShapes Go.WideShapes Go.ChangeAt Go.RowKit
open Go.ChangeMaps (open_string shut_string)
set_option linter.unusedVariables false

theorem own : ownKnob Try.prog.godebug = none := by kernel_rfl
theorem laidOut : laidOutB Try.prog = true := by kernel_rfl

/-- WHAT THE WALK IS TOLD OF A SLICE OF INTEGERS THAT CAME IN: it is nil; or it leads to a row of 'cap' cells, the numbers 'zs' (the first 'len' are its elements, the rest its spare room), each fitting its kind. -/
def IsRow (k : IntKind) (w : World) (a : Option Addr) (len cap : Nat) (zs : List Int) : Prop :=
  (a = none ∧ len = 0 ∧ cap = 0 ∧ zs = []) ∨
  ∃ x, a = some x ∧ len ≤ cap ∧ cap ≤ maxLen ∧ zs.length = cap ∧ (∀ i, i < zs.length → w.cell? (x.add i) = some (.int k (zs.getD i 0))) ∧ ∀ n ∈ zs, (Lit.int k n).wf = true

/-! ### the walk -/
open Go.Proofs.Ytjpneokbcnkpkaa
set_option maxHeartbeats 1600000 in
theorem walk (a0 : Int) (a1 : Int) (a2 : Option Addr) (len2 cap2 : Nat) (z2 : List Int) (a3 : Option Addr) (len3 cap3 : Nat) (z3 : List Int) (w : World) (w0 : (Lit.int .u64 a0).wf = true) (w1 : (Lit.int .i64 a1).wf = true) (w2 : IsRow .u8 w a2 len2 cap2 z2) (w3 : IsRow .u8 w a3 len3 cap3 z3) :
    Calls Try.prog 6 #[.int .u64 a0, .int .i64 a1, .slice a2 len2 cap2, .slice a3 len3 cap3] w fun e w' => e = .returned (.bool true) ∧ Below w.heap.size w w' := by
  obtain ⟨n, rfl⟩ := Int.eq_ofNat_of_zero_le (bounds_u64 w0).1
  have hn : n < 18446744073709551616 := by have := (bounds_u64 w0).2; omega
  obtain ⟨p, hlp, hrp, hcp, hmp⟩ := rd_of_row w2
  obtain ⟨rest, hlr, hrr, hcr, hmr⟩ := rd_of_row w3
  clear w0 w1 w2 w3 hcp hmp hcr hmr
  subst hlp hlr
  by_cases h5 : 5000 < p.length
  · go_enter Try.func6, Try.ntmps6
    go_wp2_with fail
    refine (alive_any _).mono ?_
    rintro e w1 ⟨rfl, hb1⟩
    go_wp2_with fail
    go_ret
    exact ⟨rfl, hb1⟩
  have h5' : p.length ≤ 5000 := by omega
  clear h5
  by_cases h6 : 5000 < rest.length
  · go_enter Try.func6, Try.ntmps6
    go_wp2_with fail
    refine (alive_any _).mono ?_
    rintro e w1 ⟨rfl, hb1⟩
    go_wp2_with fail
    go_ret
    exact ⟨rfl, hb1⟩
  have h6' : rest.length ≤ 5000 := by omega
  clear h6
  have hb47 : p.length ≤ 140737488351232 := by omega
  by_cases ht : putE n a1 = 0
  · obtain ⟨hp1, hp2, hp3⟩ := put_take n a1 rest ht
    have L0 := putB_le n a1
    have L4 : Hid ((putB n a1 ++ rest).length ≤ 140737488351232) := by show _ ≤ _; rw [List.length_append]; omega
    obtain ⟨y, hy⟩ : ∃ y, putB n a1 ++ rest = y := ⟨_, rfl⟩
    rw [hy] at hp1 hp2 hp3 L4
    have Hy := hid hy
    clear hy
    have Hp1 := hid hp1
    have Hp2 := hid (congrArg (fun k : Nat => (k : Int)) hp2)
    have Hp3 := hid hp3
    have Ht := hid ht
    have L1 : Hid ((putB n a1).length + rest.length ≤ 140737488355328) := by show _ ≤ _; omega
    clear hp1 hp2 hp3 ht L0
    by_cases hp : ppE p = 0
    · obtain ⟨hq1, hq2, hq3⟩ := pp_tp p rest hp
      have L0 := ppB_le p
      have L5 : Hid ((ppB p ++ rest).length ≤ 140737488351232) := by show _ ≤ _; rw [List.length_append]; omega
      obtain ⟨z, hz⟩ : ∃ z, ppB p ++ rest = z := ⟨_, rfl⟩
      rw [hz] at hq1 hq2 hq3 L5
      have Hz := hid hz
      clear hz
      have Hq1 := hid hq1
      have Hq2 := hid hq2
      have Hq3 := hid hq3
      have Hq := hid hp
      have L2 : Hid ((ppB p).length + rest.length ≤ 140737488355328) := by show _ ≤ _; omega
      clear hq1 hq2 hq3 hp L0
      go_enter Try.func6, Try.ntmps6
      go_wp2_with fail
      refine (alive_any _).mono ?_
      rintro e w1 ⟨rfl, hb1⟩
      go_wp2_with fail
      refine (Put_is n _ a1 _ 0 _ rfl hn rfl Ht.out).mono ?_
      rintro e w2 ⟨A2, c2, rfl, ho2, hb2⟩
      have r2 := (hrr.bel hb1).bel hb2
      go_wp2_with (at_builtin; refine wpList_app u8s rfl (.tmp 43) (.tmp 44) rfl _ A2 a3 _ _ c2 cap3 _ _ rfl rfl rfl rfl ho2 r2 L1.out hb2.size ?_; intro A3 c3 w3 ho3 hb3; rw [Hy.out] at ho3 ⊢)
      have k3 := ho3.cap
      unfold maxLen at k3
      have k3' : c3 ≤ 9223372036854775807 := by omega
      replace k3 := k3.1
      have hb13 : Below w1.heap.size w1 w3 := hb2.trans hb3
      refine (Take_is _ _ _ _ a1 n rest 0 _ ho3.rd rfl k3 k3' L4.out Hp2.out Hp3.out Hp1.out).mono ?_
      rintro e w4 ⟨A4, c4, rfl, ho4, hb4⟩
      have r4 := ((hrr.bel hb1).bel hb13).bel hb4
      go_wp2_with fail
      refine (Same_yes _ _ _ _ _ _ rest rest _ ho4.rd r4 rfl rfl rfl).mono ?_
      rintro e w5 ⟨rfl, rfl⟩
      have hb14 : Below w1.heap.size w1 w4 := ext_trans hb13 hb4
      clear hb2 hb3 hb13 hb4 ho2 ho3 k3 k3'
      go_wp2_with fail
      refine (PutPart_is _ _ _ p _ 0 _ ((hrp.bel hb1).bel hb14) rfl hb47 rfl Hq.out).mono ?_
      rintro e w6 ⟨A6, c6, rfl, ho6, hb6⟩
      have r6 := r4.bel hb6
      go_wp2_with (at_builtin; refine wpList_app u8s rfl (.tmp 83) (.tmp 84) rfl _ A6 a3 _ _ c6 cap3 _ _ rfl rfl rfl rfl ho6 r6 L2.out hb6.size ?_; intro A7 c7 w7 ho7 hb7; rw [Hz.out] at ho7 ⊢)
      have k7 := ho7.cap
      unfold maxLen at k7
      have k7' : c7 ≤ 9223372036854775807 := by omega
      replace k7 := k7.1
      have hb47' : Below w4.heap.size w4 w7 := hb6.trans hb7
      refine (TakePart_is _ _ _ _ p rest 0 _ ho7.rd rfl k7 k7' L5.out Hq2.out Hq3.out Hq1.out).mono ?_
      rintro e w8 ⟨A8, c8, A9, c9, rfl, ho8, ho9, -, hb8⟩
      have r8 := (r4.bel hb47').bel hb8
      have p8 := (((hrp.bel hb1).bel hb14).bel hb47').bel hb8
      go_wp2_with fail
      refine (Same_yes _ _ _ _ _ _ p p _ ho8.rd p8 rfl rfl rfl).mono ?_
      rintro e w9 ⟨rfl, rfl⟩
      go_wp2_with fail
      refine (Same_yes _ _ _ _ _ _ rest rest _ ho9.rd r8 rfl rfl rfl).mono ?_
      rintro e w9 ⟨rfl, rfl⟩
      clear hb6 hb7
      go_wp2_with fail
      go_ret
      exact ⟨rfl, by (repeat (first | exact Below.refl _ _ | assumption | refine ext_trans ?_ (by assumption) | refine ext_trans ?_ (ext_alloc _ _)))⟩
    · obtain ⟨hq1, hq2⟩ := pp_big p hp
      have Hq1 := hid hq1
      have Hq : Hid (ppE p = 4) := by show _ = _; simp [ppE, hq2]
      have hd : decide ((4096 : Int) < (p.length : Int)) = true := by rw [decide_eq_true_iff]; omega
      clear hp hq1
      go_enter Try.func6, Try.ntmps6
      go_wp2_with fail
      refine (alive_any _).mono ?_
      rintro e w1 ⟨rfl, hb1⟩
      go_wp2_with fail
      refine (Put_is n _ a1 _ 0 _ rfl hn rfl Ht.out).mono ?_
      rintro e w2 ⟨A2, c2, rfl, ho2, hb2⟩
      have r2 := (hrr.bel hb1).bel hb2
      go_wp2_with (at_builtin; refine wpList_app u8s rfl (.tmp 43) (.tmp 44) rfl _ A2 a3 _ _ c2 cap3 _ _ rfl rfl rfl rfl ho2 r2 L1.out hb2.size ?_; intro A3 c3 w3 ho3 hb3; rw [Hy.out] at ho3 ⊢)
      have k3 := ho3.cap
      unfold maxLen at k3
      have k3' : c3 ≤ 9223372036854775807 := by omega
      replace k3 := k3.1
      have hb13 : Below w1.heap.size w1 w3 := hb2.trans hb3
      refine (Take_is _ _ _ _ a1 n rest 0 _ ho3.rd rfl k3 k3' L4.out Hp2.out Hp3.out Hp1.out).mono ?_
      rintro e w4 ⟨A4, c4, rfl, ho4, hb4⟩
      have r4 := ((hrr.bel hb1).bel hb13).bel hb4
      go_wp2_with fail
      refine (Same_yes _ _ _ _ _ _ rest rest _ ho4.rd r4 rfl rfl rfl).mono ?_
      rintro e w5 ⟨rfl, rfl⟩
      have hb14 : Below w1.heap.size w1 w4 := ext_trans hb13 hb4
      clear hb2 hb3 hb13 hb4 ho2 ho3 k3 k3'
      go_wp2_with fail
      refine (PutPart_is _ _ _ p [] 4 _ ((hrp.bel hb1).bel hb14) rfl hb47 Hq1.out Hq.out).mono ?_
      rintro e w6 ⟨A6, c6, rfl, ho6, hb6⟩
      go_wp2_with fail
      go_ret
      exact ⟨rfl, by (repeat (first | exact Below.refl _ _ | assumption | refine ext_trans ?_ (by assumption) | refine ext_trans ?_ (ext_alloc _ _)))⟩
  · have Ht : (putE n a1 == 0) = false := by rw [beq_eq_false_iff_ne]; exact ht
    clear ht
    by_cases hp : ppE p = 0
    · obtain ⟨hq1, hq2, hq3⟩ := pp_tp p rest hp
      have L0 := ppB_le p
      have L5 : Hid ((ppB p ++ rest).length ≤ 140737488351232) := by show _ ≤ _; rw [List.length_append]; omega
      obtain ⟨z, hz⟩ : ∃ z, ppB p ++ rest = z := ⟨_, rfl⟩
      rw [hz] at hq1 hq2 hq3 L5
      have Hz := hid hz
      clear hz
      have Hq1 := hid hq1
      have Hq2 := hid hq2
      have Hq3 := hid hq3
      have Hq := hid hp
      have L2 : Hid ((ppB p).length + rest.length ≤ 140737488355328) := by show _ ≤ _; omega
      clear hq1 hq2 hq3 hp L0
      go_enter Try.func6, Try.ntmps6
      go_wp2_with fail
      refine (alive_any _).mono ?_
      rintro e w1 ⟨rfl, hb1⟩
      go_wp2_with fail
      refine (Put_any n a1 _ hn).mono ?_
      rintro e w4 ⟨A2, c2, rfl, ho2, hb14⟩
      have r4 := (hrr.bel hb1).bel hb14
      go_wp2_with fail
      refine (PutPart_is _ _ _ p _ 0 _ ((hrp.bel hb1).bel hb14) rfl hb47 rfl Hq.out).mono ?_
      rintro e w6 ⟨A6, c6, rfl, ho6, hb6⟩
      have r6 := r4.bel hb6
      go_wp2_with (at_builtin; refine wpList_app u8s rfl (.tmp 83) (.tmp 84) rfl _ A6 a3 _ _ c6 cap3 _ _ rfl rfl rfl rfl ho6 r6 L2.out hb6.size ?_; intro A7 c7 w7 ho7 hb7; rw [Hz.out] at ho7 ⊢)
      have k7 := ho7.cap
      unfold maxLen at k7
      have k7' : c7 ≤ 9223372036854775807 := by omega
      replace k7 := k7.1
      have hb47' : Below w4.heap.size w4 w7 := hb6.trans hb7
      refine (TakePart_is _ _ _ _ p rest 0 _ ho7.rd rfl k7 k7' L5.out Hq2.out Hq3.out Hq1.out).mono ?_
      rintro e w8 ⟨A8, c8, A9, c9, rfl, ho8, ho9, -, hb8⟩
      have r8 := (r4.bel hb47').bel hb8
      have p8 := (((hrp.bel hb1).bel hb14).bel hb47').bel hb8
      go_wp2_with fail
      refine (Same_yes _ _ _ _ _ _ p p _ ho8.rd p8 rfl rfl rfl).mono ?_
      rintro e w9 ⟨rfl, rfl⟩
      go_wp2_with fail
      refine (Same_yes _ _ _ _ _ _ rest rest _ ho9.rd r8 rfl rfl rfl).mono ?_
      rintro e w9 ⟨rfl, rfl⟩
      clear hb6 hb7
      go_wp2_with fail
      go_ret
      exact ⟨rfl, by (repeat (first | exact Below.refl _ _ | assumption | refine ext_trans ?_ (by assumption) | refine ext_trans ?_ (ext_alloc _ _)))⟩
    · obtain ⟨hq1, hq2⟩ := pp_big p hp
      have Hq1 := hid hq1
      have Hq : Hid (ppE p = 4) := by show _ = _; simp [ppE, hq2]
      have hd : decide ((4096 : Int) < (p.length : Int)) = true := by rw [decide_eq_true_iff]; omega
      clear hp hq1
      go_enter Try.func6, Try.ntmps6
      go_wp2_with fail
      refine (alive_any _).mono ?_
      rintro e w1 ⟨rfl, hb1⟩
      go_wp2_with fail
      refine (Put_any n a1 _ hn).mono ?_
      rintro e w4 ⟨A2, c2, rfl, ho2, hb14⟩
      have r4 := (hrr.bel hb1).bel hb14
      go_wp2_with fail
      refine (PutPart_is _ _ _ p [] 4 _ ((hrp.bel hb1).bel hb14) rfl hb47 Hq1.out Hq.out).mono ?_
      rintro e w6 ⟨A6, c6, rfl, ho6, hb6⟩
      go_wp2_with fail
      go_ret
      exact ⟨rfl, by (repeat (first | exact Below.refl _ _ | assumption | refine ext_trans ?_ (by assumption) | refine ext_trans ?_ (ext_alloc _ _)))⟩

/-! ### THE ROW's STEP: WRITTEN OUT: LEAVE IT -/
set_option maxRecDepth 100000 in
theorem lifted (os : Os) (started : os.Started) (H : Type) (enc : TypeId × Value → H) :
    ReturnsInHanded {} Try.checked os 6 .any (Rows.numBackSpec.pre6 enc Try.prog Try.f6 Rows.numBackRow.domain false) (Rows.numBackSpec.post enc Try.prog Try.f6 false true false false) := by
  refine returnsInHanded_of_change (C := Try.checked) own started (by kernel_rfl) Try.func6
    (ChangeSpec.witness6 (enc := enc) (C := Try.checked) false ⟨#[], #[.int .u64 0, .int .i64 0, .slice none 0 0, .slice none 0 0], []⟩ 8 (by kernel_rfl) (by kernel_rfl) (by kernel_rfl) (by kernel_rfl)) ?_
  intro W base args ds gs before hval0 hW hcnd _
  have hval : ∀ (j : Nat) t v, Try.f6.params[j]? = some t → args[j]? = some v → Value.okWide Try.prog W .any base t v := hval0
  have hW' := hW
  obtain ⟨p, q, hA0, hV, rfl, hfz, hnd⟩ := hW
  have hA : DataW.TrodAll enc Try.prog W 0 (fun _ => true) true Try.f6.params.toList args.toList ds p := hA0
  rw [Try.params6] at hA hval
  obtain ⟨v0, vs0, d0, ds0, p0, q0, hargs, rfl, rfl, h0, r0⟩ := trodAll_cons hA
  obtain ⟨v1, vs1, d1, ds1, p1, q1, rfl, rfl, rfl, h1, r1⟩ := trodAll_cons r0
  obtain ⟨v2, vs2, d2, ds2, p2, q2, rfl, rfl, rfl, h2, r2⟩ := trodAll_cons r1
  obtain ⟨v3, vs3, d3, ds3, p3, q3, rfl, rfl, rfl, h3, r3⟩ := trodAll_cons r2
  obtain ⟨rfl, rfl, rfl⟩ := trodAll_nil r3
  obtain rfl : args = #[v0, v1, v2, v3] := by cases args; simp_all
  obtain ⟨rfl, rfl⟩ := trodVars_none hV
  obtain ⟨a0, rfl, rfl, rfl, w0⟩ := open_int Try.underlying26 (hval 0 26 v0 rfl rfl) h0
  obtain ⟨a1, rfl, rfl, rfl, w1⟩ := open_int Try.underlying3 (hval 1 3 v1 rfl rfl) h1
  obtain ⟨a2, len2, cap2, rfl⟩ := okWide_slice Try.underlying22 (hval 2 22 v2 rfl rfl)
  have k2 := h2
  have lt2 : ∀ x ∈ p2, x.block < W.heap.size := by obtain ⟨m, hm⟩ := k2; exact DataW.trod_lt m _ _ _ hm
  obtain ⟨z2, w2⟩ : ∃ zs, IsRow .u8 W a2 len2 cap2 zs := by
    obtain ⟨fuel, hf⟩ := h2
    rcases open_ints Try.underlying22 Try.underlying5 (by kernel_rfl) hf with ⟨hcs, _⟩ | ⟨x, l, c, zs, hcs, _, hl, hm, hz, _, hcell, hwz⟩
    · simp [Value.cells] at hcs
      obtain ⟨rfl, rfl, rfl⟩ := hcs
      exact ⟨[], .inl ⟨rfl, rfl, rfl, rfl⟩⟩
    · simp [Value.cells] at hcs
      obtain ⟨rfl, rfl, rfl⟩ := hcs
      exact ⟨zs, .inr ⟨_, rfl, hl, hm, by simpa using hz, hcell, hwz⟩⟩
  obtain ⟨a3, len3, cap3, rfl⟩ := okWide_slice Try.underlying22 (hval 3 22 v3 rfl rfl)
  have k3 := h3
  have lt3 : ∀ x ∈ p3, x.block < W.heap.size := by obtain ⟨m, hm⟩ := k3; exact DataW.trod_lt m _ _ _ hm
  obtain ⟨z3, w3⟩ : ∃ zs, IsRow .u8 W a3 len3 cap3 zs := by
    obtain ⟨fuel, hf⟩ := h3
    rcases open_ints Try.underlying22 Try.underlying5 (by kernel_rfl) hf with ⟨hcs, _⟩ | ⟨x, l, c, zs, hcs, _, hl, hm, hz, _, hcell, hwz⟩
    · simp [Value.cells] at hcs
      obtain ⟨rfl, rfl, rfl⟩ := hcs
      exact ⟨[], .inl ⟨rfl, rfl, rfl, rfl⟩⟩
    · simp [Value.cells] at hcs
      obtain ⟨rfl, rfl, rfl⟩ := hcs
      exact ⟨zs, .inr ⟨_, rfl, hl, hm, by simpa using hz, hcell, hwz⟩⟩
  clear hA0 hval0
  refine (walk a0 a1 a2 len2 cap2 z2 a3 len3 cap3 z3 W w0 w1 w2 w3).mono fun e W' ⟨he, bel⟩ => ?_
  subst he
  exact ⟨_, rfl, _, _, _, [], _, [], hW', trodAll_mk1 (shut_bool Try.underlying4 _), (trodAll_cons_mk (shut_int Try.underlying26 w0) (trodAll_cons_mk (shut_int Try.underlying3 w1) (trodAll_cons_mk (Below.trod laidOut (by kernel_rfl) (of_decide_eq_true (by kernel_rfl)) k2 bel lt2) (trodAll_cons_mk (Below.trod laidOut (by kernel_rfl) (of_decide_eq_true (by kernel_rfl)) k3 bel lt3) trodAll_mk0)))), rfl, bel.frame _, fun h => by cases h⟩

theorem over : Rows.numBackRow.holds Try.pinned (OpenSpec.ofChange Rows.numBackSpec) :=
  OpenClaim.holds_of_wide 6 Try.f6 rfl rfl rfl rfl rfl rfl rfl ⟨rfl, rfl, rfl, rfl, rfl⟩ rfl rfl rfl rfl rfl (by kernel_rfl) Try.func6 (by kernel_rfl)
    (of_decide_eq_true (by kernel_rfl)) (by unfold Func.isWrapper; first | (rw [if_pos (by decide +kernel)]; kernel_rfl) | (rw [if_neg (by decide +kernel)]; exact ⟨rfl, rfl⟩))
    (fun os started H enc _ => lifted os started H enc)

/-- ████ THE STATEMENT ████ -/
theorem proved : Rows.NumBackSaid := over
#print axioms proved
end Go.Proofs.Ytjpneokbcnkpkaa.numBack
