/-
  Whatever the bytes and the size, the Go function NumOne returns true and its arguments read as before: what num.Take, or num.TakePart, takes from bytes is, put again, what it was taken from.
  Conditions: none. The frame around the walk was written by program (proof-skeleton.mjs).
-/
import Derived.Test.YtjpneokbcnkpkaaRows
import Derived.WalkKit
import Derived.ProofKit
import Derived.OpenShut
import Derived.ShutString
import Derived.ChangeOld
import Derived.Below
import Derived.Test.YtjpneokbcnkpkaaAlive01
import Derived.Test.YtjpneokbcnkpkaaNumLaw
namespace Go.Proofs.Ytjpneokbcnkpkaa.numOne
open Go.ChangeShapes Go.WideShapes Go.ChangeAt Go.RowKit
open Go.ChangeMaps (open_string shut_string)
set_option linter.unusedVariables false

theorem own : ownKnob Try.prog.godebug = none := by kernel_rfl
theorem laidOut : laidOutB Try.prog = true := by kernel_rfl

/-- WHAT THE WALK IS TOLD OF A SLICE OF INTEGERS THAT CAME IN: it is nil; or it leads to a row of 'cap' cells, the numbers 'zs' (the first 'len' are its elements, the rest its spare room), each fitting its kind. -/
def IsRow (k : IntKind) (w : World) (a : Option Addr) (len cap : Nat) (zs : List Int) : Prop :=
  (a = none ∧ len = 0 ∧ cap = 0 ∧ zs = []) ∨
  ∃ x, a = some x ∧ len ≤ cap ∧ cap ≤ maxLen ∧ zs.length = cap ∧ (∀ i, i < zs.length → w.cell? (x.add i) = some (.int k (zs.getD i 0))) ∧ ∀ n ∈ zs, (Lit.int k n).wf = true

/-! ### the walk -/
open Go.Proofs.Ytjpneokbcnkpkaa
set_option maxHeartbeats 1600000 in
theorem walk (a0 : Option Addr) (len0 cap0 : Nat) (z0 : List Int) (a1 : Int) (w : World) (w0 : IsRow .u8 w a0 len0 cap0 z0) (w1 : (Lit.int .i64 a1).wf = true) :
    Calls Try.prog 7 #[.slice a0 len0 cap0, .int .i64 a1] w fun e w' => e = .returned (.bool true) ∧ Below w.heap.size w w' := by
  obtain ⟨l, hl, hr, hc, hm⟩ := rd_of_row w0
  clear w0 w1
  subst hl
  have hm' : cap0 ≤ 9223372036854775807 := by unfold maxLen at hm; omega
  clear hm
  by_cases h5 : 5000 < l.length
  · go_enter Try.func7, Try.ntmps7
    go_wp2_with fail
    refine (alive_any _).mono ?_
    rintro e w1 ⟨rfl, hb1⟩
    go_wp2_with fail
    go_ret
    exact ⟨rfl, hb1⟩
  have h5' : l.length ≤ 5000 := by omega
  clear h5
  have hb47 : l.length ≤ 140737488351232 := by omega
  by_cases ht : takeE l a1 = 0
  · obtain ⟨hn, hp1, hp2⟩ := take_put l a1 ht
    have Hp1 := hid hp1
    have Hp2 := hid hp2
    have Ht := hid ht
    clear hp1 hp2 ht
    have L1 : Hid ((putB (takeN l a1) a1).length + (takeR l a1).length ≤ 140737488355328) := by have := congrArg List.length Hp2.out; rw [List.length_append] at this; show _ ≤ _; omega
    by_cases hp : tpE l = 0
    · obtain ⟨hq1, hq2⟩ := tp_pp l hp
      have Hq1 := hid hq1
      have Hq2 := hid hq2
      have Hq := hid hp
      clear hq1 hq2 hp
      have L2 : Hid ((ppB (tpP l)).length + (tpR l).length ≤ 140737488355328) := by have := congrArg List.length Hq2.out; rw [List.length_append] at this; show _ ≤ _; omega
      have L3 : Hid ((tpP l).length ≤ 140737488351232) := by
        show _ ≤ _
        have := tpP_le l
        omega
      go_enter Try.func7, Try.ntmps7
      go_wp2_with fail
      refine (alive_any _).mono ?_
      rintro e w1 ⟨rfl, hb1⟩
      go_wp2_with fail
      refine (Take_is _ _ _ l a1 _ _ 0 _ (by (repeat (first | assumption | exact Own.rd (by assumption) | exact Rd.lit_ _ _ _ _ _ (by first | rfl | (simp; done)) rfl | apply Rd.alloc | refine Rd.bel ?_ (by assumption)))) rfl hc hm' hb47 rfl rfl Ht.out).mono ?_
      rintro e w2 ⟨A2, c2, rfl, ho2, hb2⟩
      go_wp2_with fail
      refine (Put_is (takeN l a1) _ a1 _ 0 _ rfl hn rfl Hp1.out).mono ?_
      rintro e w3 ⟨A3, c3, rfl, ho3, hb3⟩
      go_wp2_with (at_builtin; refine wpList_app u8s rfl (.tmp 43) (.tmp 44) rfl _ A3 A2 _ _ c3 c2 _ _ rfl rfl rfl rfl ho3 (by (repeat (first | assumption | exact Own.rd (by assumption) | exact Rd.lit_ _ _ _ _ _ (by first | rfl | (simp; done)) rfl | apply Rd.alloc | refine Rd.bel ?_ (by assumption)))) L1.out hb3.size ?_; intro A4 c4 w4 ho4 hb4; rw [Hp2.out] at ho4 ⊢)
      replace hb4 := hb4.mono (Nat.le_refl _)
      have hb34 : Below w2.heap.size w2 w4 := hb3.trans hb4
      have hr4 : Rd w4 a0 l := (((hr.bel hb1).bel hb2).bel hb34)
      refine (Same_yes _ _ _ _ _ _ l l _ (by (repeat (first | assumption | exact Own.rd (by assumption) | exact Rd.lit_ _ _ _ _ _ (by first | rfl | (simp; done)) rfl | apply Rd.alloc | refine Rd.bel ?_ (by assumption)))) hr4 rfl rfl rfl).mono ?_
      rintro e w5 ⟨rfl, rfl⟩
      clear ho2 ho3 hb3 hb4 ho4
      go_wp2_with fail
      refine (TakePart_is _ _ _ l _ _ 0 _ hr4 rfl hc hm' hb47 rfl rfl Hq.out).mono ?_
      rintro e w6 ⟨A6, c6, A7, c7, rfl, ho6, ho7, -, hb6⟩
      go_wp2_with fail
      refine (PutPart_is _ _ _ (tpP l) _ 0 _ ho6.rd rfl L3.out rfl Hq1.out).mono ?_
      rintro e w7 ⟨A8, c8, rfl, ho8, hb7⟩
      have r7 := ho7.rd.bel hb7
      go_wp2_with (at_builtin; refine wpList_app u8s rfl (.tmp 70) (.tmp 71) rfl _ A8 A7 _ _ c8 c7 _ _ rfl rfl rfl rfl ho8 r7 L2.out hb7.size ?_; intro A9 c9 w9 ho9 hb9; rw [Hq2.out] at ho9 ⊢)
      have hb79 : Below w6.heap.size w6 w9 := hb7.trans hb9
      refine (Same_yes _ _ _ _ _ _ l l _ ho9.rd ((hr4.bel hb6).bel hb79) rfl rfl rfl).mono ?_
      rintro e w10 ⟨rfl, rfl⟩
      clear hb7 hb9
      go_wp2_with fail
      go_ret
      exact ⟨rfl, by (repeat (first | exact Below.refl _ _ | assumption | refine ext_trans ?_ (by assumption) | refine ext_trans ?_ (ext_alloc _ _)))⟩
    · have Hq : (tpE l != 0) = true := by rw [bne_iff_ne]; exact hp
      clear hp
      go_enter Try.func7, Try.ntmps7
      go_wp2_with fail
      refine (alive_any _).mono ?_
      rintro e w1 ⟨rfl, hb1⟩
      go_wp2_with fail
      refine (Take_is _ _ _ l a1 _ _ 0 _ (by (repeat (first | assumption | exact Own.rd (by assumption) | exact Rd.lit_ _ _ _ _ _ (by first | rfl | (simp; done)) rfl | apply Rd.alloc | refine Rd.bel ?_ (by assumption)))) rfl hc hm' hb47 rfl rfl Ht.out).mono ?_
      rintro e w2 ⟨A2, c2, rfl, ho2, hb2⟩
      go_wp2_with fail
      refine (Put_is (takeN l a1) _ a1 _ 0 _ rfl hn rfl Hp1.out).mono ?_
      rintro e w3 ⟨A3, c3, rfl, ho3, hb3⟩
      go_wp2_with (at_builtin; refine wpList_app u8s rfl (.tmp 43) (.tmp 44) rfl _ A3 A2 _ _ c3 c2 _ _ rfl rfl rfl rfl ho3 (by (repeat (first | assumption | exact Own.rd (by assumption) | exact Rd.lit_ _ _ _ _ _ (by first | rfl | (simp; done)) rfl | apply Rd.alloc | refine Rd.bel ?_ (by assumption)))) L1.out hb3.size ?_; intro A4 c4 w4 ho4 hb4; rw [Hp2.out] at ho4 ⊢)
      replace hb4 := hb4.mono (Nat.le_refl _)
      have hb34 : Below w2.heap.size w2 w4 := hb3.trans hb4
      have hr4 : Rd w4 a0 l := (((hr.bel hb1).bel hb2).bel hb34)
      refine (Same_yes _ _ _ _ _ _ l l _ (by (repeat (first | assumption | exact Own.rd (by assumption) | exact Rd.lit_ _ _ _ _ _ (by first | rfl | (simp; done)) rfl | apply Rd.alloc | refine Rd.bel ?_ (by assumption)))) hr4 rfl rfl rfl).mono ?_
      rintro e w5 ⟨rfl, rfl⟩
      clear ho2 ho3 hb3 hb4 ho4
      go_wp2_with fail
      refine (TakePart_any _ _ _ l _ hr4 rfl hc hm' hb47).mono ?_
      rintro e w6 ⟨A6, c6, A7, c7, rfl, ho6, ho7, -, hb6⟩
      go_wp2_with fail
      go_ret
      exact ⟨rfl, by (repeat (first | exact Below.refl _ _ | assumption | refine ext_trans ?_ (by assumption) | refine ext_trans ?_ (ext_alloc _ _)))⟩
  · have Ht : (takeE l a1 == 0) = false := by rw [beq_eq_false_iff_ne]; exact ht
    clear ht
    by_cases hp : tpE l = 0
    · obtain ⟨hq1, hq2⟩ := tp_pp l hp
      have Hq1 := hid hq1
      have Hq2 := hid hq2
      have Hq := hid hp
      clear hq1 hq2 hp
      have L2 : Hid ((ppB (tpP l)).length + (tpR l).length ≤ 140737488355328) := by have := congrArg List.length Hq2.out; rw [List.length_append] at this; show _ ≤ _; omega
      have L3 : Hid ((tpP l).length ≤ 140737488351232) := by
        show _ ≤ _
        have := tpP_le l
        omega
      go_enter Try.func7, Try.ntmps7
      go_wp2_with fail
      refine (alive_any _).mono ?_
      rintro e w1 ⟨rfl, hb1⟩
      go_wp2_with fail
      refine (Take_any _ _ _ l a1 _ (by (repeat (first | assumption | exact Own.rd (by assumption) | exact Rd.lit_ _ _ _ _ _ (by first | rfl | (simp; done)) rfl | apply Rd.alloc | refine Rd.bel ?_ (by assumption)))) rfl hc hm' hb47).mono ?_
      rintro e w4 ⟨A2, c2, rfl, ho2, hb34⟩
      have hr4 : Rd w4 a0 l := (hr.bel hb1).bel hb34
      go_wp2_with fail
      refine (TakePart_is _ _ _ l _ _ 0 _ hr4 rfl hc hm' hb47 rfl rfl Hq.out).mono ?_
      rintro e w6 ⟨A6, c6, A7, c7, rfl, ho6, ho7, -, hb6⟩
      go_wp2_with fail
      refine (PutPart_is _ _ _ (tpP l) _ 0 _ ho6.rd rfl L3.out rfl Hq1.out).mono ?_
      rintro e w7 ⟨A8, c8, rfl, ho8, hb7⟩
      have r7 := ho7.rd.bel hb7
      go_wp2_with (at_builtin; refine wpList_app u8s rfl (.tmp 70) (.tmp 71) rfl _ A8 A7 _ _ c8 c7 _ _ rfl rfl rfl rfl ho8 r7 L2.out hb7.size ?_; intro A9 c9 w9 ho9 hb9; rw [Hq2.out] at ho9 ⊢)
      have hb79 : Below w6.heap.size w6 w9 := hb7.trans hb9
      refine (Same_yes _ _ _ _ _ _ l l _ ho9.rd ((hr4.bel hb6).bel hb79) rfl rfl rfl).mono ?_
      rintro e w10 ⟨rfl, rfl⟩
      clear hb7 hb9
      go_wp2_with fail
      go_ret
      exact ⟨rfl, by (repeat (first | exact Below.refl _ _ | assumption | refine ext_trans ?_ (by assumption) | refine ext_trans ?_ (ext_alloc _ _)))⟩
    · have Hq : (tpE l != 0) = true := by rw [bne_iff_ne]; exact hp
      clear hp
      go_enter Try.func7, Try.ntmps7
      go_wp2_with fail
      refine (alive_any _).mono ?_
      rintro e w1 ⟨rfl, hb1⟩
      go_wp2_with fail
      refine (Take_any _ _ _ l a1 _ (by (repeat (first | assumption | exact Own.rd (by assumption) | exact Rd.lit_ _ _ _ _ _ (by first | rfl | (simp; done)) rfl | apply Rd.alloc | refine Rd.bel ?_ (by assumption)))) rfl hc hm' hb47).mono ?_
      rintro e w4 ⟨A2, c2, rfl, ho2, hb34⟩
      have hr4 : Rd w4 a0 l := (hr.bel hb1).bel hb34
      go_wp2_with fail
      refine (TakePart_any _ _ _ l _ hr4 rfl hc hm' hb47).mono ?_
      rintro e w6 ⟨A6, c6, A7, c7, rfl, ho6, ho7, -, hb6⟩
      go_wp2_with fail
      go_ret
      exact ⟨rfl, by (repeat (first | exact Below.refl _ _ | assumption | refine ext_trans ?_ (by assumption) | refine ext_trans ?_ (ext_alloc _ _)))⟩

/-! ### THE ROW's STEP: WRITTEN OUT: LEAVE IT -/
set_option maxRecDepth 100000 in
theorem lifted (os : Os) (started : os.Started) (H : Type) (enc : TypeId × Value → H) :
    ReturnsInHanded {} Try.checked os 7 .any (Rows.numOneSpec.pre6 enc Try.prog Try.f7 Rows.numOneRow.domain false) (Rows.numOneSpec.post enc Try.prog Try.f7 false true false false) := by
  refine returnsInHanded_of_change (C := Try.checked) own started (by kernel_rfl) Try.func7
    (ChangeSpec.witness6 (enc := enc) (C := Try.checked) false ⟨#[], #[.slice none 0 0, .int .i64 0], []⟩ 8 (by kernel_rfl) (by kernel_rfl) (by kernel_rfl) (by kernel_rfl)) ?_
  intro W base args ds gs before hval0 hW hcnd _
  have hval : ∀ (j : Nat) t v, Try.f7.params[j]? = some t → args[j]? = some v → Value.okWide Try.prog W .any base t v := hval0
  have hW' := hW
  obtain ⟨p, q, hA0, hV, rfl, hfz, hnd⟩ := hW
  have hA : DataW.TrodAll enc Try.prog W 0 (fun _ => true) true Try.f7.params.toList args.toList ds p := hA0
  rw [Try.params7] at hA hval
  obtain ⟨v0, vs0, d0, ds0, p0, q0, hargs, rfl, rfl, h0, r0⟩ := trodAll_cons hA
  obtain ⟨v1, vs1, d1, ds1, p1, q1, rfl, rfl, rfl, h1, r1⟩ := trodAll_cons r0
  obtain ⟨rfl, rfl, rfl⟩ := trodAll_nil r1
  obtain rfl : args = #[v0, v1] := by cases args; simp_all
  obtain ⟨rfl, rfl⟩ := trodVars_none hV
  obtain ⟨a0, len0, cap0, rfl⟩ := okWide_slice Try.underlying22 (hval 0 22 v0 rfl rfl)
  have k0 := h0
  have lt0 : ∀ x ∈ p0, x.block < W.heap.size := by obtain ⟨m, hm⟩ := k0; exact DataW.trod_lt m _ _ _ hm
  obtain ⟨z0, w0⟩ : ∃ zs, IsRow .u8 W a0 len0 cap0 zs := by
    obtain ⟨fuel, hf⟩ := h0
    rcases open_ints Try.underlying22 Try.underlying5 (by kernel_rfl) hf with ⟨hcs, _⟩ | ⟨x, l, c, zs, hcs, _, hl, hm, hz, _, hcell, hwz⟩
    · simp [Value.cells] at hcs
      obtain ⟨rfl, rfl, rfl⟩ := hcs
      exact ⟨[], .inl ⟨rfl, rfl, rfl, rfl⟩⟩
    · simp [Value.cells] at hcs
      obtain ⟨rfl, rfl, rfl⟩ := hcs
      exact ⟨zs, .inr ⟨_, rfl, hl, hm, by simpa using hz, hcell, hwz⟩⟩
  obtain ⟨a1, rfl, rfl, rfl, w1⟩ := open_int Try.underlying3 (hval 1 3 v1 rfl rfl) h1
  clear hA0 hval0
  refine (walk a0 len0 cap0 z0 a1 W w0 w1).mono fun e W' ⟨he, bel⟩ => ?_
  subst he
  exact ⟨_, rfl, _, _, _, [], _, [], hW', trodAll_mk1 (shut_bool Try.underlying4 _), (trodAll_cons_mk (Below.trod laidOut (by kernel_rfl) (of_decide_eq_true (by kernel_rfl)) k0 bel lt0) (trodAll_cons_mk (shut_int Try.underlying3 w1) trodAll_mk0)), rfl, bel.frame _, fun h => by cases h⟩

theorem over : Rows.numOneRow.holds Try.pinned (OpenSpec.ofChange Rows.numOneSpec) :=
  OpenClaim.holds_of_wide 7 Try.f7 rfl rfl rfl rfl rfl rfl rfl ⟨rfl, rfl, rfl, rfl, rfl⟩ rfl rfl rfl rfl rfl (by kernel_rfl) Try.func7 (by kernel_rfl)
    (of_decide_eq_true (by kernel_rfl)) (by unfold Func.isWrapper; first | (rw [if_pos (by decide +kernel)]; kernel_rfl) | (rw [if_neg (by decide +kernel)]; exact ⟨rfl, rfl⟩))
    (fun os started H enc _ => lifted os started H enc)

/-- ████ THE STATEMENT ████ -/
theorem proved : Rows.NumOneSaid := over
#print axioms proved
end Go.Proofs.Ytjpneokbcnkpkaa.numOne
