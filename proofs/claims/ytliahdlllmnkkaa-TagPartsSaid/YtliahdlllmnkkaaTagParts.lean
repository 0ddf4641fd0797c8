/-
  Whatever the bytes, the Go function TagParts returns true and its argument reads as before: the kind and the parts of a text, or the error, are the document's; what is read stays, what is answered is new memory.
  Conditions: none. The frame around the walk was written by program (proof-skeleton.mjs).
-/
import Derived.Test.YtliahdlllmnkkaaRows
import Derived.WalkKit
import Derived.ProofKit
import Derived.OpenShut
import Derived.ShutString
import Derived.ChangeOld
import Derived.Below
import Derived.Test.YtliahdlllmnkkaaTag
import Derived.Test.YtliahdlllmnkkaaRef03a
import Derived.Test.YtliahdlllmnkkaaRef03d
import Derived.Test.YtliahdlllmnkkaaSpoil03b
import Derived.Test.YtliahdlllmnkkaaTwin
namespace Go.Proofs.Ytliahdlllmnkkaa.tagParts
open Go.ChangeShapes Go.WideShapes Go.ChangeAt Go.RowKit
open Go.ChangeMaps (open_string shut_string)
set_option linter.unusedVariables false

theorem own : ownKnob Try.prog.godebug = none := by kernel_rfl
theorem laidOut : laidOutB Try.prog = true := by kernel_rfl

/-- WHAT THE WALK IS TOLD OF A SLICE OF INTEGERS THAT CAME IN: it is nil; or it leads to a row of 'cap' cells, the numbers 'zs' (the first 'len' are its elements, the rest its spare room), each fitting its kind. -/
def IsRow (k : IntKind) (w : World) (a : Option Addr) (len cap : Nat) (zs : List Int) : Prop :=
  (a = none ∧ len = 0 ∧ cap = 0 ∧ zs = []) ∨
  ∃ x, a = some x ∧ len ≤ cap ∧ cap ≤ maxLen ∧ zs.length = cap ∧ (∀ i, i < zs.length → w.cell? (x.add i) = some (.int k (zs.getD i 0))) ∧ ∀ n ∈ zs, (Lit.int k n).wf = true

/-! ### the walk -/
open Go.Proofs.Ytliahdlllmnkkaa
set_option maxRecDepth 100000 in
set_option maxHeartbeats 1000000 in
theorem walk (a0 : Option Addr) (len0 cap0 : Nat) (z0 : List Int) (w : World) (w0 : IsRow .u8 w a0 len0 cap0 z0) :
    Calls Try.prog 3 #[.slice a0 len0 cap0] w fun e w' => e = .returned (.bool true) ∧ Below w.heap.size w w' := by
  obtain ⟨l0, rfl, r0, m0, x0⟩ := rd_of_row w0
  unfold maxLen at x0
  have R0 := hid r0
  clear r0 w0
  go_enter Try.func3, Try.ntmps3
  by_cases hbig : 6000 < l0.length
  · go_wp2
    go_ret
    exact ⟨rfl, Below.refl _ _⟩
  go_wp2_with fail
  refine (Twin_any _ _ _ l0 _ R0.out rfl (by omega)).mono ?_
  rintro e w1 ⟨A1, c1, rfl, o1, W1⟩
  have r1 := hid o1.rd
  have q1 := o1.cap
  unfold maxLen at q1
  clear o1
  go_wp2_with fail
  refine (TParts_any A1 c1 _ l0 _ r1.out rfl (by omega) (by omega) (by omega)).mono ?_
  rintro e w2 ⟨A2, c2, rfl, o2, b2⟩
  have W2 := ext_trans W1 b2
  go_wp2_with fail
  refine (RParts_any _ _ _ l0 _ (R0.out.bel W2) rfl (by omega) (by omega) (by omega)).mono ?_
  rintro e w3 ⟨A3, c3, rfl, o3, b3⟩
  have W3 := ext_trans W2 b3
  have p2 := hid (o2.rds.bel b3)
  have p3 := hid o3.rds
  have k2 := o2.cap
  have k3 := o3.cap
  unfold maxLen at k2 k3
  have o2' := hid (o2.bel b3)
  have B13 : Below w1.heap.size w1 w3 := b2.trans (b3.mono b2.size)
  have hw1 := W1.size
  generalize tagK l0 = k at *
  generalize tagE l0 = er at *
  generalize tagL l0 = L at *
  clear o2 b2 o3 b3 W2
  go_wp2_with fail
  refine (SameL_any A2 A3 _ _ _ _ L L _ p2.out p3.out rfl rfl (by omega) (by omega)).mono ?_
  rintro e w4 ⟨rfl, b4⟩
  have W4 := ext_trans W3 b4
  have B14 := B13.trans (b4.mono B13.size)
  replace o2' := hid (o2'.out.bel b4)
  have R00 := R0
  replace R0 := hid (R0.out.bel W4)
  have r4 := hid (r1.out.below B14 (Nat.le_refl _))
  have dt : decide (L = L) = true := decide_eq_true rfl
  rw [dt]
  have o1r := r1
  clear p2 p3 r1 dt b4 B13
  rcases Nat.eq_zero_or_pos L.length with h0 | h0
  · obtain rfl : L = [] := List.eq_nil_of_length_eq_zero h0
    go_wp2_with fail
    refine wp_loop_rounds 1 ?_
    rw [rounds_succ]
    go_wp2_with fail
    refine (Same_yes A1 a0 _ _ _ _ l0 l0 _ r4.out R0.out rfl rfl rfl).mono ?_
    rintro e w5 ⟨rfl, rfl⟩
    go_wp2_with fail
    go_ret
    exact ⟨rfl, W4⟩
  · obtain ⟨gr, vs, rfl, hgr, hgl, hvl, hS⟩ := o2'.out.spo h0
    replace hS := hid hS
    go_wp2_with fail
    go_loopw [11] (fun i wr => ∃ j : Nat, j ≤ L.length ∧ i = .int .i64 j ∧ Below w1.heap.size w4 wr ∧ Hid (Spo wr w1.heap.size gr vs L)) (fun i _ => L.length - (intOf i).toNat)
    case atStart => exact ⟨0, Nat.zero_le _, rfl, Below.refl _ _, hS⟩
    case round =>
      obtain ⟨j, hj, rfl, hb, hs⟩ := hrel
      have hs4 := W4.size
      by_cases hlt : j < L.length
      · have hvj : vs[j]? = some (vs[j]'(by omega)) := List.getElem?_eq_getElem (by omega)
        obtain ⟨hc, hle, hmx, hal⟩ := hs.out j _ _ hvj (List.getElem?_eq_getElem hlt)
        generalize vs[j]'(by omega) = v at *
        generalize L[j] = l at *
        obtain ⟨va, vc⟩ := v
        simp only at hc hle hmx hal
        rcases hal with hz | ⟨g, rfl, hg1, hg2, hg3⟩
        · rw [hz] at hc
          go_wp2_with fail
          refine (spoil3_none va vc _).mono ?_
          rintro e w6 ⟨rfl, rfl⟩
          go_wp2_with fail
          go_roundw
          case rel => exact ⟨j + 1, by omega, by go_num, hb, hs⟩
          case measure => simp [intOf]; omega
        · have hg3' := hid hg3
          clear hg3
          go_wp2_with fail
          refine (spoil3_blk g l.length vc _ hg3'.out hle (by unfold maxLen at hmx; omega)).mono ?_
          rintro e w6 ⟨rfl, hgb, hkk⟩
          have hs6 := hid (hs.out.spoiled hg2 hgb hkk)
          clear hkk
          have hb6 : Below w1.heap.size w4 w6 := hb.grown hgb (Nat.le_trans B14.size hb.size) (fun k hk => by injection hk with hk; omega)
          clear hgb
          go_wp2_with fail
          go_roundw
          case rel => exact ⟨j + 1, by omega, by go_num, hb6, hs6⟩
          case measure => simp [intOf]; omega
      · obtain rfl : j = L.length := by omega
        have r6 := hid (o1r.out.below (B14.trans hb) (Nat.le_refl _))
        have R6 := hid (R00.out.below ((W1.trans ((B14.trans hb).mono hw1))) (Nat.le_refl _))
        go_wp2_with fail
        refine (Same_yes A1 a0 _ _ _ _ l0 l0 _ r6.out R6.out rfl rfl rfl).mono ?_
        rintro e w6 ⟨rfl, rfl⟩
        go_wp2_with fail
        go_ret
        exact ⟨rfl, W1.trans ((B14.trans hb).mono hw1)⟩

/-! ### THE ROW's STEP: WRITTEN OUT: LEAVE IT -/
set_option maxRecDepth 100000 in
theorem lifted (os : Os) (started : os.Started) (H : Type) (enc : TypeId × Value → H) :
    ReturnsInHanded {} Try.checked os 3 .any (Rows.tagPartsSpec.pre6 enc Try.prog Try.f3 Rows.tagPartsRow.domain false) (Rows.tagPartsSpec.post enc Try.prog Try.f3 false true false false) := by
  refine returnsInHanded_of_change (C := Try.checked) own started (by kernel_rfl) Try.func3
    (ChangeSpec.witness6 (enc := enc) (C := Try.checked) false ⟨#[], #[.slice none 0 0], []⟩ 8 (by kernel_rfl) (by kernel_rfl) (by kernel_rfl) (by kernel_rfl)) ?_
  intro W base args ds gs before hval0 hW hcnd _
  have hval : ∀ (j : Nat) t v, Try.f3.params[j]? = some t → args[j]? = some v → Value.okWide Try.prog W .any base t v := hval0
  have hW' := hW
  obtain ⟨p, q, hA0, hV, rfl, hfz, hnd⟩ := hW
  have hA : DataW.TrodAll enc Try.prog W 0 (fun _ => true) true Try.f3.params.toList args.toList ds p := hA0
  rw [Try.params3] at hA hval
  obtain ⟨v0, vs0, d0, ds0, p0, q0, hargs, rfl, rfl, h0, r0⟩ := trodAll_cons hA
  obtain ⟨rfl, rfl, rfl⟩ := trodAll_nil r0
  obtain rfl : args = #[v0] := by cases args; simp_all
  obtain ⟨rfl, rfl⟩ := trodVars_none hV
  obtain ⟨a0, len0, cap0, rfl⟩ := okWide_slice Try.underlying22 (hval 0 22 v0 rfl rfl)
  have k0 := h0
  have lt0 : ∀ x ∈ p0, x.block < W.heap.size := by obtain ⟨m, hm⟩ := k0; exact DataW.trod_lt m _ _ _ hm
  obtain ⟨z0, w0⟩ : ∃ zs, IsRow .u8 W a0 len0 cap0 zs := by
    obtain ⟨fuel, hf⟩ := h0
    rcases open_ints Try.underlying22 Try.underlying5 (by kernel_rfl) hf with ⟨hcs, _⟩ | ⟨x, l, c, zs, hcs, _, hl, hm, hz, _, hcell, hwz⟩
    · simp [Value.cells] at hcs
      obtain ⟨rfl, rfl, rfl⟩ := hcs
      exact ⟨[], .inl ⟨rfl, rfl, rfl, rfl⟩⟩
    · simp [Value.cells] at hcs
      obtain ⟨rfl, rfl, rfl⟩ := hcs
      exact ⟨zs, .inr ⟨_, rfl, hl, hm, by simpa using hz, hcell, hwz⟩⟩
  clear hA0 hval0
  refine (walk a0 len0 cap0 z0 W w0).mono fun e W' ⟨he, bel⟩ => ?_
  subst he
  exact ⟨_, rfl, _, _, _, [], _, [], hW', trodAll_mk1 (shut_bool Try.underlying4 _), (trodAll_cons_mk (Below.trod laidOut (by kernel_rfl) (of_decide_eq_true (by kernel_rfl)) k0 bel lt0) trodAll_mk0), rfl, bel.frame _, fun h => by cases h⟩

theorem over : Rows.tagPartsRow.holds Try.pinned (OpenSpec.ofChange Rows.tagPartsSpec) :=
  OpenClaim.holds_of_wide 3 Try.f3 rfl rfl rfl rfl rfl rfl rfl ⟨rfl, rfl, rfl, rfl, rfl⟩ rfl rfl rfl rfl rfl (by kernel_rfl) Try.func3 (by kernel_rfl)
    (of_decide_eq_true (by kernel_rfl)) (by unfold Func.isWrapper; first | (rw [if_pos (by decide +kernel)]; kernel_rfl) | (rw [if_neg (by decide +kernel)]; exact ⟨rfl, rfl⟩))
    (fun os started H enc _ => lifted os started H enc)

/-- ████ THE STATEMENT ████ -/
theorem proved : Rows.TagPartsSaid := over
#print axioms proved
end Go.Proofs.Ytliahdlllmnkkaa.tagParts
