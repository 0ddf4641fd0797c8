/-
  Whatever the bytes, the Go function TagBack returns true and its argument reads as before: what is read is what is digested of it, and has that digest.
  Conditions: none. The frame around the walk was written by program (proof-skeleton.mjs).
-/
import Derived.Test.YtliahdlllmnkkaaDoorRows
import Derived.Test.YtliahdlllmnkkaaDoorDoor
import Derived.WalkKit
import Derived.ProofKit
import Derived.OpenShut
import Derived.ShutString
import Derived.ChangeOld
import Derived.Below
import Derived.Test.YtliahdlllmnkkaaDoorAlive03
import Derived.Test.YtliahdlllmnkkaaDoorShaE
import Derived.Test.YtliahdlllmnkkaaDoorTagD
import Derived.Test.YtliahdlllmnkkaaDoorRef03a
import Derived.Test.YtliahdlllmnkkaaDoorOwnL
import Derived.Test.YtliahdlllmnkkaaDoorTagP
import Derived.Test.YtliahdlllmnkkaaDoorEqD
import Derived.Test.YtliahdlllmnkkaaDoorLit
namespace Go.Proofs.YtliahdlllmnkkaaDoor.tagBack
open Go.ChangeShapes Go.WideShapes Go.ChangeAt Go.RowKit
open Go.ChangeMaps (open_string shut_string)
set_option linter.unusedVariables false

theorem own : ownKnob Tryd.prog.godebug = none := by kernel_rfl
theorem laidOut : laidOutB Tryd.prog = true := by kernel_rfl

/-- WHAT THE WALK IS TOLD OF A SLICE OF INTEGERS THAT CAME IN: it is nil; or it leads to a row of 'cap' cells, the numbers 'zs' (the first 'len' are its elements, the rest its spare room), each fitting its kind. -/
def IsRow (k : IntKind) (w : World) (a : Option Addr) (len cap : Nat) (zs : List Int) : Prop :=
  (a = none ∧ len = 0 ∧ cap = 0 ∧ zs = []) ∨
  ∃ x, a = some x ∧ len ≤ cap ∧ cap ≤ maxLen ∧ zs.length = cap ∧ (∀ i, i < zs.length → w.cell? (x.add i) = some (.int k (zs.getD i 0))) ∧ ∀ n ∈ zs, (Lit.int k n).wf = true

/-! ### the walk -/
open Go.Proofs.YtliahdlllmnkkaaDoor
theorem parts_fewer (k : UInt8) (ls : List (List UInt8)) : ls.length ≤ (tagB k ls).length := by
  unfold tagB
  rw [List.length_cons]
  induction ls with
  | nil => exact Nat.zero_le _
  | cons l ls ih =>
    have : 4 ≤ (partB l).length := by unfold partB; rw [List.length_append, be_length]; omega
    rw [List.map_cons, List.flatten_cons, List.length_append, List.length_cons]
    omega
theorem tagL_not {b : List UInt8} (h : tagE b ≠ 0) : tagL b = [] := by unfold tagL; rw [if_neg h]
theorem tagK_not {b : List UInt8} (h : tagE b ≠ 0) : tagK b = 0 := by unfold tagK; rw [if_neg h]
set_option maxRecDepth 100000 in
set_option maxHeartbeats 1000000 in
theorem walk (a0 : Option Addr) (len0 cap0 : Nat) (z0 : List Int) (w : World) (w0 : IsRow .u8 w a0 len0 cap0 z0) (hT : Tab w) :
    Calls Tryd.prog 5 #[.slice a0 len0 cap0] w fun e w' => e = .returned (.bool true) ∧ Below w.heap.size w w' := by
  obtain ⟨b, hlb, hrb, hcb, hmb⟩ := rd_of_row w0
  clear w0
  subst hlb
  have hw0 := hT.low
  replace hT := hid hT
  unfold maxLen at hmb
  have R := hid hrb
  clear hrb
  by_cases h3 : 3000 < b.length
  · go_enter Tryd.func5, Tryd.ntmps5
    go_wp2_with fail
    refine (alive3_any _).mono ?_
    rintro e w2 ⟨rfl, B2⟩
    go_wp2_with fail
    go_ret
    exact ⟨rfl, by (repeat (first | exact Below.refl _ _ | assumption | refine ext_trans ?_ (by assumption) | refine ext_trans ?_ (ext_alloc _ _)))⟩
  have h3' : b.length ≤ 3000 := by omega
  clear h3
  go_enter Tryd.func5, Tryd.ntmps5
  go_wp2_with fail
  refine (alive3_any _).mono ?_
  rintro e w2 ⟨rfl, B2⟩
  replace R := hid (R.out.bel B2)
  go_wp2_with fail
  refine (TParts_any a0 cap0 _ b _ R.out rfl (by omega) hcb (by omega)).mono ?_
  rintro e w3 ⟨A3, c3, rfl, O3, B3⟩
  have W3 := ext_trans B2 B3
  replace R := hid (R.out.bel B3)
  have L3 := hid O3.rds
  have q3 := O3.cap
  clear O3 B2 B3
  by_cases he : tagE b = 0
  · have hf := hid (tag_forth b he)
    rw [he]
    have hn := parts_fewer (tagK b) (tagL b)
    rw [hf.out] at hn
    generalize tagK b = k at *
    generalize tagL b = ls at *
    replace he := trivial
    go_wp2_with fail
    refine (TBytes_any k _ _ _ ls _ L3.out rfl (by omega) (by rw [hf.out]; omega)).mono ?_
    rintro e w4 ⟨A4, c4, rfl, O4, B4⟩
    rw [hf.out] at O4 ⊢
    have W4 := ext_trans W3 B4
    replace R := hid (R.out.bel B4)
    replace L3 := hid (L3.out.bel B4)
    have r4 := hid O4.rd
    replace W3 := trivial
    clear O4 B4
    go_wp2_with fail
    refine (Same_yes _ _ _ _ _ _ b b _ r4.out R.out rfl rfl rfl).mono ?_
    rintro e w5 ⟨rfl, rfl⟩
    go_wp2_with fail
    refine (TOf_any k _ _ _ ls _ L3.out rfl (by omega) (by rw [hf.out]; omega) (hT.out.bel (g := w.heap.size) W4 hw0)).mono ?_
    rintro e w6 ⟨rfl, B6⟩
    rw [hf.out]
    have W6 := ext_trans W4 B6
    replace R := hid (R.out.bel B6)
    replace W4 := trivial
    clear B6
    go_wp2_with fail
    refine (Of_any _ _ _ [b] _ ?_ rfl (by simp) (by simp; omega) ?_).mono ?_
    · exact Rds.lit _ _ [(a0, cap0, b)] _ _ rfl rfl (by intro x hx; simp at hx; subst hx; exact ⟨R.out, hcb, by unfold maxLen; omega⟩)
    · exact hT.out.bel (g := w.heap.size) (by (repeat (first | exact Below.refl _ _ | assumption | refine ext_trans ?_ (by assumption) | refine ext_trans ?_ (ext_alloc _ _)))) hw0
    rintro e w7 ⟨rfl, B7⟩
    rw [show [b].flatten = b by simp]
    have l9 : (sha256 b).length = 32 := S8.bytes_len _
    generalize sha256 b = d9 at *
    have q9 := fun w => eq_dig d9 l9 w
    go_wp2_with fail
    go_ret
    exact ⟨rfl, by (repeat (first | exact Below.refl _ _ | assumption | refine ext_trans ?_ (by assumption) | refine ext_trans ?_ (ext_alloc _ _)))⟩
  · have hk := tagK_not he
    have hl := tagL_not he
    have h0 : (tagE b == (0 : Int)) = false := by simpa using he
    rw [hk, hl]
    generalize tagE b = e at *
    go_wp2_with fail
    go_ret
    exact ⟨rfl, by (repeat (first | exact Below.refl _ _ | assumption | refine ext_trans ?_ (by assumption) | refine ext_trans ?_ (ext_alloc _ _)))⟩

/-! ### WHAT THE WALK GIVES, FOR EVERY ARGUMENT AND EVERY WORLD THAT HOLDS THE TABLE -/
set_option maxRecDepth 100000 in
theorem contract (H : Type) (enc : TypeId × Value → H) (W : World) (base : Nat) (args : Array Value) (ds gs : List (DataW H)) (before : List MemPlace)
    (hval0 : ∀ (j : Nat) t v, Tryd.f5.params[j]? = some t → args[j]? = some v → Value.okWide Tryd.prog W .any base t v)
    (hW : DataW.Whole enc Tryd.prog Tryd.f5.params.toList Rows.tagBackSpec.vars false W args.toList ds gs before) (hL : laidMetH Tryd.prog Rows.tagBackRow.laid W) :
    Calls Tryd.prog 5 args W fun e W' => ∃ v, e = .returned v ∧ Rows.tagBackSpec.post enc Tryd.prog Tryd.f5 false true false false W args v W' := by
  have hval : ∀ (j : Nat) t v, Tryd.f5.params[j]? = some t → args[j]? = some v → Value.okWide Tryd.prog W .any base t v := hval0
  have hW' := hW
  obtain ⟨p, q, hA0, hV, rfl, hfz, hnd⟩ := hW
  have hA : DataW.TrodAll enc Tryd.prog W 0 (fun _ => true) true Tryd.f5.params.toList args.toList ds p := hA0
  rw [Tryd.params5] at hA hval
  obtain ⟨v0, vs0, d0, ds0, p0, q0, hargs, rfl, rfl, h0, r0⟩ := trodAll_cons hA
  obtain ⟨rfl, rfl, rfl⟩ := trodAll_nil r0
  obtain rfl : args = #[v0] := by cases args; simp_all
  obtain ⟨rfl, rfl⟩ := trodVars_none hV
  obtain ⟨a0, len0, cap0, rfl⟩ := okWide_slice Tryd.underlying26 (hval 0 26 v0 rfl rfl)
  have k0 := h0
  have lt0 : ∀ x ∈ p0, x.block < W.heap.size := by obtain ⟨m, hm⟩ := k0; exact DataW.trod_lt m _ _ _ hm
  obtain ⟨z0, w0⟩ : ∃ zs, IsRow .u8 W a0 len0 cap0 zs := by
    obtain ⟨fuel, hf⟩ := h0
    rcases open_ints Tryd.underlying26 Tryd.underlying5 (by kernel_rfl) hf with ⟨hcs, _⟩ | ⟨x, l, c, zs, hcs, _, hl, hm, hz, _, hcell, hwz⟩
    · simp [Value.cells] at hcs
      obtain ⟨rfl, rfl, rfl⟩ := hcs
      exact ⟨[], .inl ⟨rfl, rfl, rfl, rfl⟩⟩
    · simp [Value.cells] at hcs
      obtain ⟨rfl, rfl, rfl⟩ := hcs
      exact ⟨zs, .inr ⟨_, rfl, hl, hm, by simpa using hz, hcell, hwz⟩⟩
  clear hA0 hval0
  refine (walk a0 len0 cap0 z0 W w0 (tab_of hL)).mono fun e W' ⟨he, bel⟩ => ?_
  subst he
  exact ⟨_, rfl, _, _, _, [], _, [], hW', trodAll_mk1 (shut_bool Tryd.underlying4 _), (trodAll_cons_mk (Below.trod laidOut (by kernel_rfl) (of_decide_eq_true (by kernel_rfl)) k0 bel lt0) trodAll_mk0), rfl, bel.frame _, fun h => by cases h⟩

theorem laid_met (os : Os) : laidMet Tryd.prog Rows.tagBackRow.laid ((laidWorld os).forCall (fun _ _ => 0) ⟨#[], #[.slice none 0 0], []⟩).memory :=
  laidMet_of_run' 8 (by kernel_rfl) (by kernel_rfl)
theorem reads (os : Os) {H : Type} (enc : TypeId × Value → H) : ∃ places, DataW.whole enc Tryd.prog ((laidWorld os).forCall (fun _ _ => 0) ⟨#[], #[.slice none 0 0], []⟩).memory Tryd.f5.params.toList Rows.tagBackSpec.vars false (#[.slice none 0 0] : Array Value).toList 8 = some ([.nil], [], places) :=
  ⟨[], by kernel_rfl⟩
set_option maxRecDepth 100000 in
theorem lifted (os : Os) (started : os.Started) (H : Type) (enc : TypeId × Value → H) (F : Stop.Interp) :
    ReturnsInHanded {} Tryd.checked os 5 .any ((OpenSpec.ofChange Rows.tagBackSpec).preRow enc Tryd.prog Tryd.f5 Rows.tagBackRow.domain false Rows.tagBackRow.laid) (((OpenSpec.ofChange Rows.tagBackSpec).at F).post enc Tryd.prog Tryd.f5 false true false false) := by
  obtain ⟨places, hx⟩ := reads os enc
  refine returnsInHanded_of_row (C := Tryd.checked) (s := OpenSpec.ofChange Rows.tagBackSpec) own started (by kernel_rfl) Tryd.func5
    (witness_row_at (enc := enc) (C := Tryd.checked) false (laidWorld os) #[.slice none 0 0] rfl (by kernel_rfl) (by kernel_rfl) (by kernel_rfl)
      (OpenSpec.preRow_of_cond 8 hx (by kernel_rfl) (fun k hk => by cases hk) (by kernel_rfl) (laid_met os))) ?_
  intro W base args ds gs before hval hW _ _ _ hL _ _
  exact contract H enc W base args ds gs before hval hW hL
theorem said : Rows.TagBackSaid :=
  OpenClaim.holds_of_cond 5 Tryd.f5 rfl rfl rfl rfl rfl rfl rfl ⟨rfl, rfl, rfl, rfl, rfl⟩ rfl rfl rfl rfl rfl (by kernel_rfl) Tryd.func5 (by kernel_rfl)
    (of_decide_eq_true (by kernel_rfl)) (by unfold Func.isWrapper; first | (rw [if_pos (by decide +kernel)]; kernel_rfl) | (rw [if_neg (by decide +kernel)]; exact ⟨rfl, rfl⟩))
    (fun os started H enc _ F => by rw [OpenClaim.pre_eq_preRow]; exact lifted os started H enc F)
/-- No parameter wants a stand-in; the program's own looks are off: what the card asks. -/
theorem plain (f : FuncId) (fn : Func) (hf : Tryd.pinned.checked.prog.funcNamed "beadroll/beadrolllaw03.TagBack" = some f) (hfn : Tryd.pinned.checked.prog.funcs[f]? = some fn) :
    false = Tryd.pinned.checked.prog.looks [] ∧ ∀ (j : Nat) t, fn.params[j]? = some t → Tryd.pinned.checked.prog.wantsStandIn t = false := by
  obtain rfl : f = 5 := Option.some.inj ((show Tryd.prog.funcNamed "beadroll/beadrolllaw03.TagBack" = some 5 by kernel_rfl).symm.trans hf) |>.symm
  obtain rfl : fn = Tryd.f5 := (Option.some.inj (Tryd.func5.symm.trans hfn)).symm
  refine ⟨by kernel_rfl, fun j t ht => ?_⟩
  rw [Tryd.params5] at ht
  have hm := Array.mem_of_getElem? ht
  simp only [List.mem_toArray, List.mem_cons, List.not_mem_nil, or_false] at hm
  rcases hm with rfl
  exact (show Tryd.prog.wantsStandIn 26 = false by kernel_rfl)
/-- ████ THE CARD ████ -/
theorem proved : Rows.TagBackCardSaid :=
  Claim7.holds_tied_plain_at .later [] _ _ _ _ said (fun _ h => by cases h) (by kernel_rfl) (fun _ h => by cases h) tagBack_row_tie rfl ⟨rfl, rfl⟩ (by kernel_rfl) rfl plain (by kernel_rfl)
#print axioms proved
end Go.Proofs.YtliahdlllmnkkaaDoor.tagBack
