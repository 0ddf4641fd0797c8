/-
  The Go function PairsRoot returns true: a map's root, or the error, is the document's: any pairs; its argument reads afterwards as before.
  Conditions: none. The frame around the walk was written by program (proof-skeleton.mjs).
-/
import Derived.Test.YtbblokhpoempbaaDoorRows
import Derived.Test.YtbblokhpoempbaaDoorDoor
import Derived.WalkKit
import Derived.ProofKit
import Derived.OpenShut
import Derived.ShutString
import Derived.ChangeOld
import Derived.Below
import Derived.Test.YtbblokhpoempbaaDoorBits
import Derived.Test.YtbblokhpoempbaaDoorPrR
import Derived.Test.YtbblokhpoempbaaDoorRefE
namespace Go.Proofs.YtbblokhpoempbaaDoor.pairsRoot
open Go.ChangeShapes Go.WideShapes Go.ChangeAt Go.RowKit
open Go.ChangeMaps (open_string shut_string)
set_option linter.unusedVariables false

theorem own : ownKnob Tryd.prog.godebug = none := by kernel_rfl
theorem laidOut : laidOutB Tryd.prog = true := by kernel_rfl

/-- WHAT THE WALK IS TOLD OF A SLICE OF INTEGERS THAT CAME IN: it is nil; or it leads to a row of 'cap' cells, the numbers 'zs' (the first 'len' are its elements, the rest its spare room), each fitting its kind. -/
def IsRow (k : IntKind) (w : World) (a : Option Addr) (len cap : Nat) (zs : List Int) : Prop :=
  (a = none ∧ len = 0 ∧ cap = 0 ∧ zs = []) ∨
  ∃ x, a = some x ∧ len ≤ cap ∧ cap ≤ maxLen ∧ zs.length = cap ∧ (∀ i, i < zs.length → w.cell? (x.add i) = some (.int k (zs.getD i 0))) ∧ ∀ n ∈ zs, (Lit.int k n).wf = true

/-! ### the walk -/
open Go.Proofs.YtbblokhpoempbaaDoor
set_option maxRecDepth 100000 in
set_option maxHeartbeats 2000000 in
theorem walk (a0 : Option Addr) (len0 cap0 : Nat) (ps0 : List Pr) (w : World) (w0 : len0 = ps0.length ∧ Row (fun b => b < w.heap.size) w a0 ps0 ∧ ps0.length ≤ cap0 ∧ cap0 ≤ maxLen) (hT : Tab w) :
    Calls Tryd.prog 4 #[.slice a0 len0 cap0] w fun e w' => e = .returned (.bool true) ∧ Below w.heap.size w w' := by
  obtain ⟨rfl, hr, hcap, hcm⟩ := w0
  have hcm2 : cap0 ≤ 9223372036854775807 := by unfold maxLen at hcm; omega
  have hu := Tryd.underlying23
  obtain ⟨gb, hgb⟩ : ∃ gb, greatP ps0 20 = gb := ⟨_, rfl⟩
  have hGr := fun W hW => RGreat_any (fun b => b < w.heap.size) a0 cap0 ps0.length 20 ps0 W hW rfl (by omega)
  rw [hgb] at hGr
  have hP := fun W hW hTW => PRoot_any (fun b => b < w.heap.size) a0 cap0 ps0.length ps0 W hW rfl (by omega) hcap hcm2 hTW
  have hR := fun W hW => RRoot_any (fun b => b < w.heap.size) a0 cap0 ps0.length ps0 W hW rfl (by omega)
  have hE := fun W => eqd_is ⟨rootL ps0, rootL_length ps0⟩ ⟨rootL ps0, rootL_length ps0⟩ true (decide_eq_true rfl) W
  have ld := rootL_length ps0
  simp only at hE
  generalize rootE ps0 = z at *
  generalize rootL ps0 = dg at *
  have z1 : ((dg.map bv).toArray).size = 32 := by simp [ld]
  have o1 := bvs_all dg
  have hi := hid (show (Tryd.prog.info? 23).map (·.size) = some (dg.map bv).length by rw [List.length_map, ld]; exact size32)
  replace hgb := hid hgb
  replace hP := hid hP
  replace hR := hid hR
  have hT0 := hid hT
  clear hT
  go_enter Tryd.func4, Tryd.ntmps4
  go_wp2_with fail
  refine (hGr _ hr).mono ?_
  rintro e w2 ⟨rfl, rfl⟩
  cases gb
  · clear hGr
    go_wp2_with fail
    refine (hP.out _ hr hT0.out).mono ?_
    rintro e w3 ⟨rfl, hb3⟩
    have B4 := hid (hb3.trans ((ext_alloc w3 (.cells z32 23)).mono hb3.size))
    have q3 := hid hb3.size
    have e3 := hid (heap_alloc_new w3 (.cells z32 23))
    clear hb3 hP hT0
    go_wp2_with (first
      | (with_reducible refine wpList_alloc_row rfl 23 rfl z32 info32 ?_)
      | ((with_reducible refine wpList_store_row rfl 23 (.tmp 3) (.tmp 12) rfl _ _ rfl rfl 23 z32 ?_ ?_ ?_ ?_ ?_); exact e3.out; (rw [z1]; exact size32); (rw [z1]; exact z32_size); exact o1; intro w4 hg4 hb4 hs4))
    have B5 := hid (B4.out.grown hb4 B4.out.size (by intro k hk; injection hk with hk; have := q3.out; omega))
    refine (hR.out _ (hr.bel B5.out)).mono ?_
    rintro e w5 ⟨rfl, hb5⟩
    have r5 := hid ((hb5.block _ (block_lt hg4)).trans hg4)
    have lt5 := hid (Nat.lt_of_lt_of_le (block_lt hg4) hb5.size)
    have B6 := hid (B5.out.trans (hb5.mono B5.out.size))
    have B7 := hid (B6.out.trans ((ext_alloc w5 (.cells z32 23)).mono B6.out.size))
    have r7 := hid (((ext_alloc w5 (.cells z32 23)).block _ (block_lt r5.out)).trans r5.out)
    have e5 := hid (heap_alloc_new w5 (.cells z32 23))
    clear hg4 hb4 hs4 hb5 hR r5
    go_wp2_with (first
      | (with_reducible refine wpList_alloc_row rfl 23 rfl z32 info32 ?_)
      | ((with_reducible refine wpList_store_row rfl 23 (.tmp 5) (.tmp 17) rfl _ _ rfl rfl 23 z32 ?_ ?_ ?_ ?_ ?_); exact e5.out; (rw [z1]; exact size32); (rw [z1]; exact z32_size); exact o1; intro w6 hg6 hb6 hs6; have s5 := rangeOf hg6; have s3 := rangeOf ((hb6.block w3.heap.size (block_lt r7.out) (by have := lt5.out; simp; omega)).trans r7.out); have B8 := hid (B7.out.grown hb6 B7.out.size (by intro k hk; injection hk with hk; have := B6.out.size; omega)); clear hg6 hb6 hs6)
      | ((with_reducible refine wpList_load_rng rfl 23 (.tmp 3) rfl w3.heap.size 0 rfl (dg.map bv) _ ?_ hu rfl hi.out ?_); exact s3)
      | ((with_reducible refine wpList_load_rng rfl 23 (.tmp 5) rfl w5.heap.size 0 rfl (dg.map bv) _ ?_ hu rfl hi.out ?_); exact s5))
    go_ret
    exact ⟨rfl, B8.out⟩
  · go_wp2
    go_ret
    exact ⟨rfl, Below.refl _ _⟩

/-! ### WHAT THE WALK GIVES, FOR EVERY ARGUMENT AND EVERY WORLD THAT HOLDS THE TABLE -/
set_option maxRecDepth 100000 in
theorem contract (H : Type) (enc : TypeId × Value → H) (W : World) (base : Nat) (args : Array Value) (ds gs : List (DataW H)) (before : List MemPlace)
    (hval0 : ∀ (j : Nat) t v, Tryd.f4.params[j]? = some t → args[j]? = some v → Value.okWide Tryd.prog W .any base t v)
    (hW : DataW.Whole enc Tryd.prog Tryd.f4.params.toList Rows.pairsRootSpec.vars false W args.toList ds gs before) (hL : laidMetH Tryd.prog Rows.pairsRootRow.laid W) :
    Calls Tryd.prog 4 args W fun e W' => ∃ v, e = .returned v ∧ Rows.pairsRootSpec.post enc Tryd.prog Tryd.f4 false true false false W args v W' := by
  have hval : ∀ (j : Nat) t v, Tryd.f4.params[j]? = some t → args[j]? = some v → Value.okWide Tryd.prog W .any base t v := hval0
  have hW' := hW
  obtain ⟨p, q, hA0, hV, rfl, hfz, hnd⟩ := hW
  have hA : DataW.TrodAll enc Tryd.prog W 0 (fun _ => true) true Tryd.f4.params.toList args.toList ds p := hA0
  rw [Tryd.params4] at hA hval
  obtain ⟨v0, vs0, d0, ds0, p0, q0, hargs, rfl, rfl, h0, r0⟩ := trodAll_cons hA
  obtain ⟨rfl, rfl, rfl⟩ := trodAll_nil r0
  obtain rfl : args = #[v0] := by cases args; simp_all
  obtain ⟨rfl, rfl⟩ := trodVars_none hV
  obtain ⟨a0, len0, cap0, rfl⟩ := okWide_slice Tryd.underlying28 (hval 0 28 v0 rfl rfl)
  have k0 := h0
  have lt0 : ∀ x ∈ p0, x.block < W.heap.size := by obtain ⟨m, hm⟩ := k0; exact DataW.trod_lt m _ _ _ hm
  obtain ⟨ps0, w0⟩ : ∃ ps : List Pr, len0 = ps.length ∧ Row (fun b => b < W.heap.size) W a0 ps ∧ ps.length ≤ cap0 ∧ cap0 ≤ maxLen := by
    obtain ⟨fuel, hf⟩ := h0
    exact open_list opensPrs hf
  clear hA0 hval0
  refine (walk a0 len0 cap0 ps0 W w0 (tab_of hL)).mono fun e W' ⟨he, bel⟩ => ?_
  subst he
  exact ⟨_, rfl, _, _, _, [], _, [], hW', trodAll_mk1 (shut_bool Tryd.underlying4 _), (trodAll_cons_mk (Below.trod laidOut (by kernel_rfl) (of_decide_eq_true (by kernel_rfl)) k0 bel lt0) trodAll_mk0), rfl, bel.frame _, fun h => by cases h⟩

theorem laid_met (os : Os) : laidMet Tryd.prog Rows.pairsRootRow.laid ((laidWorld os).forCall (fun _ _ => 0) ⟨#[], #[.slice none 0 0], []⟩).memory :=
  laidMet_of_run' 8 (by kernel_rfl) (by kernel_rfl)
theorem reads (os : Os) {H : Type} (enc : TypeId × Value → H) : ∃ places, DataW.whole enc Tryd.prog ((laidWorld os).forCall (fun _ _ => 0) ⟨#[], #[.slice none 0 0], []⟩).memory Tryd.f4.params.toList Rows.pairsRootSpec.vars false (#[.slice none 0 0] : Array Value).toList 8 = some ([.nil], [], places) :=
  ⟨[], by kernel_rfl⟩
set_option maxRecDepth 100000 in
theorem lifted (os : Os) (started : os.Started) (H : Type) (enc : TypeId × Value → H) (F : Stop.Interp) :
    ReturnsInHanded {} Tryd.checked os 4 .any ((OpenSpec.ofChange Rows.pairsRootSpec).preRow enc Tryd.prog Tryd.f4 Rows.pairsRootRow.domain false Rows.pairsRootRow.laid) (((OpenSpec.ofChange Rows.pairsRootSpec).at F).post enc Tryd.prog Tryd.f4 false true false false) := by
  obtain ⟨places, hx⟩ := reads os enc
  refine returnsInHanded_of_row (C := Tryd.checked) (s := OpenSpec.ofChange Rows.pairsRootSpec) own started (by kernel_rfl) Tryd.func4
    (witness_row_at (enc := enc) (C := Tryd.checked) false (laidWorld os) #[.slice none 0 0] rfl (by kernel_rfl) (by kernel_rfl) (by kernel_rfl)
      (OpenSpec.preRow_of_cond 8 hx (by kernel_rfl) (fun k hk => by cases hk) (by kernel_rfl) (laid_met os))) ?_
  intro W base args ds gs before hval hW _ _ _ hL _ _
  exact contract H enc W base args ds gs before hval hW hL
theorem said : Rows.PairsRootSaid :=
  OpenClaim.holds_of_cond 4 Tryd.f4 rfl rfl rfl rfl rfl rfl rfl ⟨rfl, rfl, rfl, rfl, rfl⟩ rfl rfl rfl rfl rfl (by kernel_rfl) Tryd.func4 (by kernel_rfl)
    (of_decide_eq_true (by kernel_rfl)) (by unfold Func.isWrapper; first | (rw [if_pos (by decide +kernel)]; kernel_rfl) | (rw [if_neg (by decide +kernel)]; exact ⟨rfl, rfl⟩))
    (fun os started H enc _ F => by rw [OpenClaim.pre_eq_preRow]; exact lifted os started H enc F)
set_option maxRecDepth 100000 in
/-- No parameter wants a stand-in; the program's own looks are off: what the card asks. -/
theorem plain (f : FuncId) (fn : Func) (hf : Tryd.pinned.checked.prog.funcNamed "beadroll/beadrolllaw05.PairsRoot" = some f) (hfn : Tryd.pinned.checked.prog.funcs[f]? = some fn) :
    false = Tryd.pinned.checked.prog.looks [] ∧ ∀ (j : Nat) t, fn.params[j]? = some t → Tryd.pinned.checked.prog.wantsStandIn t = false := by
  obtain rfl : f = 4 := Option.some.inj ((show Tryd.prog.funcNamed "beadroll/beadrolllaw05.PairsRoot" = some 4 by kernel_rfl).symm.trans hf) |>.symm
  obtain rfl : fn = Tryd.f4 := (Option.some.inj (Tryd.func4.symm.trans hfn)).symm
  refine ⟨by kernel_rfl, fun j t ht => ?_⟩
  rw [Tryd.params4] at ht
  have hm := Array.mem_of_getElem? ht
  simp only [List.mem_toArray, List.mem_cons, List.not_mem_nil, or_false] at hm
  rcases hm with rfl
  exact (show Tryd.prog.wantsStandIn 28 = false by kernel_rfl)
set_option maxRecDepth 100000 in
/-- ████ THE CARD ████ -/
theorem proved : Rows.PairsRootCardSaid :=
  Claim7.holds_tied_plain_at .later [] _ _ _ _ said (fun _ h => by cases h) (by kernel_rfl) (fun _ h => by cases h) pairsRoot_row_tie rfl ⟨rfl, rfl⟩ (by kernel_rfl) rfl plain (by kernel_rfl)
#print axioms proved
end Go.Proofs.YtbblokhpoempbaaDoor.pairsRoot
