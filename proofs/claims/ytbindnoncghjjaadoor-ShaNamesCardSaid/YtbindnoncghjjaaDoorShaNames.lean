/-
  The Go function ShaNames returns true: the error's number, and the chapter's examples of digests and their texts.
  Conditions: none. The frame around the walk was written by program (proof-skeleton.mjs).
-/
import Derived.Test.YtbindnoncghjjaaDoorRows
import Derived.Test.YtbindnoncghjjaaDoorDoor
import Derived.WalkKit
import Derived.ProofKit
import Derived.OpenShut
import Derived.ShutString
import Derived.ChangeOld
import Derived.Below
import Derived.Test.YtbindnoncghjjaaDoorAlive02
import Derived.Test.YtbindnoncghjjaaDoorEqD
namespace Go.Proofs.YtbindnoncghjjaaDoor.shaNames
open Go.ChangeShapes Go.WideShapes Go.ChangeAt Go.RowKit
open Go.ChangeMaps (open_string shut_string)
set_option linter.unusedVariables false      -- a walk need not use every 'w<i>' (that an integer argument fits its kind)

theorem own : ownKnob Tryd.prog.godebug = none := by kernel_rfl

/-! ### the walk -/
open Go.Proofs.YtbindnoncghjjaaDoor

def L56 : List UInt8 := [97, 98, 99, 100, 98, 99, 100, 101, 99, 100, 101, 102, 100, 101, 102, 103, 101, 102, 103, 104, 102, 103, 104, 105, 103, 104, 105, 106, 104, 105, 106, 107, 105, 106, 107, 108, 106, 107, 108, 109, 107, 108, 109, 110, 108, 109, 110, 111, 109, 110, 111, 112, 110, 111, 112, 113]
theorem hex_56 : ((bstr (hexL (sha256 L56))).toList == [50, 52, 56, 100, 54, 97, 54, 49, 100, 50, 48, 54, 51, 56, 98, 56, 101, 53, 99, 48, 50, 54, 57, 51, 48, 99, 51, 101, 54, 48, 51, 57, 97, 51, 51, 99, 101, 52, 53, 57, 54, 52, 102, 102, 50, 49, 54, 55, 102, 54, 101, 99, 101, 100, 100, 52, 49, 57, 100, 98, 48, 54, 99, 49]) = true := by rw [bstr_toList]; decide +kernel
theorem great : readOk ⟨#[69, 51, 98, 48, 99, 52, 52, 50, 57, 56, 102, 99, 49, 99, 49, 52, 57, 97, 102, 98, 102, 52, 99, 56, 57, 57, 54, 102, 98, 57, 50, 52, 50, 55, 97, 101, 52, 49, 101, 52, 54, 52, 57, 98, 57, 51, 52, 99, 97, 52, 57, 53, 57, 57, 49, 98, 55, 56, 53, 50, 98, 56, 53, 53]⟩ = false := by decide +kernel
theorem empty : readOk ⟨#[]⟩ = false := by decide +kernel
theorem conv_lit2 (w : World) (o : Obj) (C : Array Value) (n c : Nat) : (convert 25 25 (.slice (some ⟨w.heap.size + 1, 0, none⟩) n c)).run Tryd.prog ((w.alloc o).alloc (.cells C 5)) = .ok (.slice (some ⟨w.heap.size + 1, 0, none⟩) n c) ((w.alloc o).alloc (.cells C 5 (C.size, C.size + 1))) := by
  have h := conv_lit (w.alloc o) C n c
  rw [show (w.alloc o).heap.size = w.heap.size + 1 by simp] at h
  exact h
theorem readA_not {s : ByteArray} (h : readOk s = false) : readA s = z32 := by unfold readA; rw [if_neg (by rw [h]; decide)]
theorem readE_not {s : ByteArray} (h : readOk s = false) : readE s = 2 := by unfold readE; rw [if_neg (by rw [h]; decide)]
set_option maxRecDepth 100000 in
set_option maxHeartbeats 1000000 in
theorem walk  (w : World) (hT : Tab w) :
    Calls Tryd.prog 3 #[] w fun e w' => e = .returned (.bool true) ∧ Below w.heap.size w w' := by
  have hw0 := hT.low
  replace hT := hid hT
  have kc := conv_lit
  go_enter Tryd.func3, Tryd.ntmps3
  go_wp2_with fail
  refine (Of_any _ _ _ [L56] _ ?_ rfl (by simp) (by simp [L56]) ?_).mono ?_
  · exact Rds.lit _ _ [(some ⟨w.heap.size, 0, none⟩, 56, L56)] _ _ (by simp) rfl (by intro x hx; simp at hx; subst hx; exact ⟨Rd.litf _ _ _ _ _ _ rfl rfl, by simp [L56], (by decide : 56 ≤ maxLen)⟩)
  · exact hT.out.bel (g := w.heap.size) (by (repeat (first | exact Below.refl _ _ | assumption | refine ext_trans ?_ (by assumption) | refine ext_trans ?_ (ext_alloc _ _)))) hw0
  rintro e w1 ⟨rfl, B1⟩
  rw [show [L56].flatten = L56 by simp]
  have W1 : Below w.heap.size w w1 := by (repeat (first | exact Below.refl _ _ | assumption | refine ext_trans ?_ (by assumption) | refine ext_trans ?_ (ext_alloc _ _)))
  replace B1 := trivial
  have z1 : (((sha256 L56).map bv).toArray).size = 32 := by simp [show (sha256 L56).length = 32 from S8.bytes_len _]
  have l1 : (sha256 L56).length = 32 := S8.bytes_len _
  have h1 := hex_56
  have a1 := bvs_all (sha256 L56)
  generalize sha256 L56 = d1 at *
  go_wp2_with (first
    | (with_reducible refine wpList_alloc_row rfl 23 rfl z32 info32 ?_)
    | ((with_reducible refine wpList_store_row rfl 23 (.tmp 1) (.tmp 9) rfl _ _ rfl rfl 23 z32 ?_ ?_ ?_ ?_ ?_); exact heap_alloc_new _ _; (rw [z1]; exact size32); (rw [z1]; exact z32_size); exact a1; intro w2 hg2 hb2 hs2))
  have W2 : Below w.heap.size w w2 := ext_trans W1 ((ext_alloc w1 _).grown hb2 (by simp) (fun k hk => by injection hk with hk; omega))
  have hg1 := hid hg2
  have g1 := block_lt hg2
  clear hb2 hs2 hg2
  replace W1 := trivial
  generalize w1.heap.size = b1 at *
  refine (sRead_any ⟨#[]⟩ _ (by decide)).mono ?_
  rintro e w3 ⟨rfl, B3⟩
  rw [readA_not empty, readE_not empty]
  replace hg1 := hid ((B3.block _ g1).trans hg1.out)
  replace g1 := Nat.lt_of_lt_of_le g1 B3.size
  have W3 := ext_trans W2 B3
  replace W2 := trivial
  replace B3 := trivial
  go_wp2_with (first
    | (with_reducible refine wpList_alloc_row rfl 23 rfl z32 info32 ?_)
    | ((with_reducible refine wpList_store_row rfl 23 (.tmp 2) (.tmp 12) rfl _ _ rfl rfl 23 z32 ?_ ?_ ?_ ?_ ?_); exact heap_alloc_new _ _; exact size32; exact z32_size; decide +kernel; intro w4 hg4 hb4 hs4))
  have B4 : Below w3.heap.size w3 w4 := (ext_alloc w3 _).grown hb4 (by simp) (fun k hk => by injection hk with hk; omega)
  replace hg1 := hid ((B4.block _ g1).trans hg1.out)
  replace g1 := Nat.lt_of_lt_of_le g1 B4.size
  have W4 := ext_trans W3 B4
  clear hb4 hs4 hg4 W3 B4
  generalize w3.heap.size = b2 at *
  refine (sRead_any ⟨_⟩ _ (by decide)).mono ?_
  rintro e w5 ⟨rfl, B5⟩
  rw [readA_not great, readE_not great]
  replace hg1 := hid ((B5.block _ g1).trans hg1.out)
  replace g1 := Nat.lt_of_lt_of_le g1 B5.size
  have W5 := ext_trans W4 B5
  clear W4 B5
  go_wp2_with (first
    | (with_reducible refine wpList_alloc_row rfl 23 rfl z32 info32 ?_)
    | ((with_reducible refine wpList_store_row rfl 23 (.tmp 4) (.tmp 16) rfl _ _ rfl rfl 23 z32 ?_ ?_ ?_ ?_ ?_); exact heap_alloc_new _ _; exact size32; exact z32_size; decide +kernel; intro w6 hg6 hb6 hs6))
  have B6 : Below w5.heap.size w5 w6 := (ext_alloc w5 _).grown hb6 (by simp) (fun k hk => by injection hk with hk; omega)
  replace hg1 := hid ((B6.block _ g1).trans hg1.out)
  replace g1 := Nat.lt_of_lt_of_le g1 B6.size
  have W6 := ext_trans W5 B6
  clear hb6 hs6 hg6 W5 B6
  generalize w5.heap.size = b3 at *
  refine (alive2_any _ (hT.out.bel (g := w.heap.size) W6 hw0)).mono ?_
  rintro e w7 ⟨rfl, B7⟩
  replace hg1 := hid ((B7.block _ g1).trans hg1.out)
  replace g1 := Nat.lt_of_lt_of_le g1 B7.size
  have W7 := ext_trans W6 B7
  clear W6 B7
  go_wp2_with ((with_reducible refine wpList_load_rowg rfl 23 (.tmp 1) rfl b1 rfl 23 ((d1.map bv).toArray) (0, 0) _ ?_ Tryd.underlying23 rfl ?_ ?_); exact hg1.out; (rw [z1]; exact size32))
  refine (sHex_any d1 _ l1).mono ?_
  rintro e w8 ⟨rfl, B8⟩
  have W8 := ext_trans W7 B8
  clear W7 B8
  have kc2 := conv_lit2
  go_wp2_with fail
  refine (Of_any _ _ _ [[97], [98, 99]] _ ?_ rfl (by simp) (by simp) ?_).mono ?_
  · exact Rds.lit _ _ [(some ⟨w8.heap.size, 0, none⟩, 1, [97]), (some ⟨w8.heap.size + 1, 0, none⟩, 2, [98, 99])] _ _ (by simp) rfl (by
      intro x hx
      simp at hx
      rcases hx with rfl | rfl
      · exact ⟨Rd.alloc (Rd.litf _ _ _ _ _ _ rfl rfl) _, by simp, (by decide : 1 ≤ maxLen)⟩
      · exact ⟨Rd.litf _ _ _ _ _ _ (by simp) rfl, by simp, (by decide : 2 ≤ maxLen)⟩)
  · exact hT.out.bel (g := w.heap.size) (by (repeat (first | exact Below.refl _ _ | assumption | refine ext_trans ?_ (by assumption) | refine ext_trans ?_ (ext_alloc _ _)))) hw0
  rintro e w9 ⟨rfl, B9⟩
  have W9 : Below w.heap.size w w9 := by (repeat (first | exact Below.refl _ _ | assumption | refine ext_trans ?_ (by assumption) | refine ext_trans ?_ (ext_alloc _ _)))
  clear B9 W8
  rw [show [[97], [98, 99]].flatten = ([97, 98, 99] : List UInt8) from rfl]
  go_wp2_with fail
  refine (Of_any _ _ _ [[97, 98, 99]] _ ?_ rfl (by simp) (by simp) ?_).mono ?_
  · exact Rds.lit _ _ [(some ⟨w9.heap.size, 0, none⟩, 3, [97, 98, 99])] _ _ (by simp) rfl (by intro x hx; simp at hx; subst hx; exact ⟨Rd.litf _ _ _ _ _ _ rfl rfl, by simp, (by decide : 3 ≤ maxLen)⟩)
  · exact hT.out.bel (g := w.heap.size) (by (repeat (first | exact Below.refl _ _ | assumption | refine ext_trans ?_ (by assumption) | refine ext_trans ?_ (ext_alloc _ _)))) hw0
  rintro e w10 ⟨rfl, B10⟩
  have W10 : Below w.heap.size w w10 := by (repeat (first | exact Below.refl _ _ | assumption | refine ext_trans ?_ (by assumption) | refine ext_trans ?_ (ext_alloc _ _)))
  clear B10 W9
  rw [show [[97, 98, 99]].flatten = ([97, 98, 99] : List UInt8) from rfl]
  have l9 : (sha256 [97, 98, 99]).length = 32 := S8.bytes_len _
  generalize sha256 [97, 98, 99] = d9 at *
  have q9 := fun w => eq_dig d9 l9 w
  go_wp2_with fail
  go_ret
  exact ⟨rfl, W10⟩

/-! ### WHAT THE WALK GIVES, FOR EVERY ARGUMENT AND EVERY WORLD THAT HOLDS THE TABLE -/
set_option maxRecDepth 100000 in
theorem contract (H : Type) (enc : TypeId × Value → H) (W : World) (base : Nat) (args : Array Value) (ds gs : List (DataW H)) (before : List MemPlace)
    (hval0 : ∀ (j : Nat) t v, Tryd.f3.params[j]? = some t → args[j]? = some v → Value.okWide Tryd.prog W .any base t v)
    (hW : DataW.Whole enc Tryd.prog Tryd.f3.params.toList Rows.shaNamesSpec.vars false W args.toList ds gs before) (hL : laidMetH Tryd.prog Rows.shaNamesRow.laid W) :
    Calls Tryd.prog 3 args W fun e W' => ∃ v, e = .returned v ∧ Rows.shaNamesSpec.post enc Tryd.prog Tryd.f3 false true false false W args v W' := by
  have hval : ∀ (j : Nat) t v, Tryd.f3.params[j]? = some t → args[j]? = some v → Value.okWide Tryd.prog W .any base t v := hval0
  have hW' := hW
  obtain ⟨p, q, hA0, hV, rfl, hfz, hnd⟩ := hW
  have hA : DataW.TrodAll enc Tryd.prog W 0 (fun _ => true) true Tryd.f3.params.toList args.toList ds p := hA0
  rw [Tryd.params3] at hA hval
  obtain ⟨rfl, rfl, rfl⟩ := trodAll_none hA
  obtain ⟨rfl, rfl⟩ := trodVars_none hV
  clear hA0 hval0
  refine (walk  W (tab_of hL)).mono fun e W' ⟨he, bel⟩ => ?_
  subst he
  exact ⟨_, rfl, _, _, _, [], _, [], hW', trodAll_mk1 (shut_bool Tryd.underlying4 _), trodAll_mk0, rfl, bel.frame _, fun h => by cases h⟩

theorem laid_met (os : Os) : laidMet Tryd.prog Rows.shaNamesRow.laid ((laidWorld os).forCall (fun _ _ => 0) ⟨#[], #[], []⟩).memory :=
  laidMet_of_run' 8 (by kernel_rfl) (by kernel_rfl)
theorem reads (os : Os) {H : Type} (enc : TypeId × Value → H) : ∃ places, DataW.whole enc Tryd.prog ((laidWorld os).forCall (fun _ _ => 0) ⟨#[], #[], []⟩).memory Tryd.f3.params.toList Rows.shaNamesSpec.vars false (#[] : Array Value).toList 8 = some ([], [], places) :=
  ⟨[], by kernel_rfl⟩
set_option maxRecDepth 100000 in
theorem lifted (os : Os) (started : os.Started) (H : Type) (enc : TypeId × Value → H) (F : Stop.Interp) :
    ReturnsInHanded {} Tryd.checked os 3 .any ((OpenSpec.ofChange Rows.shaNamesSpec).preRow enc Tryd.prog Tryd.f3 Rows.shaNamesRow.domain false Rows.shaNamesRow.laid) (((OpenSpec.ofChange Rows.shaNamesSpec).at F).post enc Tryd.prog Tryd.f3 false true false false) := by
  obtain ⟨places, hx⟩ := reads os enc
  refine returnsInHanded_of_row (C := Tryd.checked) (s := OpenSpec.ofChange Rows.shaNamesSpec) own started (by kernel_rfl) Tryd.func3
    (witness_row_at (enc := enc) (C := Tryd.checked) false (laidWorld os) #[] rfl (by kernel_rfl) (by kernel_rfl) (by kernel_rfl)
      (OpenSpec.preRow_of_cond 8 hx (by kernel_rfl) (fun k hk => by cases hk) (by kernel_rfl) (laid_met os))) ?_
  intro W base args ds gs before hval hW _ _ _ hL _ _
  exact contract H enc W base args ds gs before hval hW hL
theorem said : Rows.ShaNamesSaid :=
  OpenClaim.holds_of_cond 3 Tryd.f3 rfl rfl rfl rfl rfl rfl rfl ⟨rfl, rfl, rfl, rfl, rfl⟩ rfl rfl rfl rfl rfl (by kernel_rfl) Tryd.func3 (by kernel_rfl)
    (of_decide_eq_true (by kernel_rfl)) (by unfold Func.isWrapper; first | (rw [if_pos (by decide +kernel)]; kernel_rfl) | (rw [if_neg (by decide +kernel)]; exact ⟨rfl, rfl⟩))
    (fun os started H enc _ F => by rw [OpenClaim.pre_eq_preRow]; exact lifted os started H enc F)
/-- No parameter wants a stand-in; the program's own looks are off: what the card asks. -/
theorem plain (f : FuncId) (fn : Func) (hf : Tryd.pinned.checked.prog.funcNamed "beadroll/beadrolllaw02.ShaNames" = some f) (hfn : Tryd.pinned.checked.prog.funcs[f]? = some fn) :
    false = Tryd.pinned.checked.prog.looks [] ∧ ∀ (j : Nat) t, fn.params[j]? = some t → Tryd.pinned.checked.prog.wantsStandIn t = false := by
  obtain rfl : f = 3 := Option.some.inj ((show Tryd.prog.funcNamed "beadroll/beadrolllaw02.ShaNames" = some 3 by kernel_rfl).symm.trans hf) |>.symm
  obtain rfl : fn = Tryd.f3 := (Option.some.inj (Tryd.func3.symm.trans hfn)).symm
  refine ⟨by kernel_rfl, fun j t ht => ?_⟩
  rw [Tryd.params3] at ht
  simp at ht
/-- ████ THE CARD ████ -/
theorem proved : Rows.ShaNamesCardSaid :=
  Claim7.holds_tied_plain_at .later [] _ _ _ _ said (fun _ h => by cases h) (by kernel_rfl) (fun _ h => by cases h) shaNames_row_tie rfl ⟨rfl, rfl⟩ (by kernel_rfl) rfl plain (by kernel_rfl)
#print axioms proved
end Go.Proofs.YtbindnoncghjjaaDoor.shaNames
