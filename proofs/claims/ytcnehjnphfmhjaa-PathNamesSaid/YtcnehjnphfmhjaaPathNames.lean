/-
  The Go function PathNames returns true: the limit's and the error's number, and the chapter's examples of path.
  Conditions: none. The frame around the walk was written by program (proof-skeleton.mjs).
-/
import Derived.Test.YtcnehjnphfmhjaaRows
import Derived.WalkKit
import Derived.ProofKit
import Derived.OpenShut
import Derived.ShutString
import Derived.ChangeOld
import Derived.Below
import Derived.Test.YtcnehjnphfmhjaaAlive04
import Derived.Test.YtcnehjnphfmhjaaEqD
namespace Go.Proofs.Ytcnehjnphfmhjaa.pathNames
open Go.ChangeShapes Go.WideShapes Go.ChangeAt Go.RowKit
open Go.ChangeMaps (open_string shut_string)
set_option linter.unusedVariables false      -- a walk need not use every 'w<i>' (that an integer argument fits its kind)

theorem own : ownKnob Try.prog.godebug = none := by kernel_rfl

/-! ### the walk -/
open Go.Proofs.Ytcnehjnphfmhjaa
set_option maxRecDepth 100000 in
set_option maxHeartbeats 1600000 in
theorem walk  (w : World) :
    Calls Try.prog 3 #[] w fun e w' => e = .returned (.bool true) ∧ Below w.heap.size w w' := by
  obtain ⟨es, hes⟩ : ∃ es, es = ((kfst 128).map bv).toArray := ⟨_, rfl⟩
  have hse : es.size = 32 := by rw [hes]; rfl
  have hale : es.all (·.oneCell') = true := by rw [hes]; decide +kernel
  have q9 : ∀ w, (Op.equalIn 10000 26 (.agg es) (.agg #[.int .u8 128, .int .u8 0, .int .u8 0, .int .u8 0, .int .u8 0, .int .u8 0, .int .u8 0, .int .u8 0, .int .u8 0, .int .u8 0, .int .u8 0, .int .u8 0, .int .u8 0, .int .u8 0, .int .u8 0, .int .u8 0, .int .u8 0, .int .u8 0, .int .u8 0, .int .u8 0, .int .u8 0, .int .u8 0, .int .u8 0, .int .u8 0, .int .u8 0, .int .u8 0, .int .u8 0, .int .u8 0, .int .u8 0, .int .u8 0, .int .u8 0, .int .u8 0])).run Try.prog w = .ok true w := fun w => by rw [hes]; exact eq_dig (kfst 128) rfl w
  have hpt := fun w => PTurn_is (kfst 129) 7 (.agg #[.int .u8 129, .int .u8 0, .int .u8 0, .int .u8 0, .int .u8 0, .int .u8 0, .int .u8 0, .int .u8 0, .int .u8 0, .int .u8 0, .int .u8 0, .int .u8 0, .int .u8 0, .int .u8 0, .int .u8 0, .int .u8 0, .int .u8 0, .int .u8 0, .int .u8 0, .int .u8 0, .int .u8 0, .int .u8 0, .int .u8 0, .int .u8 0, .int .u8 0, .int .u8 0, .int .u8 0, .int .u8 0, .int .u8 0, .int .u8 0, .int .u8 0, .int .u8 0]) (kfst 128) 0 w rfl rfl (by decide +kernel) (by decide +kernel)
  rw [← hes] at hpt
  obtain ⟨fs, hfs⟩ : ∃ fs, fs = ((kfst 5).map bv).toArray := ⟨_, rfl⟩
  have hsf : fs.size = 32 := by rw [hfs]; rfl
  replace hes := hid hes
  replace hfs := hid hfs
  go_enter Try.func3, Try.ntmps3
  go_wp2_with fail
  refine (PBit_is (List.replicate 32 0) 256 _ 0 2 _ rfl rfl (by decide +kernel) (by decide +kernel)).mono ?_
  rintro e w1 ⟨rfl, W1⟩
  go_wp2_with fail
  refine (hpt _).mono ?_
  rintro e w2 ⟨rfl, hb2⟩
  have W2 := ext_trans W1 hb2
  clear hb2 W1 hpt
  have hz2 := heap_alloc_new w2 (.cells z32 26)
  go_wp2_with (first
    | (with_reducible refine wpList_alloc_row rfl 26 rfl z32 info32 ?_)
    | ((with_reducible refine wpList_store_row rfl 26 (.tmp 3) (.tmp 14) rfl _ es rfl rfl 26 z32 ?_ ?_ ?_ ?_ ?_); exact hz2; (rw [hse]; exact size32); (rw [hse]; exact z32_size); exact hale; intro w4 hg4 hb4 hs4; have hz4 := heap_alloc_new w4 (.cells z32 26); have W4 := (ext_trans W2 ((ext_alloc w2 (.cells z32 26)).grown hb4 (by simp) (by intro k hk; injection hk with hk; omega))); have i4 := block_lt hg4; clear hb4 hs4 W2 hz2)
    | ((with_reducible refine wpList_store_row rfl 26 (.tmp 5) (.tmp 16) rfl _ _ rfl rfl 26 z32 ?_ ?_ ?_ ?_ ?_); exact hz4; exact size32; rfl; decide +kernel; intro w6 hg6 hb6 hs6))
  have W6 := ext_trans W4 ((ext_alloc w4 (.cells z32 26)).grown hb6 (by simp) (by intro k hk; injection hk with hk; omega))
  have g5 : w6.heap[w4.heap.size]? = some (.cells fs 26 (0, 0)) := by rw [hfs.out]; exact hg6
  have g3 : w6.heap[w2.heap.size]? = some (.cells es 26 (0, 0)) := (hb6.block _ (by simp; omega) (by intro e; injection e with e; omega)).trans ((Below.heap_alloc _ _ _ i4).trans hg4)
  clear hg6 hb6 hs6 hg4 hz4 i4
  generalize w4.heap.size = b5 at *
  generalize w2.heap.size = b3 at *
  refine (alive4_any _).mono ?_
  rintro e w7 ⟨rfl, hb7⟩
  replace g5 := (hb7.block _ (block_lt g5)).trans g5
  replace g3 := (hb7.block _ (block_lt g3)).trans g3
  have W7 := ext_trans W6 hb7
  clear hb7 W6
  go_wp2_with (((with_reducible refine wpList_load_rowg rfl 26 (.tmp 5) rfl b5 rfl 26 fs (0, 0) _ ?_ Try.underlying26 rfl ?_ ?_); exact g5; (rw [hsf]; exact size32)))
  refine (PShared_is (kfst 5) (kfst 5) _ _ 256 _ (by rw [hfs.out]) (by rw [hfs.out]) rfl rfl (by decide +kernel)).mono ?_
  rintro e w8 ⟨rfl, hb8⟩
  replace g5 := (hb8.block _ (block_lt g5)).trans g5
  replace g3 := (hb8.block _ (block_lt g3)).trans g3
  have W8 := ext_trans W7 hb8
  clear hb8 W7
  go_wp2_with fail
  refine (PAhead_is (kfst 127) (kfst 128) _ _ true _ rfl rfl rfl rfl (by decide +kernel)).mono ?_
  rintro e w9 ⟨rfl, hb9⟩
  replace g5 := (hb9.block _ (block_lt g5)).trans g5
  replace g3 := (hb9.block _ (block_lt g3)).trans g3
  have W9 := ext_trans W8 hb9
  clear hb9 W8
  go_wp2_with (((with_reducible refine wpList_load_rowg rfl 26 (.tmp 5) rfl b5 rfl 26 fs (0, 0) _ ?_ Try.underlying26 rfl ?_ ?_); exact g5; (rw [hsf]; exact size32)))
  refine (PAhead_is (kfst 5) (kfst 5) _ _ false _ (by rw [hfs.out]) (by rw [hfs.out]) rfl rfl (by decide +kernel)).mono ?_
  rintro e w10 ⟨rfl, hb10⟩
  replace g3 := (hb10.block _ (block_lt g3)).trans g3
  have W10 := ext_trans W9 hb10
  clear hb10 W9
  go_wp2_with (((with_reducible refine wpList_load_rowg rfl 26 (.tmp 3) rfl b3 rfl 26 es (0, 0) _ ?_ Try.underlying26 rfl ?_ ?_); exact g3; (rw [hse]; exact size32)))
  go_ret
  exact ⟨rfl, W10⟩

/-! ### THE ROW's STEP: WRITTEN OUT: LEAVE IT -/
set_option maxRecDepth 100000 in
theorem lifted (os : Os) (started : os.Started) (H : Type) (enc : TypeId × Value → H) :
    ReturnsInHanded {} Try.checked os 3 .any (Rows.pathNamesSpec.pre6 enc Try.prog Try.f3 Rows.pathNamesRow.domain false) (Rows.pathNamesSpec.post enc Try.prog Try.f3 false true false false) := by
  refine returnsInHanded_of_change (C := Try.checked) own started (by kernel_rfl) Try.func3
    (ChangeSpec.witness6 (enc := enc) (C := Try.checked) false ⟨#[], #[], []⟩ 8 (by kernel_rfl) (by kernel_rfl) (by kernel_rfl) (by kernel_rfl)) ?_
  intro W base args ds gs before hval0 hW hcnd _
  have hval : ∀ (j : Nat) t v, Try.f3.params[j]? = some t → args[j]? = some v → Value.okWide Try.prog W .any base t v := hval0
  have hW' := hW
  obtain ⟨p, q, hA0, hV, rfl, hfz, hnd⟩ := hW
  have hA : DataW.TrodAll enc Try.prog W 0 (fun _ => true) true Try.f3.params.toList args.toList ds p := hA0
  rw [Try.params3] at hA hval
  obtain ⟨rfl, rfl, rfl⟩ := trodAll_none hA
  obtain ⟨rfl, rfl⟩ := trodVars_none hV
  clear hA0 hval0
  refine (walk  W).mono fun e W' ⟨he, bel⟩ => ?_
  subst he
  exact ⟨_, rfl, _, _, _, [], _, [], hW', trodAll_mk1 (shut_bool Try.underlying4 _), trodAll_mk0, rfl, bel.frame _, fun h => by cases h⟩

theorem over : Rows.pathNamesRow.holds Try.pinned (OpenSpec.ofChange Rows.pathNamesSpec) :=
  OpenClaim.holds_of_wide 3 Try.f3 rfl rfl rfl rfl rfl rfl rfl ⟨rfl, rfl, rfl, rfl, rfl⟩ rfl rfl rfl rfl rfl (by kernel_rfl) Try.func3 (by kernel_rfl)
    (of_decide_eq_true (by kernel_rfl)) (by unfold Func.isWrapper; first | (rw [if_pos (by decide +kernel)]; kernel_rfl) | (rw [if_neg (by decide +kernel)]; exact ⟨rfl, rfl⟩))
    (fun os started H enc _ => lifted os started H enc)

/-- ████ THE STATEMENT ████ -/
theorem proved : Rows.PathNamesSaid :=
  over
#print axioms proved
end Go.Proofs.Ytcnehjnphfmhjaa.pathNames
