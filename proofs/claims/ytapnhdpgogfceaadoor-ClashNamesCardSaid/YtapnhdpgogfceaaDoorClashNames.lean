/-
  The Go function ClashNames returns true: the errors' numbers, and the chapter's examples.
  Conditions: none. The frame around the walk was written by program (proof-skeleton.mjs).
-/
import Derived.Test.YtapnhdpgogfceaaDoorRows
import Derived.Test.YtapnhdpgogfceaaDoorDoor
import Derived.WalkKit
import Derived.ProofKit
import Derived.OpenShut
import Derived.ShutString
import Derived.ChangeOld
import Derived.Below
import Derived.Test.YtapnhdpgogfceaaDoorAlive09
import Derived.Test.YtapnhdpgogfceaaDoorClF
import Derived.Test.YtapnhdpgogfceaaDoorTrC
import Derived.Test.YtapnhdpgogfceaaDoorTreeB
import Derived.Test.YtapnhdpgogfceaaDoorBits
import Derived.Test.YtapnhdpgogfceaaDoorPfKb
namespace Go.Proofs.YtapnhdpgogfceaaDoor.clashNames
open Go.ChangeShapes Go.WideShapes Go.ChangeAt Go.RowKit
open Go.ChangeMaps (open_string shut_string)
set_option linter.unusedVariables false      -- a walk need not use every 'w<i>' (that an integer argument fits its kind)

theorem own : ownKnob Tryd.prog.godebug = none := by kernel_rfl

/-! ### the walk -/
open Go.Proofs.YtapnhdpgogfceaaDoor
set_option maxRecDepth 100000
def p9n : Pf := ⟨dfst 1, 0, z0, [], []⟩
def p9b : Pf := ⟨z0, 3, z0, [], []⟩
def t9 : Tr := tputT ⟨[], 0⟩ z0 [97]
theorem t9_len : t9.ns.length ≤ 1000 := by decide +kernel
theorem t9_E : tputE ⟨[], 0⟩ [97] = 0 := by decide +kernel
theorem t9_may : mayT t9 = true := by decide +kernel
theorem s9a : seekP ownP ownP = ([], []) := by decide +kernel
theorem s9aE : seekE ownP ownP = 2 := by decide +kernel
theorem s9b : seekP ownP p9n = ([], []) := by decide +kernel
theorem s9bE : seekE ownP p9n = 2 := by decide +kernel
theorem s9c : seekP ownP p9b = ([], []) := by decide +kernel
theorem s9cE : seekE ownP p9b = 8 := by decide +kernel
theorem o9u : unlikeF (makeF t9 ownP.k) ownP = false := by decide +kernel
theorem o9r : decide (rootV pf0 = rootT t9) = false := by decide +kernel
theorem o9a : ofP t9 ownP = ([], []) := by
  unfold ofP
  rw [o9u, Bool.and_false, Bool.and_false, Bool.and_false]
  rfl
theorem o9aE : ofE t9 ownP = 6 := by
  unfold ofE
  rw [o9u, Bool.and_false, t9_may]
  rfl
theorem o9b : ofP t9 pf0 = ([], []) := by
  unfold ofP
  rw [o9r, Bool.false_and, Bool.and_false, Bool.and_false]
  rfl
theorem o9bE : ofE t9 pf0 = 6 := by
  unfold ofE
  rw [o9r, Bool.false_and, t9_may]
  rfl
theorem built_p9b : Tryd.prog.built 30 [(1, .int .u8 3)] = some (pfC p9b none 0 none 0).toArray := by kernel_rfl
set_option linter.unusedSimpArgs false
set_option maxRecDepth 100000 in
set_option maxHeartbeats 8000000 in
theorem walk  (w : World) (hT : Tab w) :
    Calls Tryd.prog 3 #[] w fun e w' => e = .returned (.bool true) ∧ Below w.heap.size w w' := by
  have hut := Tryd.underlying34
  have hlow := hid hT.low
  have hb0 := hid built_tr0
  have hz0 := hid built_dg0
  have hd1 := hid (built_dg1 1)
  have bN := hid (show Tryd.prog.built 30 [(0, .agg ((dfst 1).1.map bv).toArray)] = some (pfC p9n none 0 none 0).toArray from built_pfK (dfst 1))
  have bB := hid built_p9b
  have b0 := hid (show Tryd.prog.built 30 [] = some (pfC pf0 none 0 none 0).toArray by kernel_rfl)
  have hP := hid (fun (W : World) (A : Option Addr) (hrd : Rd W A [97]) => (show Calls Tryd.prog 8 #[.agg zTrC, .agg (z0.1.map bv).toArray, .slice A 1 1] W _ from PTPut_any (fun _ => False) none A 0 1 [] 0 z0 [97] W (Row.nil _ _ _) (by decide) hrd (by decide) (by decide)))
  rw [show tputT ⟨[], 0⟩ z0 [97] = t9 from rfl, t9_E] at hP
  have h1000 : t9.ns.length ≤ 1000000 := Nat.le_trans t9_len (by decide)
  have hS1 := fun A A2 W (hA : Rd W A [97]) (hB : Rd W A2 [97]) hTW => ClSeek_any (fun _ => False) (fun _ => False) ownP ownP A A2 1 1 none none 0 0 W hA (Nat.le_refl _) (show 1 ≤ maxLen by decide) (Row.nil _ _ _) hB (Nat.le_refl _) (show 1 ≤ maxLen by decide) (Row.nil _ _ _) hTW
  rw [s9a, s9aE] at hS1
  have hS2 := fun A W (hA : Rd W A [97]) hTW => ClSeek_any (fun _ => False) (fun _ => False) ownP p9n A none 1 0 none none 0 0 W hA (Nat.le_refl _) (show 1 ≤ maxLen by decide) (Row.nil _ _ _) (fun h => absurd h (by decide)) (Nat.le_refl _) (Nat.zero_le _) (Row.nil _ _ _) hTW
  rw [s9b, s9bE] at hS2
  have hS3 := fun A W (hA : Rd W A [97]) hTW => ClSeek_any (fun _ => False) (fun _ => False) ownP p9b A none 1 0 none none 0 0 W hA (Nat.le_refl _) (show 1 ≤ maxLen by decide) (Row.nil _ _ _) (fun h => absurd h (by decide)) (Nat.le_refl _) (Nat.zero_le _) (Row.nil _ _ _) hTW
  rw [s9c, s9cE] at hS3
  have hO1 := fun F A c A2 W hW (hA : Rd W A2 [97]) hTW => ClOf_any F (fun _ => False) A c t9.ns t9.root ownP A2 1 none 0 W hW h1000 hA (Nat.le_refl _) (show 1 ≤ maxLen by decide) (Row.nil _ _ _) hTW
  rw [show (⟨t9.ns, t9.root⟩ : Tr) = t9 from rfl, o9a, o9aE] at hO1
  have hO2 := fun F A c W hW hTW => ClOf_any F (fun _ => False) A c t9.ns t9.root pf0 none 0 none 0 W hW h1000 (fun h => absurd h (by decide)) (Nat.le_refl _) (Nat.zero_le _) (Row.nil _ _ _) hTW
  rw [show (⟨t9.ns, t9.root⟩ : Tr) = t9 from rfl, o9b, o9bE] at hO2
  dsimp only [List.length_nil] at hS1 hS2 hS3 hO1 hO2
  have hOw := own_any
  have hAl := hid (fun W hTW => alive9_any W hTW)
  obtain ⟨f0, hf0⟩ : ∃ f, pfC ownP = f := ⟨_, rfl⟩
  rw [hf0] at hS1 hS2 hS3 hO1 hOw
  clear hf0
  generalize t9.ns = ns at *
  generalize t9.root = root at *
  generalize (pfC p9n none 0 none 0).toArray = csN at *
  generalize (pfC p9b none 0 none 0).toArray = csB at *
  generalize (pfC pf0 none 0 none 0).toArray = cs0 at *
  generalize ((dfst 1).1.map bv).toArray = d1 at *
  generalize (z0.1.map bv).toArray = dz at *
  replace hS1 := hid hS1
  replace hS2 := hid hS2
  replace hS3 := hid hS3
  replace hO1 := hid hO1
  replace hO2 := hid hO2
  have H0 := hid hT
  have W0 := hid (Below.refl w.heap.size w)
  clear hT
  go_enter Tryd.func3, Tryd.ntmps3
  go_wp2_with fail
  refine (hOw _).mono ?_
  rintro e w1 ⟨ad1, rfl, hR, hb⟩
  have H1 := hid (H0.out.bel hb (Nat.lt_of_lt_of_le hlow.out W0.out.size))
  have W1 := hid (W0.out.trans (hb.mono W0.out.size))
  clear H0 W0
  have r1 := hid hR
  clear hb hR
  go_wp2_with fail
  refine (hOw _).mono ?_
  rintro e w2 ⟨ad2, rfl, hR, hb⟩
  have H2 := hid (H1.out.bel hb (Nat.lt_of_lt_of_le hlow.out W1.out.size))
  have W2 := hid (W1.out.trans (hb.mono W1.out.size))
  have r2 := hid (r1.out.bel hb)
  clear H1 W1 r1
  have s2 := hid hR
  clear hb hR
  go_wp2_with fail
  refine (hS1.out ad1 ad2 _ r2.out s2.out H2.out).mono ?_
  rintro e w3 ⟨zz1, zz2, zz3, zz4, rfl, t1, t2, hb⟩
  have H3 := hid (H2.out.bel hb (Nat.lt_of_lt_of_le hlow.out W2.out.size))
  have W3 := hid (W2.out.trans (hb.mono W2.out.size))
  have r3 := hid (r2.out.bel hb)
  have s3 := hid (s2.out.bel hb)
  clear H2 W2 r2 s2
  clear hb t1 t2 hS1
  clear r3
  clear s3
  go_wp2_with fail
  refine (hOw _).mono ?_
  rintro e w4 ⟨ad4, rfl, hR, hb⟩
  have H4 := hid (H3.out.bel hb (Nat.lt_of_lt_of_le hlow.out W3.out.size))
  have W4 := hid (W3.out.trans (hb.mono W3.out.size))
  clear H3 W3
  have r4 := hid hR
  clear hb hR
  go_wp2_with (first
    | ((with_reducible refine wpList_built ?_ 27 _ rfl d1 [(0, .int .u8 1)] ?_ ?_ ?_); rfl; exact hd1.out; rfl)
    | ((with_reducible refine wpList_built ?_ 30 _ rfl csN [(0, .agg d1)] ?_ ?_ ?_); rfl; exact bN.out; rfl))
  refine (hS2.out ad4 _ r4.out H4.out).mono ?_
  rintro e w5 ⟨zz5, zz6, zz7, zz8, rfl, t1, t2, hb⟩
  have H5 := hid (H4.out.bel hb (Nat.lt_of_lt_of_le hlow.out W4.out.size))
  have W5 := hid (W4.out.trans (hb.mono W4.out.size))
  have r5 := hid (r4.out.bel hb)
  clear H4 W4 r4
  clear hb t1 t2 hS2
  clear r5
  go_wp2_with fail
  refine (hOw _).mono ?_
  rintro e w6 ⟨ad6, rfl, hR, hb⟩
  have H6 := hid (H5.out.bel hb (Nat.lt_of_lt_of_le hlow.out W5.out.size))
  have W6 := hid (W5.out.trans (hb.mono W5.out.size))
  clear H5 W5
  have r6 := hid hR
  clear hb hR
  go_wp2_with (first
    | ((with_reducible refine wpList_built ?_ 30 _ rfl csB [(1, .int .u8 3)] ?_ ?_ ?_); rfl; exact bB.out; rfl))
  refine (hS3.out ad6 _ r6.out H6.out).mono ?_
  rintro e w7 ⟨zz9, zz10, zz11, zz12, rfl, t1, t2, hb⟩
  have H7 := hid (H6.out.bel hb (Nat.lt_of_lt_of_le hlow.out W6.out.size))
  have W7 := hid (W6.out.trans (hb.mono W6.out.size))
  have r7 := hid (r6.out.bel hb)
  clear H6 W6 r6
  clear hb t1 t2 hS3
  clear r7
  have kc := fun C n c => conv_lit w7 C n c
  go_wp2_with (first
    | ((with_reducible refine wpList_built ?_ 34 _ rfl zTrC [] ?_ ?_ ?_); rfl; exact hb0.out; rfl)
    | ((with_reducible refine wpList_built ?_ 27 _ rfl dz [] ?_ ?_ ?_); rfl; exact hz0.out; rfl))
  have hrd0 := Rd.litf w7 5 [97] #[.int .u8 97] w7.heap.size (1, 2) rfl rfl
  clear kc
  refine (hP.out _ (some ⟨w7.heap.size, 0, none⟩) hrd0).mono ?_
  rintro e w8 ⟨ad8, c8, rfl, ho, hb⟩
  have W8 := hid (W7.out.trans (((ext_alloc w7 _).trans (hb.mono (ext_alloc w7 _).size)).mono W7.out.size))
  have H8 := hid ((H7.out.bel (ext_alloc w7 _) (Nat.lt_of_lt_of_le hlow.out W7.out.size)).bel hb (Nat.lt_of_lt_of_le (Nat.lt_of_lt_of_le hlow.out W7.out.size) (ext_alloc w7 _).size))
  have o8 := hid (OwnR.row ho)
  clear hb ho hP hrd0 H7 W7
  have e8 := hid (heap_alloc_new w8 (.cells zTrC 34))
  have hiT := hid (show (Tryd.prog.info? 34).map (·.size) = some ([Value.slice ad8 ns.length c8, .int .i64 root]).length from sizeTr)
  go_wp2_with (first
    | (with_reducible refine wpList_alloc_row rfl 34 rfl zTrC zInfoTr ?_)
    | ((with_reducible refine wpList_store_row rfl 34 (.tmp 10) (.tmp 46) rfl _ _ rfl rfl 34 zTrC ?_ ?_ ?_ ?_ ?_); exact e8.out; exact sizeTr; rfl; exact one_trP ad8 ns.length c8 root; intro w9 hgS hbS hsS; have X9 := hid (xnewP rfl hbS); have lt9 := hid (block_lt hgS); have T9 := hid (BoxT.of (rangeOf (l := [Value.slice ad8 ns.length c8, .int .i64 root]) hgS)); clear hgS hbS hsS; have H9 := hid (H8.out.bel X9.out (Nat.lt_of_lt_of_le hlow.out W8.out.size)); have W9 := hid (W8.out.trans (X9.out.mono W8.out.size)); have o9 := hid (o8.out.bel X9.out); clear H8 W8 o8))
  have l9 := hid (Nat.lt_of_lt_of_le hlow.out W9.out.size)
  refine wp_region_noPanic ?_
  refine wp_region_held_drew (S := fun w' => Below w9.heap.size w9 w') (by kernel_rfl) ?_ (fun hHeld => ?_)
  · exact bel_drew w9
  refine' wpAnyH_take (i := 0) (oi := _) (v := _) rfl (by kernel_rfl) (by kernel_rfl) (by kernel_rfl) (fun _ _ _ h => h) (yieldsIf_load_mid (by rfl) _ _ rfl _ _ rfl _ _ (fun _ h => rangeBel2 h T9.out.all) hut rfl hiT.out) (by assumption) ?_
  try simp only [Act.put, sQa, sQb, sQc, gQa, gQb, gQc]
  refine wpAnyH_ready (rs := [1]) (by kernel_rfl) (by simp) ?_
  refine AllReadyH.cons (o := _) rfl (fun K hK => ?_) AllReadyH.nil
  go_simp
  refine (hOw _).mono ?_
  rintro e v1 ⟨Av, rfl, hRv, hB⟩
  have rv := hid hRv
  clear hRv
  go_wp2_with fail
  refine hK.out _ _ ?_ (fun hHeld => ?_)
  · exact hHeld.trans (hB.mono hHeld.size)
  clear hK K
  try simp only [Act.put, sQa, sQb, sQc, gQa, gQb, gQc]
  refine wpAnyH_ready (rs := [2]) (by kernel_rfl) (by simp) ?_
  refine AllReadyH.cons (o := _) rfl (fun K hK => ?_) AllReadyH.nil
  go_simp
  refine (hO1.out _ ad8 c8 _ _ (o9.out.bel hHeld) rv.out (H9.out.bel hHeld l9.out)).mono ?_
  rintro e v2 ⟨zz13, zz14, zz15, zz16, rfl, t1, t2, hB⟩
  clear t1 t2
  go_wp2_with fail
  refine hK.out _ _ ?_ (fun hHeld => ?_)
  · exact hHeld.trans (hB.mono hHeld.size)
  clear hK K
  try simp only [Act.put, sQa, sQb, sQc, gQa, gQb, gQc]
  refine' wpAnyH_take (i := 3) (oi := _) (v := ?_) rfl (by kernel_rfl) (by kernel_rfl) (by kernel_rfl) (fun _ _ _ h => h) (Or.inl ⟨by rfl, ?_⟩) (by assumption) ?_
  rotate_left
  · intro W hSw
    go_simp
    first | done | (with_reducible rfl)
  try simp only [Act.put, sQa, sQb, sQc, gQa, gQb, gQc]
  refine' wpAnyH_take (i := 4) (oi := _) (v := ?_) rfl (by kernel_rfl) (by kernel_rfl) (by kernel_rfl) (fun _ _ _ h => h) (Or.inl ⟨by rfl, ?_⟩) (by assumption) ?_
  rotate_left
  · intro W hSw
    go_simp
    first | done | (with_reducible rfl)
  try simp only [Act.put, sQa, sQb, sQc, gQa, gQb, gQc]
  refine' wpAnyH_take (i := 5) (oi := _) (v := ?_) rfl (by kernel_rfl) (by kernel_rfl) (by kernel_rfl) (fun _ _ _ h => h) (Or.inl ⟨by rfl, ?_⟩) (by assumption) ?_
  rotate_left
  · intro W hSw
    go_simp
    first | done | (with_reducible rfl)
  try simp only [Act.put, sQa, sQb, sQc, gQa, gQb, gQc]
  refine' wpAnyH_take (i := 6) (oi := _) (v := ?_) rfl (by kernel_rfl) (by kernel_rfl) (by kernel_rfl) (fun _ _ _ h => h) (Or.inl ⟨by rfl, ?_⟩) (by assumption) ?_
  rotate_left
  · intro W hSw
    go_simp
    first | done | (with_reducible rfl)
  try simp only [Act.put, sQa, sQb, sQc, gQa, gQb, gQc]
  refine' wpAnyH_take (i := 7) (oi := _) (v := ?_) rfl (by kernel_rfl) (by kernel_rfl) (by kernel_rfl) (fun _ _ _ h => h) (Or.inl ⟨by rfl, ?_⟩) (by assumption) ?_
  rotate_left
  · intro W hSw
    go_simp
    first | done | (with_reducible rfl)
  try simp only [Act.put, sQa, sQb, sQc, gQa, gQb, gQc]
  refine' wpAnyH_take (i := 8) (oi := _) (v := ?_) rfl (by kernel_rfl) (by kernel_rfl) (by kernel_rfl) (fun _ _ _ h => h) (Or.inl ⟨by rfl, ?_⟩) (by assumption) ?_
  rotate_left
  · intro W hSw
    go_simp
    first | done | (with_reducible rfl)
  try simp only [Act.put, sQa, sQb, sQc, gQa, gQb, gQc]
  refine' wpAnyH_take (i := 9) (oi := _) (v := ?_) rfl (by kernel_rfl) (by kernel_rfl) (by kernel_rfl) (fun _ _ _ h => h) (Or.inl ⟨by rfl, ?_⟩) (by assumption) ?_
  rotate_left
  · intro W hSw
    go_simp
    first | done | (with_reducible rfl)
  try simp only [Act.put, sQa, sQb, sQc, gQa, gQb, gQc]
  refine wpAnyH_done (by kernel_rfl) ?_ _
  refine NoPanic.normal ?_
  have H10 := hid (H9.out.bel hHeld (Nat.lt_of_lt_of_le hlow.out W9.out.size))
  have W10 := hid (W9.out.trans (hHeld.mono W9.out.size))
  have o10 := hid (o9.out.bel hHeld)
  have T10 := hid (T9.out.bel hHeld)
  clear H9 W9 o9 T9
  clear hHeld
  go_wp2_with (first
    | ((with_reducible refine wpList_load_rng ?_ 34 (.tmp 10) rfl w8.heap.size 0 rfl [Value.slice ad8 ns.length c8, .int .i64 root] _ ?_ hut rfl hiT.out ?_); rfl; exact T10.out.all)
    | ((with_reducible refine wpList_built ?_ 30 _ rfl cs0 [] ?_ ?_ ?_); rfl; exact b0.out; rfl))
  refine (hO2.out _ ad8 c8 _ o10.out H10.out).mono ?_
  rintro e w11 ⟨zz17, zz18, zz19, zz20, rfl, t1, t2, hb⟩
  have H11 := hid (H10.out.bel hb (Nat.lt_of_lt_of_le hlow.out W10.out.size))
  have W11 := hid (W10.out.trans (hb.mono W10.out.size))
  have o11 := hid (o10.out.bel hb)
  have T11 := hid (T10.out.bel hb)
  clear H10 W10 o10 T10
  clear hb t1 t2 hO2
  go_wp2_with fail
  refine (hAl.out _ H11.out).mono ?_
  rintro e w12 ⟨rfl, hb⟩
  have H12 := hid (H11.out.bel hb (Nat.lt_of_lt_of_le hlow.out W11.out.size))
  have W12 := hid (W11.out.trans (hb.mono W11.out.size))
  have o12 := hid (o11.out.bel hb)
  have T12 := hid (T11.out.bel hb)
  clear H11 W11 o11 T11
  clear hb 
  go_wp2
  go_ret
  exact ⟨rfl, W12.out⟩

/-! ### WHAT THE WALK GIVES, FOR EVERY ARGUMENT AND EVERY WORLD THAT HOLDS THE TABLE -/
set_option maxRecDepth 100000 in
theorem contract (H : Type) (enc : TypeId × Value → H) (W : World) (base : Nat) (args : Array Value) (ds gs : List (DataW H)) (before : List MemPlace)
    (hval0 : ∀ (j : Nat) t v, Tryd.f3.params[j]? = some t → args[j]? = some v → Value.okWide Tryd.prog W .any base t v)
    (hW : DataW.Whole enc Tryd.prog Tryd.f3.params.toList Rows.clashNamesSpec.vars false W args.toList ds gs before) (hL : laidMetH Tryd.prog Rows.clashNamesRow.laid W) :
    Calls Tryd.prog 3 args W fun e W' => ∃ v, e = .returned v ∧ Rows.clashNamesSpec.post enc Tryd.prog Tryd.f3 false true false false W args v W' := by
  have hval : ∀ (j : Nat) t v, Tryd.f3.params[j]? = some t → args[j]? = some v → Value.okWide Tryd.prog W .any base t v := hval0
  have hW' := hW
  obtain ⟨p, q, hA0, hV, rfl, hfz, hnd⟩ := hW
  have hA : DataW.TrodAll enc Tryd.prog W 0 (fun _ => true) true Tryd.f3.params.toList args.toList ds p := hA0
  rw [Tryd.params3] at hA hval
  obtain ⟨rfl, rfl, rfl⟩ := trodAll_none hA
  obtain ⟨rfl, rfl⟩ := trodVars_none hV
  clear hA0 hval0
  refine (walk  W (tab_of hL)).mono fun e W' ⟨he, bel⟩ => ?_
  subst he
  exact ⟨_, rfl, _, _, _, [], _, [], hW', trodAll_mk1 (shut_bool Tryd.underlying4 _), trodAll_mk0, rfl, bel.frame _, fun h => by cases h⟩

theorem laid_met (os : Os) : laidMet Tryd.prog Rows.clashNamesRow.laid ((laidWorld os).forCall (fun _ _ => 0) ⟨#[], #[], []⟩).memory :=
  laidMet_of_run' 8 (by kernel_rfl) (by kernel_rfl)
theorem reads (os : Os) {H : Type} (enc : TypeId × Value → H) : ∃ places, DataW.whole enc Tryd.prog ((laidWorld os).forCall (fun _ _ => 0) ⟨#[], #[], []⟩).memory Tryd.f3.params.toList Rows.clashNamesSpec.vars false (#[] : Array Value).toList 8 = some ([], [], places) :=
  ⟨[], by kernel_rfl⟩
set_option maxRecDepth 100000 in
theorem lifted (os : Os) (started : os.Started) (H : Type) (enc : TypeId × Value → H) (F : Stop.Interp) :
    ReturnsInHanded {} Tryd.checked os 3 .any ((OpenSpec.ofChange Rows.clashNamesSpec).preRow enc Tryd.prog Tryd.f3 Rows.clashNamesRow.domain false Rows.clashNamesRow.laid) (((OpenSpec.ofChange Rows.clashNamesSpec).at F).post enc Tryd.prog Tryd.f3 false true false false) := by
  obtain ⟨places, hx⟩ := reads os enc
  refine returnsInHanded_of_row (C := Tryd.checked) (s := OpenSpec.ofChange Rows.clashNamesSpec) own started (by kernel_rfl) Tryd.func3
    (witness_row_at (enc := enc) (C := Tryd.checked) false (laidWorld os) #[] rfl (by kernel_rfl) (by kernel_rfl) (by kernel_rfl)
      (OpenSpec.preRow_of_cond 8 hx (by kernel_rfl) (fun k hk => by cases hk) (by kernel_rfl) (laid_met os))) ?_
  intro W base args ds gs before hval hW _ _ _ hL _ _
  exact contract H enc W base args ds gs before hval hW hL
theorem said : Rows.ClashNamesSaid :=
  OpenClaim.holds_of_cond 3 Tryd.f3 rfl rfl rfl rfl rfl rfl rfl ⟨rfl, rfl, rfl, rfl, rfl⟩ rfl rfl rfl rfl rfl (by kernel_rfl) Tryd.func3 (by kernel_rfl)
    (of_decide_eq_true (by kernel_rfl)) (by unfold Func.isWrapper; first | (rw [if_pos (by decide +kernel)]; kernel_rfl) | (rw [if_neg (by decide +kernel)]; exact ⟨rfl, rfl⟩))
    (fun os started H enc _ F => by rw [OpenClaim.pre_eq_preRow]; exact lifted os started H enc F)
set_option maxRecDepth 100000 in
/-- No parameter wants a stand-in; the program's own looks are off: what the card asks. -/
theorem plain (f : FuncId) (fn : Func) (hf : Tryd.pinned.checked.prog.funcNamed "beadroll/beadrolllaw09.ClashNames" = some f) (hfn : Tryd.pinned.checked.prog.funcs[f]? = some fn) :
    false = Tryd.pinned.checked.prog.looks [] ∧ ∀ (j : Nat) t, fn.params[j]? = some t → Tryd.pinned.checked.prog.wantsStandIn t = false := by
  obtain rfl : f = 3 := Option.some.inj ((show Tryd.prog.funcNamed "beadroll/beadrolllaw09.ClashNames" = some 3 by kernel_rfl).symm.trans hf) |>.symm
  obtain rfl : fn = Tryd.f3 := (Option.some.inj (Tryd.func3.symm.trans hfn)).symm
  refine ⟨by kernel_rfl, fun j t ht => ?_⟩
  rw [Tryd.params3] at ht
  simp at ht
set_option maxRecDepth 100000 in
/-- ████ THE CARD ████ -/
theorem proved : Rows.ClashNamesCardSaid :=
  Claim7.holds_tied_plain_at .later [] _ _ _ _ said (fun _ h => by cases h) (by kernel_rfl) (fun _ h => by cases h) clashNames_row_tie rfl ⟨rfl, rfl⟩ (by kernel_rfl) rfl plain (by kernel_rfl)
#print axioms proved
end Go.Proofs.YtapnhdpgogfceaaDoor.clashNames
