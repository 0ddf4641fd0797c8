/-
  The Go function VerifyNames returns true: the chapter's examples.
  Conditions: none. The frame around the walk was written by program (proof-skeleton.mjs).
-/
import Derived.Test.YtfjkcdccnbggnaaDoorRows
import Derived.Test.YtfjkcdccnbggnaaDoorDoor
import Derived.WalkKit
import Derived.ProofKit
import Derived.OpenShut
import Derived.ShutString
import Derived.ChangeOld
import Derived.Below
import Derived.Test.YtfjkcdccnbggnaaDoorVfNm
namespace Go.Proofs.YtfjkcdccnbggnaaDoor.verifyNames
open Go.ChangeShapes Go.WideShapes Go.ChangeAt Go.RowKit
open Go.ChangeMaps (open_string shut_string)
set_option linter.unusedVariables false      -- a walk need not use every 'w<i>' (that an integer argument fits its kind)

theorem own : ownKnob Tryd.prog.godebug = none := by kernel_rfl

/-! ### the walk -/
open Go.Proofs.YtfjkcdccnbggnaaDoor
set_option linter.unusedSimpArgs false
set_option maxRecDepth 100000 in
set_option maxHeartbeats 8000000 in
theorem walk  (w : World) (hT : Tab w) :
    Calls Tryd.prog 9 #[] w fun e w' => e = .returned (.bool true) ∧ Below w.heap.size w w' := by
  have hu := Tryd.underlying23
  have hup := Tryd.underlying61
  have hsl := run_all32P
  have hlow := hid hT.low
  have hd0 := hid built_dg0
  have hd3 := hid (built_dg1 3)
  have hd200 := hid (built_dg1 200)
  have hi3 := hid (sizeDgR (dfst 3))
  have hi200 := hid (sizeDgR (dfst 200))
  have hiS := hid (sizeDgR dS)
  have hiX := hid (sizeDgR (rootM vA))
  have hiY := hid (sizeDgR (rootM vB))
  have hlS := hid (show (dS.1.map bv).length = Enc.size Dg by rw [List.length_map, dS.2]; rfl)
  have hO9 : Hid (∀ W, Tab W → Calls Tryd.prog 15 #[.int .u8 9, .slice none 0 0] W fun r w' => r = .returned (.agg (dS.1.map bv).toArray) ∧ Below W.heap.size W w') := hid (fun W hTW => TOf_any 9 none 0 0 [] W (fun hn => absurd hn (by simp)) rfl (by decide) (by decide) hTW)
  have hOx : Hid (∀ W A, Rds W A [(dL 3 97).1, dS.1] → Tab W → Calls Tryd.prog 15 #[.int .u8 2, .slice A 2 2] W fun r w' => r = .returned (.agg ((rootM vA).1.map bv).toArray) ∧ Below W.heap.size W w') := hid (fun W A hW hTW => by
    have h := TOf_any 2 A 2 2 [(dL 3 97).1, dS.1] W hW rfl (by simp) (tag2_leP 2 (by rw [(dL 3 97).2]; decide) (by rw [dS.2]; decide)) hTW
    rw [← vA_root] at h
    exact h)
  have hOy : Hid (∀ W A, Rds W A [dS.1, (dL 200 97).1] → Tab W → Calls Tryd.prog 15 #[.int .u8 2, .slice A 2 2] W fun r w' => r = .returned (.agg ((rootM vB).1.map bv).toArray) ∧ Below W.heap.size W w') := hid (fun W A hW hTW => by
    have h := TOf_any 2 A 2 2 [dS.1, (dL 200 97).1] W hW rfl (by simp) (tag2_leP 2 (by rw [dS.2]; decide) (by rw [(dL 200 97).2]; decide)) hTW
    rw [← vB_root] at h
    exact h)
  have hRA := fun A c D d F W h1 h2 h3 h4 hTW => VfRoot_any vA A c D d F true W vA_may h1 h2 h3 h4 hTW
  have hRB := fun A c D d F W h1 h2 h3 h4 hTW => VfRoot_any vB A c D d F true W vB_may h1 h2 h3 h4 hTW
  have hRC := fun W hTW => VfRoot_any vC none 0 none 0 (fun _ => False) false W vC_may (fun hn => absurd hn (by decide)) (Nat.le_refl _) (Nat.zero_le _) (Row.nil _ _ _) hTW
  have hFC := fun W hTW => VfFits_is vC none 0 none 0 z0 (fun _ => False) false W vC_fits (fun hn => absurd hn (by decide)) (Nat.le_refl _) (Nat.zero_le _) (Row.nil _ _ _) hTW
  simp only [if_true, Bool.false_eq_true, if_false] at hRA hRB hRC
  have bA := hid (fun A c D d => show Tryd.prog.built 61 [(0, .agg ((dfst 3).1.map bv).toArray), (1, .int .u8 1), (3, .slice A 1 c), (4, .slice D 1 d)] = some (pfC vA A c D d).toArray from built_pf4v (dfst 3) 1 [97] A c [dS] D d)
  have bB := hid (fun A c D d => show Tryd.prog.built 61 [(0, .agg ((dfst 200).1.map bv).toArray), (1, .int .u8 1), (3, .slice A 1 c), (4, .slice D 1 d)] = some (pfC vB A c D d).toArray from built_pf4v (dfst 200) 1 [97] A c [dS] D d)
  have bC := hid built_vC
  have hEx : ∀ W, (Op.equalIn 10000 23 (.agg ((rootM vA).1.map bv).toArray) (.agg ((rootM vA).1.map bv).toArray)).run Tryd.prog W = .ok true W := fun W => eqd_is (rootM vA) (rootM vA) true (by simp) W
  have hEy : ∀ W, (Op.equalIn 10000 23 (.agg ((rootM vB).1.map bv).toArray) (.agg ((rootM vB).1.map bv).toArray)).run Tryd.prog W = .ok true W := fun W => eqd_is (rootM vB) (rootM vB) true (by simp) W
  have hAl := hid (fun W hTW => alive8_any W hTW)
  have hrS := hid (fun (W : World) => (show Enc.rep (fun _ => False) W dS (dS.1.map bv) from rfl))
  have ha : (w.alloc (.cells z32 23)).heap[w.heap.size]? = some (.cells z32 23) := heap_alloc_new w _
  have hb2 : ((w.alloc (.cells z32 23)).alloc (.cells z32 23)).heap[w.heap.size + 1]? = some (.cells z32 23) := by
    have := heap_alloc_new (w.alloc (.cells z32 23)) (.cells z32 23)
    rwa [World.size_alloc] at this
  have ha2 := hid (((ext_alloc (w.alloc (.cells z32 23)) (.cells z32 23)).block _ (block_lt ha)).trans ha)
  have hW2 := hid ((ext_alloc w (.cells z32 23)).trans ((ext_alloc (w.alloc (.cells z32 23)) (.cells z32 23)).mono (ext_alloc w (.cells z32 23)).size))
  replace hb2 := hid hb2
  clear ha
  replace hRA := hid hRA
  replace hRB := hid hRB
  replace hRC := hid hRC
  replace hFC := hid hFC
  have H0 := hid hT
  clear hT
  generalize hdk3 : (dfst 3).1.map bv = d3 at *
  generalize hdk200 : (dfst 200).1.map bv = d200 at *
  replace hdk3 := hid hdk3
  replace hdk200 := hid hdk200
  have o3 := hid (show (d3.toArray : Array Value).all (·.oneCell') = true from by rw [← hdk3.out]; exact oneDgB (dfst 3))
  have o200 := hid (show (d200.toArray : Array Value).all (·.oneCell') = true from by rw [← hdk200.out]; exact oneDgB (dfst 200))
  have q3 := hid (show (Tryd.prog.info? 23).map (·.size) = some d3.toArray.size from by rw [← hdk3.out]; exact sizeDgB (dfst 3))
  have q200 := hid (show (Tryd.prog.info? 23).map (·.size) = some d200.toArray.size from by rw [← hdk200.out]; exact sizeDgB (dfst 200))
  have z3 := hid (show z32.size = d3.toArray.size from by rw [← hdk3.out]; exact zDgB (dfst 3))
  have z200 := hid (show z32.size = d200.toArray.size from by rw [← hdk200.out]; exact zDgB (dfst 200))
  go_enter Tryd.func9, Tryd.ntmps9
  go_wp2_with (first
    | ((with_reducible refine wpList_built rfl 23 _ rfl d3.toArray [(0, .int .u8 3)] ?_ ?_ ?_); exact hd3.out; rfl)
    | ((with_reducible refine wpList_built rfl 23 _ rfl d200.toArray [(0, .int .u8 200)] ?_ ?_ ?_); exact hd200.out; rfl)
    | (with_reducible refine wpList_alloc_row rfl 23 rfl z32 info32 ?_)
    | ((with_reducible refine wpList_store_row rfl 23 (.tmp 1) (.tmp 12) rfl _ _ rfl rfl 23 z32 ?_ ?_ ?_ ?_ ?_); exact ha2.out; exact q3.out; exact z3.out; exact o3.out; intro w1 g1 b1 s1; refine wpList_store_row rfl 23 (.tmp 2) (.tmp 13) rfl _ _ rfl rfl 23 z32 ?_ ?_ ?_ ?_ ?_; (first | exact (b1.block _ (block_lt hb2.out) (by simp)).trans hb2.out | (simp only [World.size_alloc]; exact (b1.block _ (block_lt hb2.out) (by simp)).trans hb2.out)); exact q200.out; exact z200.out; exact o200.out; intro w2 g2 b2 s2; try simp only [World.size_alloc] at g2 b2; have W1 := hW2.out.grown b1 hW2.out.size (fun k e => by injection e with e; omega); have W2 := hid (W1.grown b2 W1.size (fun k e => by injection e with e; omega)); have K2 := hid (rangeOf (l := d3) ((b2.block _ (block_lt g1) (by simp)).trans g1)); have J2 := hid (rangeOf (l := d200) g2); have H2 := hid (H0.out.bel W2.out hlow.out); clear g1 b1 s1 g2 b2 s2 W1 ha2 hb2 hW2 H0))
  refine (hO9.out _ H2.out).mono ?_
  rintro e w3 ⟨rfl, hb⟩
  have H3 := hid (H2.out.bel hb (Nat.lt_of_lt_of_le hlow.out W2.out.size))
  have W3 := hid (W2.out.trans (hb.mono W2.out.size))
  have K3 := hid (rangeBel2 hb K2.out)
  have J3 := hid (rangeBel2 hb J2.out)
  clear H2 W2 K2 J2
  clear hb hO9
  have e3 := hid (heap_alloc_new w3 (.cells z32 23))
  go_wp2_with (first
    | (with_reducible refine wpList_alloc_row rfl 23 rfl z32 info32 ?_)
    | ((with_reducible refine wpList_store_row rfl 23 (.tmp 3) (.tmp 14) rfl _ _ rfl rfl 23 z32 ?_ ?_ ?_ ?_ ?_); exact e3.out; exact sizeDgB dS; exact zDgB dS; exact oneDgB dS; intro w4 hgS hbS hsS; have X4 := hid (xnewB rfl hbS); have S4 := hid (rangeOf (l := dS.1.map bv) hgS); clear hgS hbS hsS; have H4 := hid (H3.out.bel X4.out (Nat.lt_of_lt_of_le hlow.out W3.out.size)); have W4 := hid (W3.out.trans (X4.out.mono W3.out.size)); have K4 := hid (rangeBel2 X4.out K3.out); have J4 := hid (rangeBel2 X4.out J3.out); clear H3 W3 K3 J3))
  have kr3 := rd_keyP (k := dfst 3) (by rw [hdk3.out]; exact K4.out)
  have kr200 := rd_keyP (k := dfst 200) (by rw [hdk200.out]; exact J4.out)
  refine wp_region_noPanic ?_
  refine wp_region_held_drew (S := fun _ => True) (by kernel_rfl) trivial (fun _ => ?_)
  refine' wpAnyH_take (i := 0) (oi := _) (v := ?_) rfl (by kernel_rfl) (by kernel_rfl) (by kernel_rfl) (fun _ _ _ h => h) (Or.inl ⟨by rfl, ?_⟩) trivial ?_
  rotate_left
  · intro W hSw
    go_simp
    first | done | (with_reducible rfl)
  try simp only [Act.put, sQa, sQb, sQc, gQa, gQb, gQc]
  refine' wpAnyH_take (i := 5) (oi := _) (v := ?_) rfl (by kernel_rfl) (by kernel_rfl) (by kernel_rfl) (fun _ _ _ h => h) (Or.inl ⟨by rfl, ?_⟩) trivial ?_
  rotate_left
  · intro W hSw
    go_simp
    first | done | (with_reducible rfl)
  try simp only [Act.put, sQa, sQb, sQc, gQa, gQb, gQc]
  refine two_all (s0 := 15) (s5 := 20) (s1 := 16) (s2 := 17) (s3 := 18) (s4 := 19) (s6 := 21) (s7 := 22) (s8 := 23) (s9 := 24) (s10 := 4) (s11 := 5) (cA := 97) (cB := 97) (hf := rfl) (hl := rfl) (hS := ?_) (dfst 3) (dfst 200) w.heap.size (w.heap.size + 1) (hsz := ?_) rfl rfl kr3 kr200 H4.out ?_
  · exact ⟨⟨_, rfl, rfl, rfl, rfl⟩, ⟨_, rfl, rfl, rfl, rfl⟩, ⟨_, rfl, rfl, rfl, rfl⟩, ⟨_, rfl, rfl, rfl, _, rfl⟩, ⟨_, rfl, rfl, rfl, rfl⟩, ⟨_, rfl, rfl, rfl, rfl⟩, ⟨_, rfl, rfl, rfl, rfl⟩, ⟨_, rfl, rfl, rfl, _, rfl⟩, ⟨_, rfl, rfl, rfl, rfl⟩, ⟨_, rfl, rfl, rfl, rfl⟩, ⟨_, rfl, rfl, rfl, rfl⟩, ⟨_, rfl, rfl, rfl, rfl⟩, by decide +kernel, by kernel_rfl, by decide, by decide, by decide⟩
  · intro s hs
    show s < 87
    revert s
    decide
  intro u1 u2 u3 u4 u6 u7 u8 u9 w5 g h hb hg hh hne f4 f5
  refine NoPanic.normal ?_
  try simp only [Act.put, sQa, sQb, sQc, gQa, gQb, gQc]
  have hb2 : Below w4.heap.size w4 w5 := undrew hb
  clear kr3 kr200
  have H5 := hid (H4.out.bel hb2 (Nat.lt_of_lt_of_le hlow.out W4.out.size))
  have W5 := hid (W4.out.trans (hb2.mono W4.out.size))
  have K5 := hid (rangeBel2 hb2 K4.out)
  have J5 := hid (rangeBel2 hb2 J4.out)
  have S5 := hid (rangeBel2 hb2 S4.out)
  clear H4 W4 K4 J4 S4
  have L5 := hid (show w5.rangeAt g 0 ((dL 3 97).1.map bv) from rangeOf f4)
  have M5 := hid (show w5.rangeAt h 0 ((dL 200 97).1.map bv) from rangeOf f5)
  clear hb hb2 hg hh hne f4 f5
  have kc := fun C n c => conv_lit w5 C n c
  go_wp2_with (first
    | ((with_reducible refine wpList_load_rng rfl 23 (.tmp 1) rfl w.heap.size 0 rfl d3 _ ?_ hu rfl hi3.out ?_); exact K5.out)
    | ((with_reducible refine wpList_load_rng rfl 23 (.tmp 3) rfl w3.heap.size 0 rfl (dS.1.map bv) _ ?_ hu rfl hiS.out ?_); exact (rangeBel2 (ext_alloc w5 (.cells #[.int .u8 97] 5 (1, 2))) S5.out))
    | ((with_reducible refine wpList_buildOne slotDg (by decide) rfl (.tmp 29) rfl (dS.1.map bv) ?_ ?_ ?_); rfl; exact hlS.out)
    | ((with_reducible refine wpList_built rfl 61 _ rfl (pfC vA (some ⟨w5.heap.size, 0, none⟩) 1 (some ⟨(w5.alloc (.cells #[.int .u8 97] 5 (1, 2))).heap.size, 0, none⟩) 1).toArray [(0, .agg d3.toArray), (1, .int .u8 1), (3, .slice (some ⟨w5.heap.size, 0, none⟩) 1 1), (4, .slice (some ⟨(w5.alloc (.cells #[.int .u8 97] 5 (1, 2))).heap.size, 0, none⟩) 1 1)] ?_ ?_ ?_); exact bA.out _ _ _ _; rfl)
    | ((with_reducible refine wpList_built rfl 61 _ rfl (pfC vA (some ⟨w5.heap.size, 0, none⟩) 1 (some ⟨w5.heap.size + 1, 0, none⟩) 1).toArray [(0, .agg d3.toArray), (1, .int .u8 1), (3, .slice (some ⟨w5.heap.size, 0, none⟩) 1 1), (4, .slice (some ⟨w5.heap.size + 1, 0, none⟩) 1 1)] ?_ ?_ ?_); exact bA.out _ _ _ _; rfl))
  have BL := ext_alloc w5 (.cells #[.int .u8 97] 5 (1, 2))
  have LR := hid (Rd.litf w5 5 [97] #[.int .u8 97] w5.heap.size (1, 2) rfl rfl)
  have BS := ext_alloc (w5.alloc (.cells #[.int .u8 97] 5 (1, 2))) (.cells (dS.1.map bv).toArray 23)
  have Y := ext_trans BL BS
  have RS := row_heapV (F := fun _ => False) (hrS.out ((w5.alloc (.cells #[.int .u8 97] 5 (1, 2))).alloc (.cells (dS.1.map bv).toArray 23))) (heap_alloc_new (w5.alloc (.cells #[.int .u8 97] 5 (1, 2))) (.cells (dS.1.map bv).toArray 23))
  try rw [World.size_alloc] at RS
  have H6 := hid (H5.out.bel Y (Nat.lt_of_lt_of_le hlow.out W5.out.size))
  have W6 := hid (W5.out.trans (Y.mono W5.out.size))
  have K6 := hid (rangeBel2 Y K5.out)
  have J6 := hid (rangeBel2 Y J5.out)
  have S6 := hid (rangeBel2 Y S5.out)
  have L6 := hid (rangeBel2 Y L5.out)
  have M6 := hid (rangeBel2 Y M5.out)
  clear H5 W5 K5 J5 S5 L5 M5
  clear kc
  refine (hRA.out (some ⟨w5.heap.size, 0, none⟩) 1 (some ⟨w5.heap.size + 1, 0, none⟩) 1 _ _ (LR.out.bel BS) (by decide) (by decide) RS H6.out).mono ?_
  rintro e w7 ⟨rfl, hb⟩
  have H7 := hid (H6.out.bel hb (Nat.lt_of_lt_of_le hlow.out W6.out.size))
  have W7 := hid (W6.out.trans (hb.mono W6.out.size))
  have K7 := hid (rangeBel2 hb K6.out)
  have J7 := hid (rangeBel2 hb J6.out)
  have S7 := hid (rangeBel2 hb S6.out)
  have L7 := hid (rangeBel2 hb L6.out)
  have M7 := hid (rangeBel2 hb M6.out)
  clear H6 W6 K6 J6 S6 L6 M6
  clear hb Y BL BS RS LR
  have e7 := hid (heap_alloc_new w7 (.cells z32 23))
  go_wp2_with (first
    | (with_reducible refine wpList_alloc_row rfl 23 rfl z32 info32 ?_)
    | ((with_reducible refine wpList_store_row rfl 23 (.tmp 6) (.tmp 33) rfl _ _ rfl rfl 23 z32 ?_ ?_ ?_ ?_ ?_); exact e7.out; exact sizeDgB (rootM vA); exact zDgB (rootM vA); exact oneDgB (rootM vA); intro w8 hgS hbS hsS; have X8 := hid (xnewB rfl hbS); have x8 := hid (rangeOf (l := (rootM vA).1.map bv) hgS); have kc := fun C n c => conv_lit w8 C n c; clear hgS hbS hsS; have H8 := hid (H7.out.bel X8.out (Nat.lt_of_lt_of_le hlow.out W7.out.size)); have W8 := hid (W7.out.trans (X8.out.mono W7.out.size)); have K8 := hid (rangeBel2 X8.out K7.out); have J8 := hid (rangeBel2 X8.out J7.out); have S8 := hid (rangeBel2 X8.out S7.out); have L8 := hid (rangeBel2 X8.out L7.out); have M8 := hid (rangeBel2 X8.out M7.out); clear H7 W7 K7 J7 S7 L7 M7)
    | ((with_reducible refine wpList_load_rng rfl 23 (.tmp 2) rfl (w.heap.size + 1) 0 rfl d200 _ ?_ hu rfl hi200.out ?_); exact J8.out)
    | ((with_reducible refine wpList_load_rng rfl 23 (.tmp 3) rfl w3.heap.size 0 rfl (dS.1.map bv) _ ?_ hu rfl hiS.out ?_); exact (rangeBel2 (ext_alloc w8 (.cells #[.int .u8 97] 5 (1, 2))) S8.out))
    | ((with_reducible refine wpList_buildOne slotDg (by decide) rfl (.tmp 39) rfl (dS.1.map bv) ?_ ?_ ?_); rfl; exact hlS.out)
    | ((with_reducible refine wpList_built rfl 61 _ rfl (pfC vB (some ⟨w8.heap.size, 0, none⟩) 1 (some ⟨(w8.alloc (.cells #[.int .u8 97] 5 (1, 2))).heap.size, 0, none⟩) 1).toArray [(0, .agg d200.toArray), (1, .int .u8 1), (3, .slice (some ⟨w8.heap.size, 0, none⟩) 1 1), (4, .slice (some ⟨(w8.alloc (.cells #[.int .u8 97] 5 (1, 2))).heap.size, 0, none⟩) 1 1)] ?_ ?_ ?_); exact bB.out _ _ _ _; rfl)
    | ((with_reducible refine wpList_built rfl 61 _ rfl (pfC vB (some ⟨w8.heap.size, 0, none⟩) 1 (some ⟨w8.heap.size + 1, 0, none⟩) 1).toArray [(0, .agg d200.toArray), (1, .int .u8 1), (3, .slice (some ⟨w8.heap.size, 0, none⟩) 1 1), (4, .slice (some ⟨w8.heap.size + 1, 0, none⟩) 1 1)] ?_ ?_ ?_); exact bB.out _ _ _ _; rfl))
  have BL := ext_alloc w8 (.cells #[.int .u8 97] 5 (1, 2))
  have LR := hid (Rd.litf w8 5 [97] #[.int .u8 97] w8.heap.size (1, 2) rfl rfl)
  have BS := ext_alloc (w8.alloc (.cells #[.int .u8 97] 5 (1, 2))) (.cells (dS.1.map bv).toArray 23)
  have Y := ext_trans BL BS
  have RS := row_heapV (F := fun _ => False) (hrS.out ((w8.alloc (.cells #[.int .u8 97] 5 (1, 2))).alloc (.cells (dS.1.map bv).toArray 23))) (heap_alloc_new (w8.alloc (.cells #[.int .u8 97] 5 (1, 2))) (.cells (dS.1.map bv).toArray 23))
  try rw [World.size_alloc] at RS
  have H9 := hid (H8.out.bel Y (Nat.lt_of_lt_of_le hlow.out W8.out.size))
  have W9 := hid (W8.out.trans (Y.mono W8.out.size))
  have K9 := hid (rangeBel2 Y K8.out)
  have J9 := hid (rangeBel2 Y J8.out)
  have S9 := hid (rangeBel2 Y S8.out)
  have L9 := hid (rangeBel2 Y L8.out)
  have M9 := hid (rangeBel2 Y M8.out)
  have x9 := hid (rangeBel2 Y x8.out)
  clear H8 W8 K8 J8 S8 L8 M8 x8
  clear kc
  refine (hRB.out (some ⟨w8.heap.size, 0, none⟩) 1 (some ⟨w8.heap.size + 1, 0, none⟩) 1 _ _ (LR.out.bel BS) (by decide) (by decide) RS H9.out).mono ?_
  rintro e w10 ⟨rfl, hb⟩
  have H10 := hid (H9.out.bel hb (Nat.lt_of_lt_of_le hlow.out W9.out.size))
  have W10 := hid (W9.out.trans (hb.mono W9.out.size))
  have K10 := hid (rangeBel2 hb K9.out)
  have J10 := hid (rangeBel2 hb J9.out)
  have S10 := hid (rangeBel2 hb S9.out)
  have L10 := hid (rangeBel2 hb L9.out)
  have M10 := hid (rangeBel2 hb M9.out)
  have x10 := hid (rangeBel2 hb x9.out)
  clear H9 W9 K9 J9 S9 L9 M9 x9
  clear hb Y BL BS RS LR
  have e10 := hid (heap_alloc_new w10 (.cells z32 23))
  go_wp2_with (first
    | (with_reducible refine wpList_alloc_row rfl 23 rfl z32 info32 ?_)
    | ((with_reducible refine wpList_store_row rfl 23 (.tmp 8) (.tmp 43) rfl _ _ rfl rfl 23 z32 ?_ ?_ ?_ ?_ ?_); exact e10.out; exact sizeDgB (rootM vB); exact zDgB (rootM vB); exact oneDgB (rootM vB); intro w11 hgS hbS hsS; have X11 := hid (xnewB rfl hbS); have y11 := hid (rangeOf (l := (rootM vB).1.map bv) hgS); clear hgS hbS hsS; have H11 := hid (H10.out.bel X11.out (Nat.lt_of_lt_of_le hlow.out W10.out.size)); have W11 := hid (W10.out.trans (X11.out.mono W10.out.size)); have K11 := hid (rangeBel2 X11.out K10.out); have J11 := hid (rangeBel2 X11.out J10.out); have S11 := hid (rangeBel2 X11.out S10.out); have L11 := hid (rangeBel2 X11.out L10.out); have M11 := hid (rangeBel2 X11.out M10.out); have x11 := hid (rangeBel2 X11.out x10.out); clear H10 W10 K10 J10 S10 L10 M10 x10)
    | ((with_reducible refine wpList_built ?_ 61 _ rfl (pfC vC none 0 none 0).toArray [(1, .int .u8 3)] ?_ ?_ ?_); rfl; exact bC.out; rfl))
  refine (hRC.out _ H11.out).mono ?_
  rintro e w12 ⟨rfl, hb⟩
  have H12 := hid (H11.out.bel hb (Nat.lt_of_lt_of_le hlow.out W11.out.size))
  have W12 := hid (W11.out.trans (hb.mono W11.out.size))
  have K12 := hid (rangeBel2 hb K11.out)
  have J12 := hid (rangeBel2 hb J11.out)
  have S12 := hid (rangeBel2 hb S11.out)
  have L12 := hid (rangeBel2 hb L11.out)
  have M12 := hid (rangeBel2 hb M11.out)
  have x12 := hid (rangeBel2 hb x11.out)
  have y12 := hid (rangeBel2 hb y11.out)
  clear H11 W11 K11 J11 S11 L11 M11 x11 y11
  clear hb 
  have e12 := hid (heap_alloc_new w12 (.cells z32 23))
  go_wp2_with (first
    | (with_reducible refine wpList_alloc_row rfl 23 rfl z32 info32 ?_)
    | ((with_reducible refine wpList_store_row rfl 23 (.tmp 10) (.tmp 48) rfl _ _ rfl rfl 23 z32 ?_ ?_ ?_ ?_ ?_); exact e12.out; exact sizeDgB (rootM vC); exact zDgB (rootM vC); exact oneDgB (rootM vC); intro w13 hgS hbS hsS; have X13 := hid (xnewB rfl hbS); have c13 := hid (rangeOf (l := (rootM vC).1.map bv) hgS); clear hgS hbS hsS; have H13 := hid (H12.out.bel X13.out (Nat.lt_of_lt_of_le hlow.out W12.out.size)); have W13 := hid (W12.out.trans (X13.out.mono W12.out.size)); have K13 := hid (rangeBel2 X13.out K12.out); have J13 := hid (rangeBel2 X13.out J12.out); have S13 := hid (rangeBel2 X13.out S12.out); have L13 := hid (rangeBel2 X13.out L12.out); have M13 := hid (rangeBel2 X13.out M12.out); have x13 := hid (rangeBel2 X13.out x12.out); have y13 := hid (rangeBel2 X13.out y12.out); clear H12 W12 K12 J12 S12 L12 M12 x12 y12))
  have l13 := hid (Nat.lt_of_lt_of_le hlow.out W13.out.size)
  go_wp2
  refine wp_region_noPanic ?_
  refine wp_region_held_drew (S := fun w' => Below w13.heap.size w13 w') (by kernel_rfl) ?_ (fun hHeld => ?_)
  · exact bel_drew w13
  refine wpAnyH_ready (rs := [0]) (by kernel_rfl) (by simp) ?_
  refine AllReadyH.cons (o := _) rfl (fun K hK => ?_) AllReadyH.nil
  go_simp
  refine (hAl.out _ (H13.out.bel hHeld l13.out)).mono ?_
  rintro e14 w14 ⟨rfl, hB⟩
  go_wp2_with fail
  refine hK.out _ _ ?_ (fun hHeld => ?_)
  · exact hHeld.trans (hB.mono hHeld.size)
  clear hK K
  try simp only [Act.put, sQa, sQb, sQc, gQa, gQb, gQc]
  refine' wpAnyH_take (i := 1) (oi := _) (v := ?_) rfl (by kernel_rfl) (by kernel_rfl) (by kernel_rfl) (fun _ _ _ h => h) (Or.inl ⟨by rfl, ?_⟩) (by assumption) ?_
  rotate_left
  · intro W hSw
    go_simp
    first | done | (with_reducible rfl)
  try simp only [Act.put, sQa, sQb, sQc, gQa, gQb, gQc]
  refine' wpAnyH_take (i := 2) (oi := _) (v := ?_) rfl (by kernel_rfl) (by kernel_rfl) (by kernel_rfl) (fun _ _ _ h => h) (Or.inl ⟨by rfl, ?_⟩) (by assumption) ?_
  rotate_left
  · intro W hSw
    go_simp
    first | done | (with_reducible rfl)
  try simp only [Act.put, sQa, sQb, sQc, gQa, gQb, gQc]
  refine' wpAnyH_take (i := 3) (oi := _) (v := ?_) rfl (by kernel_rfl) (by kernel_rfl) (by kernel_rfl) (fun _ _ _ h => h) (Or.inl ⟨by rfl, ?_⟩) (by assumption) ?_
  rotate_left
  · intro W hSw
    go_simp
    first | done | (with_reducible rfl)
  try simp only [Act.put, sQa, sQb, sQc, gQa, gQb, gQc]
  refine' wpAnyH_take (i := 4) (oi := _) (v := ?_) rfl (by kernel_rfl) (by kernel_rfl) (by kernel_rfl) (fun _ _ _ h => h) (Or.inl ⟨by rfl, ?_⟩) (by assumption) ?_
  rotate_left
  · intro W hSw
    go_simp
    first | done | (with_reducible rfl)
  try simp only [Act.put, sQa, sQb, sQc, gQa, gQb, gQc]
  refine' wpAnyH_take (i := 5) (oi := _) (v := ?_) rfl (by kernel_rfl) (by kernel_rfl) (by kernel_rfl) (fun _ _ _ h => h) (Or.inl ⟨by rfl, ?_⟩) (by assumption) ?_
  rotate_left
  · intro W hSw
    go_simp
    first | done | (with_reducible rfl)
  try simp only [Act.put, sQa, sQb, sQc, gQa, gQb, gQc]
  refine' wpAnyH_take (i := 6) (oi := _) (v := ?_) rfl (by kernel_rfl) (by kernel_rfl) (by kernel_rfl) (fun _ _ _ h => h) (Or.inl ⟨by rfl, ?_⟩) (by assumption) ?_
  rotate_left
  · intro W hSw
    go_simp
    first | done | (with_reducible rfl)
  try simp only [Act.put, sQa, sQb, sQc, gQa, gQb, gQc]
  refine' wpAnyH_take (i := 7) (oi := _) (v := ?_) rfl (by kernel_rfl) (by kernel_rfl) (by kernel_rfl) (fun _ _ _ h => h) (Or.inl ⟨by rfl, ?_⟩) (by assumption) ?_
  rotate_left
  · intro W hSw
    go_simp
    first | done | (with_reducible rfl)
  try simp only [Act.put, sQa, sQb, sQc, gQa, gQb, gQc]
  refine' wpAnyH_take (i := 8) (oi := _) (v := _) rfl (by kernel_rfl) (by kernel_rfl) (by kernel_rfl) (fun _ _ _ h => h) (yieldsIf_load_mid (by rfl) _ _ rfl _ _ rfl _ _ (fun _ h => rangeBel2 h x13.out) hu rfl hiX.out) (by assumption) ?_
  try simp only [Act.put, sQa, sQb, sQc, gQa, gQb, gQc]
  refine' wpAnyH_take (i := 9) (oi := _) (v := ?_) rfl (by kernel_rfl) (by kernel_rfl) (by kernel_rfl) (fun _ _ _ h => h) (Or.inl ⟨by rfl, ?_⟩) (by assumption) ?_
  rotate_left
  · intro W hSw
    go_simp
    first | done | (with_reducible rfl)
  try simp only [Act.put, sQa, sQb, sQc, gQa, gQb, gQc]
  refine' wpAnyH_take (i := 10) (oi := _) (v := ?_) rfl (by kernel_rfl) (by kernel_rfl) (by kernel_rfl) (fun _ _ _ h => h) (Or.inl ⟨by rfl, ?_⟩) (by assumption) ?_
  rotate_left
  · intro W hSw
    go_simp
    first | done | (with_reducible rfl)
  try simp only [Act.put, sQa, sQb, sQc, gQa, gQb, gQc]
  refine wpAnyH_ready (rs := [11]) (by kernel_rfl) (by simp) ?_
  refine AllReadyH.cons (o := _) rfl (fun K hK => ?_) AllReadyH.nil
  refine step_twoW (by rfl) (.tmp 59) (.tmp 60) rfl (.slice (some ⟨g, 0, none⟩) 32 32) (.slice (some ⟨w3.heap.size, 0, none⟩) 32 32) rfl rfl rfl rfl ?_
  have hr2 := rds_two w14 (some ⟨g, 0, none⟩) (some ⟨w3.heap.size, 0, none⟩) 32 32 (dL 3 97).1 dS.1 24 (rd_keyP (rangeBel2 hHeld L13.out)) (rd_keyP (rangeBel2 hHeld S13.out)) ⟨by rw [(dL 3 97).2]; omega, by unfold maxLen; omega⟩ ⟨by rw [dS.2]; omega, by unfold maxLen; omega⟩
  rw [(dL 3 97).2, dS.2] at hr2
  have hB := ext_alloc w14 (.cells #[Value.slice (some ⟨g, 0, none⟩) 32 32, .slice (some ⟨w3.heap.size, 0, none⟩) 32 32] 24)
  refine hK.out _ _ ?_ (fun hHeld => ?_)
  · exact hHeld.trans (hB.mono hHeld.size)
  clear hK K
  try simp only [Act.put, sQa, sQb, sQc, gQa, gQb, gQc]
  refine wpAnyH_ready (rs := [12]) (by kernel_rfl) (by simp) ?_
  refine AllReadyH.cons (o := _) rfl (fun K hK => ?_) AllReadyH.nil
  go_simp
  refine (hOx.out _ _ hr2 (H13.out.bel hHeld l13.out)).mono ?_
  rintro e15 w15 ⟨rfl, hB⟩
  go_wp2_with fail
  refine hK.out _ _ ?_ (fun hHeld => ?_)
  · exact hHeld.trans (hB.mono hHeld.size)
  clear hK K
  try simp only [Act.put, sQa, sQb, sQc, gQa, gQb, gQc]
  refine' wpAnyH_take (i := 13) (oi := _) (v := ?_) rfl (by kernel_rfl) (by kernel_rfl) (by kernel_rfl) (fun _ _ _ h => h) (Or.inl ⟨by rfl, ?_⟩) (by assumption) ?_
  rotate_left
  · intro W hSw
    go_simp
    first | done | (with_reducible rfl)
  try simp only [Act.put, sQa, sQb, sQc, gQa, gQb, gQc]
  refine' wpAnyH_take (i := 14) (oi := _) (v := ?_) rfl (by kernel_rfl) (by kernel_rfl) (by kernel_rfl) (fun _ _ _ h => h) (Or.inl ⟨by rfl, ?_⟩) (by assumption) ?_
  rotate_left
  · intro W hSw
    go_simp
    first | done | (with_reducible rfl)
  try simp only [Act.put, sQa, sQb, sQc, gQa, gQb, gQc]
  refine' wpAnyH_take (i := 15) (oi := _) (v := ?_) rfl (by kernel_rfl) (by kernel_rfl) (by kernel_rfl) (fun _ _ _ h => h) (Or.inl ⟨by rfl, ?_⟩) (by assumption) ?_
  rotate_left
  · intro W hSw
    go_simp
    first | done | (with_reducible rfl)
  try simp only [Act.put, sQa, sQb, sQc, gQa, gQb, gQc]
  refine' wpAnyH_take (i := 16) (oi := _) (v := ?_) rfl (by kernel_rfl) (by kernel_rfl) (by kernel_rfl) (fun _ _ _ h => h) (Or.inl ⟨by rfl, ?_⟩) (by assumption) ?_
  rotate_left
  · intro W hSw
    go_simp
    first | done | (with_reducible rfl)
  try simp only [Act.put, sQa, sQb, sQc, gQa, gQb, gQc]
  refine' wpAnyH_take (i := 17) (oi := _) (v := ?_) rfl (by kernel_rfl) (by kernel_rfl) (by kernel_rfl) (fun _ _ _ h => h) (Or.inl ⟨by rfl, ?_⟩) (by assumption) ?_
  rotate_left
  · intro W hSw
    go_simp
    first | done | (with_reducible rfl)
  try simp only [Act.put, sQa, sQb, sQc, gQa, gQb, gQc]
  refine' wpAnyH_take (i := 18) (oi := _) (v := ?_) rfl (by kernel_rfl) (by kernel_rfl) (by kernel_rfl) (fun _ _ _ h => h) (Or.inl ⟨by rfl, ?_⟩) (by assumption) ?_
  rotate_left
  · intro W hSw
    go_simp
    first | done | (with_reducible rfl)
  try simp only [Act.put, sQa, sQb, sQc, gQa, gQb, gQc]
  refine' wpAnyH_take (i := 19) (oi := _) (v := ?_) rfl (by kernel_rfl) (by kernel_rfl) (by kernel_rfl) (fun _ _ _ h => h) (Or.inl ⟨by rfl, ?_⟩) (by assumption) ?_
  rotate_left
  · intro W hSw
    go_simp
    first | done | (with_reducible rfl)
  try simp only [Act.put, sQa, sQb, sQc, gQa, gQb, gQc]
  refine' wpAnyH_take (i := 20) (oi := _) (v := _) rfl (by kernel_rfl) (by kernel_rfl) (by kernel_rfl) (fun _ _ _ h => h) (yieldsIf_load_mid (by rfl) _ _ rfl _ _ rfl _ _ (fun _ h => rangeBel2 h y13.out) hu rfl hiY.out) (by assumption) ?_
  try simp only [Act.put, sQa, sQb, sQc, gQa, gQb, gQc]
  refine' wpAnyH_take (i := 21) (oi := _) (v := ?_) rfl (by kernel_rfl) (by kernel_rfl) (by kernel_rfl) (fun _ _ _ h => h) (Or.inl ⟨by rfl, ?_⟩) (by assumption) ?_
  rotate_left
  · intro W hSw
    go_simp
    first | done | (with_reducible rfl)
  try simp only [Act.put, sQa, sQb, sQc, gQa, gQb, gQc]
  refine' wpAnyH_take (i := 22) (oi := _) (v := ?_) rfl (by kernel_rfl) (by kernel_rfl) (by kernel_rfl) (fun _ _ _ h => h) (Or.inl ⟨by rfl, ?_⟩) (by assumption) ?_
  rotate_left
  · intro W hSw
    go_simp
    first | done | (with_reducible rfl)
  try simp only [Act.put, sQa, sQb, sQc, gQa, gQb, gQc]
  refine wpAnyH_ready (rs := [23]) (by kernel_rfl) (by simp) ?_
  refine AllReadyH.cons (o := _) rfl (fun K hK => ?_) AllReadyH.nil
  refine step_twoW (by rfl) (.tmp 71) (.tmp 72) rfl (.slice (some ⟨w3.heap.size, 0, none⟩) 32 32) (.slice (some ⟨h, 0, none⟩) 32 32) rfl rfl rfl rfl ?_
  have hr2 := rds_two w15 (some ⟨w3.heap.size, 0, none⟩) (some ⟨h, 0, none⟩) 32 32 dS.1 (dL 200 97).1 24 (rd_keyP (rangeBel2 hHeld S13.out)) (rd_keyP (rangeBel2 hHeld M13.out)) ⟨by rw [dS.2]; omega, by unfold maxLen; omega⟩ ⟨by rw [(dL 200 97).2]; omega, by unfold maxLen; omega⟩
  rw [dS.2, (dL 200 97).2] at hr2
  have hB := ext_alloc w15 (.cells #[Value.slice (some ⟨w3.heap.size, 0, none⟩) 32 32, .slice (some ⟨h, 0, none⟩) 32 32] 24)
  refine hK.out _ _ ?_ (fun hHeld => ?_)
  · exact hHeld.trans (hB.mono hHeld.size)
  clear hK K
  try simp only [Act.put, sQa, sQb, sQc, gQa, gQb, gQc]
  refine wpAnyH_ready (rs := [24]) (by kernel_rfl) (by simp) ?_
  refine AllReadyH.cons (o := _) rfl (fun K hK => ?_) AllReadyH.nil
  go_simp
  refine (hOy.out _ _ hr2 (H13.out.bel hHeld l13.out)).mono ?_
  rintro e16 w16 ⟨rfl, hB⟩
  go_wp2_with fail
  refine hK.out _ _ ?_ (fun hHeld => ?_)
  · exact hHeld.trans (hB.mono hHeld.size)
  clear hK K
  try simp only [Act.put, sQa, sQb, sQc, gQa, gQb, gQc]
  refine' wpAnyH_take (i := 25) (oi := _) (v := ?_) rfl (by kernel_rfl) (by kernel_rfl) (by kernel_rfl) (fun _ _ _ h => h) (Or.inl ⟨by rfl, ?_⟩) (by assumption) ?_
  rotate_left
  · intro W hSw
    go_simp
    first | done | (with_reducible rfl)
  try simp only [Act.put, sQa, sQb, sQc, gQa, gQb, gQc]
  refine' wpAnyH_take (i := 26) (oi := _) (v := ?_) rfl (by kernel_rfl) (by kernel_rfl) (by kernel_rfl) (fun _ _ _ h => h) (Or.inl ⟨by rfl, ?_⟩) (by assumption) ?_
  rotate_left
  · intro W hSw
    go_simp
    first | done | (with_reducible rfl)
  try simp only [Act.put, sQa, sQb, sQc, gQa, gQb, gQc]
  refine' wpAnyH_take (i := 27) (oi := _) (v := ?_) rfl (by kernel_rfl) (by kernel_rfl) (by kernel_rfl) (fun _ _ _ h => h) (Or.inl ⟨by rfl, ?_⟩) (by assumption) ?_
  rotate_left
  · intro W hSw
    go_simp
    first | done | (with_reducible rfl)
  try simp only [Act.put, sQa, sQb, sQc, gQa, gQb, gQc]
  refine' wpAnyH_take (i := 28) (oi := _) (v := ?_) rfl (by kernel_rfl) (by kernel_rfl) (by kernel_rfl) (fun _ _ _ h => h) (Or.inl ⟨by rfl, ?_⟩) (by assumption) ?_
  rotate_left
  · intro W hSw
    go_simp
    first | done | (with_reducible rfl)
  try simp only [Act.put, sQa, sQb, sQc, gQa, gQb, gQc]
  refine' wpAnyH_take (i := 29) (oi := _) (v := ?_) rfl (by kernel_rfl) (by kernel_rfl) (by kernel_rfl) (fun _ _ _ h => h) (Or.inl ⟨by rfl, ?_⟩) (by assumption) ?_
  rotate_left
  · intro W hSw
    go_simp
    first | done | (with_reducible rfl)
  try simp only [Act.put, sQa, sQb, sQc, gQa, gQb, gQc]
  refine' wpAnyH_take (i := 30) (oi := _) (v := ?_) rfl (by kernel_rfl) (by kernel_rfl) (by kernel_rfl) (fun _ _ _ h => h) (Or.inl ⟨by rfl, ?_⟩) (by assumption) ?_
  rotate_left
  · intro W hSw
    go_simp
    first | done | (with_reducible rfl)
  try simp only [Act.put, sQa, sQb, sQc, gQa, gQb, gQc]
  refine' wpAnyH_take (i := 31) (oi := _) (v := ?_) rfl (by kernel_rfl) (by kernel_rfl) (by kernel_rfl) (fun _ _ _ h => h) (Or.inl ⟨by rfl, ?_⟩) (by assumption) ?_
  rotate_left
  · intro W hSw
    go_simp
    first | done | (with_reducible rfl)
  try simp only [Act.put, sQa, sQb, sQc, gQa, gQb, gQc]
  refine' wpAnyH_take (i := 32) (oi := _) (v := _) rfl (by kernel_rfl) (by kernel_rfl) (by kernel_rfl) (fun _ _ _ h => h) (yieldsIf_build (by rfl) _ _ rfl _ _ (bC.out) rfl) (by assumption) ?_
  try simp only [Act.put, sQa, sQb, sQc, gQa, gQb, gQc]
  refine' wpAnyH_take (i := 33) (oi := _) (v := _) rfl (by kernel_rfl) (by kernel_rfl) (by kernel_rfl) (fun _ _ _ h => h) (yieldsIf_build (by rfl) _ _ rfl _ _ (hd0.out) rfl) (by assumption) ?_
  try simp only [Act.put, sQa, sQb, sQc, gQa, gQb, gQc]
  refine wpAnyH_ready (rs := [34]) (by kernel_rfl) (by simp) ?_
  refine AllReadyH.cons (o := _) rfl (fun K hK => ?_) AllReadyH.nil
  go_simp
  refine (hFC.out _ (H13.out.bel hHeld l13.out)).mono ?_
  rintro e17 w17 ⟨rfl, hB⟩
  go_wp2_with fail
  refine hK.out _ _ ?_ (fun hHeld => ?_)
  · exact hHeld.trans (hB.mono hHeld.size)
  clear hK K
  try simp only [Act.put, sQa, sQb, sQc, gQa, gQb, gQc]
  refine' wpAnyH_take (i := 35) (oi := _) (v := ?_) rfl (by kernel_rfl) (by kernel_rfl) (by kernel_rfl) (fun _ _ _ h => h) (Or.inl ⟨by rfl, ?_⟩) (by assumption) ?_
  rotate_left
  · intro W hSw
    go_simp
    first | done | (with_reducible rfl)
  try simp only [Act.put, sQa, sQb, sQc, gQa, gQb, gQc]
  refine' wpAnyH_take (i := 36) (oi := _) (v := ?_) rfl (by kernel_rfl) (by kernel_rfl) (by kernel_rfl) (fun _ _ _ h => h) (Or.inl ⟨by rfl, ?_⟩) (by assumption) ?_
  rotate_left
  · intro W hSw
    go_simp
    first | done | (with_reducible rfl)
  try simp only [Act.put, sQa, sQb, sQc, gQa, gQb, gQc]
  refine' wpAnyH_take (i := 37) (oi := _) (v := ?_) rfl (by kernel_rfl) (by kernel_rfl) (by kernel_rfl) (fun _ _ _ h => h) (Or.inl ⟨by rfl, ?_⟩) (by assumption) ?_
  rotate_left
  · intro W hSw
    go_simp
    first | done | (with_reducible rfl)
  try simp only [Act.put, sQa, sQb, sQc, gQa, gQb, gQc]
  refine wpAnyH_done (by kernel_rfl) ?_ _
  refine NoPanic.normal ?_
  go_wp2
  go_ret
  exact ⟨rfl, W13.out.trans (hHeld.mono W13.out.size)⟩

/-! ### WHAT THE WALK GIVES, FOR EVERY ARGUMENT AND EVERY WORLD THAT HOLDS THE TABLE -/
set_option maxRecDepth 100000 in
theorem contract (H : Type) (enc : TypeId × Value → H) (W : World) (base : Nat) (args : Array Value) (ds gs : List (DataW H)) (before : List MemPlace)
    (hval0 : ∀ (j : Nat) t v, Tryd.f9.params[j]? = some t → args[j]? = some v → Value.okWide Tryd.prog W .any base t v)
    (hW : DataW.Whole enc Tryd.prog Tryd.f9.params.toList Rows.verifyNamesSpec.vars false W args.toList ds gs before) (hL : laidMetH Tryd.prog Rows.verifyNamesRow.laid W) :
    Calls Tryd.prog 9 args W fun e W' => ∃ v, e = .returned v ∧ Rows.verifyNamesSpec.post enc Tryd.prog Tryd.f9 false true false false W args v W' := by
  have hval : ∀ (j : Nat) t v, Tryd.f9.params[j]? = some t → args[j]? = some v → Value.okWide Tryd.prog W .any base t v := hval0
  have hW' := hW
  obtain ⟨p, q, hA0, hV, rfl, hfz, hnd⟩ := hW
  have hA : DataW.TrodAll enc Tryd.prog W 0 (fun _ => true) true Tryd.f9.params.toList args.toList ds p := hA0
  rw [Tryd.params9] at hA hval
  obtain ⟨rfl, rfl, rfl⟩ := trodAll_none hA
  obtain ⟨rfl, rfl⟩ := trodVars_none hV
  clear hA0 hval0
  refine (walk  W (tab_of hL)).mono fun e W' ⟨he, bel⟩ => ?_
  subst he
  exact ⟨_, rfl, _, _, _, [], _, [], hW', trodAll_mk1 (shut_bool Tryd.underlying4 _), trodAll_mk0, rfl, bel.frame _, fun h => by cases h⟩

theorem laid_met (os : Os) : laidMet Tryd.prog Rows.verifyNamesRow.laid ((laidWorld os).forCall (fun _ _ => 0) ⟨#[], #[], []⟩).memory :=
  laidMet_of_run' 8 (by kernel_rfl) (by kernel_rfl)
theorem reads (os : Os) {H : Type} (enc : TypeId × Value → H) : ∃ places, DataW.whole enc Tryd.prog ((laidWorld os).forCall (fun _ _ => 0) ⟨#[], #[], []⟩).memory Tryd.f9.params.toList Rows.verifyNamesSpec.vars false (#[] : Array Value).toList 8 = some ([], [], places) :=
  ⟨[], by kernel_rfl⟩
set_option maxRecDepth 100000 in
theorem lifted (os : Os) (started : os.Started) (H : Type) (enc : TypeId × Value → H) (F : Stop.Interp) :
    ReturnsInHanded {} Tryd.checked os 9 .any ((OpenSpec.ofChange Rows.verifyNamesSpec).preRow enc Tryd.prog Tryd.f9 Rows.verifyNamesRow.domain false Rows.verifyNamesRow.laid) (((OpenSpec.ofChange Rows.verifyNamesSpec).at F).post enc Tryd.prog Tryd.f9 false true false false) := by
  obtain ⟨places, hx⟩ := reads os enc
  refine returnsInHanded_of_row (C := Tryd.checked) (s := OpenSpec.ofChange Rows.verifyNamesSpec) own started (by kernel_rfl) Tryd.func9
    (witness_row_at (enc := enc) (C := Tryd.checked) false (laidWorld os) #[] rfl (by kernel_rfl) (by kernel_rfl) (by kernel_rfl)
      (OpenSpec.preRow_of_cond 8 hx (by kernel_rfl) (fun k hk => by cases hk) (by kernel_rfl) (laid_met os))) ?_
  intro W base args ds gs before hval hW _ _ _ hL _ _
  exact contract H enc W base args ds gs before hval hW hL
theorem said : Rows.VerifyNamesSaid :=
  OpenClaim.holds_of_cond 9 Tryd.f9 rfl rfl rfl rfl rfl rfl rfl ⟨rfl, rfl, rfl, rfl, rfl⟩ rfl rfl rfl rfl rfl (by kernel_rfl) Tryd.func9 (by kernel_rfl)
    (of_decide_eq_true (by kernel_rfl)) (by unfold Func.isWrapper; first | (rw [if_pos (by decide +kernel)]; kernel_rfl) | (rw [if_neg (by decide +kernel)]; exact ⟨rfl, rfl⟩))
    (fun os started H enc _ F => by rw [OpenClaim.pre_eq_preRow]; exact lifted os started H enc F)
set_option maxRecDepth 100000 in
/-- No parameter wants a stand-in; the program's own looks are off: what the card asks. -/
theorem plain (f : FuncId) (fn : Func) (hf : Tryd.pinned.checked.prog.funcNamed "beadroll/beadrolllaw08.VerifyNames" = some f) (hfn : Tryd.pinned.checked.prog.funcs[f]? = some fn) :
    false = Tryd.pinned.checked.prog.looks [] ∧ ∀ (j : Nat) t, fn.params[j]? = some t → Tryd.pinned.checked.prog.wantsStandIn t = false := by
  obtain rfl : f = 9 := Option.some.inj ((show Tryd.prog.funcNamed "beadroll/beadrolllaw08.VerifyNames" = some 9 by kernel_rfl).symm.trans hf) |>.symm
  obtain rfl : fn = Tryd.f9 := (Option.some.inj (Tryd.func9.symm.trans hfn)).symm
  refine ⟨by kernel_rfl, fun j t ht => ?_⟩
  rw [Tryd.params9] at ht
  simp at ht
set_option maxRecDepth 100000 in
/-- ████ THE CARD ████ -/
theorem proved : Rows.VerifyNamesCardSaid :=
  Claim7.holds_tied_plain_at .later [] _ _ _ _ said (fun _ h => by cases h) (by kernel_rfl) (fun _ h => by cases h) verifyNames_row_tie rfl ⟨rfl, rfl⟩ (by kernel_rfl) rfl plain (by kernel_rfl)
#print axioms proved
end Go.Proofs.YtfjkcdccnbggnaaDoor.verifyNames
