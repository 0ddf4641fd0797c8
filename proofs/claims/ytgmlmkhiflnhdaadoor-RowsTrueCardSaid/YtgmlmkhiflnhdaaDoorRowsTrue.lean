/-
  The Go function RowsTrue returns true: each row's sides fit its list's root, at its place, and there are at most 8 of them: any rows and place; its arguments read afterwards as before.
  Conditions: none. The frame around the walk was written by program (proof-skeleton.mjs).
-/
import Derived.Test.YtgmlmkhiflnhdaaDoorRows
import Derived.Test.YtgmlmkhiflnhdaaDoorDoor
import Derived.WalkKit
import Derived.ProofKit
import Derived.OpenShut
import Derived.ShutString
import Derived.ChangeOld
import Derived.Below
import Derived.Test.YtgmlmkhiflnhdaaDoorAlive13b
import Derived.Test.YtgmlmkhiflnhdaaDoorRwT
namespace Go.Proofs.YtgmlmkhiflnhdaaDoor.rowsTrue
open Go.ChangeShapes Go.WideShapes Go.ChangeAt Go.RowKit
open Go.ChangeMaps (open_string shut_string)
set_option linter.unusedVariables false

theorem own : ownKnob Tryd.prog.godebug = none := by kernel_rfl
theorem laidOut : laidOutB Tryd.prog = true := by kernel_rfl

/-- WHAT THE WALK IS TOLD OF A SLICE OF INTEGERS THAT CAME IN: it is nil; or it leads to a row of 'cap' cells, the numbers 'zs' (the first 'len' are its elements, the rest its spare room), each fitting its kind. -/
def IsRow (k : IntKind) (w : World) (a : Option Addr) (len cap : Nat) (zs : List Int) : Prop :=
  (a = none ∧ len = 0 ∧ cap = 0 ∧ zs = []) ∨
  ∃ x, a = some x ∧ len ≤ cap ∧ cap ≤ maxLen ∧ zs.length = cap ∧ (∀ i, i < zs.length → w.cell? (x.add i) = some (.int k (zs.getD i 0))) ∧ ∀ n ∈ zs, (Lit.int k n).wf = true

/-! ### the walk -/
open Go.Proofs.YtgmlmkhiflnhdaaDoor
set_option linter.unusedSimpArgs false
set_option maxRecDepth 100000 in
set_option maxHeartbeats 8000000 in
theorem walk (a0 : Option Addr) (len0 cap0 : Nat) (ls0 : List (List UInt8)) (a1 : Int) (w : World) (w0 : len0 = ls0.length ∧ Rds w a0 ls0 ∧ ls0.length ≤ cap0 ∧ cap0 ≤ maxLen) (w1 : (Lit.int .i64 a1).wf = true) (hT : Tab w) :
    Calls Tryd.prog 6 #[.slice a0 len0 cap0, .int .i64 a1] w fun e w' => e = .returned (.bool true) ∧ Below w.heap.size w w' := by
  obtain ⟨rfl, r0, c0, m0⟩ := w0
  have hu := Tryd.underlying29
  have hlow := hid hT.low
  have W0 := hid (Below.refl w.heap.size w)
  have hAl := hid (fun W hT => alive13_any W hT)
  have hm2 : cap0 ≤ 9223372036854775807 := by unfold maxLen at m0; omega
  have hG := fun W (h : Rds W a0 ls0) => RRwGreat_any a0 cap0 ls0 30 W h (by omega)
  obtain ⟨gr, hgr⟩ : ∃ g, greatR ls0 30 = g := ⟨_, rfl⟩
  rw [hgr] at hG
  replace hG := hid hG
  have V0 := hid r0
  have H0 := hid hT
  clear r0 hT
  cases gr
  case true =>
    clear hgr
    go_enter Tryd.func6, Tryd.ntmps6
    go_wp2_with fail
    refine (hAl.out _ H0.out).mono ?_
    rintro e w1 ⟨rfl, hb⟩
    have V1 := hid (V0.out.bel hb)
    have W1 := hid (W0.out.trans (hb.mono W0.out.size))
    clear hb
    go_wp2_with fail
    refine (hG.out _ V1.out).mono ?_
    rintro e w2 ⟨rfl, rfl⟩
    go_wp2
    go_ret
    exact ⟨rfl, W1.out⟩
  obtain ⟨hl1, hl2⟩ := great_list hgr (by decide)
  have hR := fun W (h : Rds W a0 ls0) hT => PRwRoot_any a0 cap0 ls0 W h c0 m0 (by omega) hT
  have hS := fun W (h : Rds W a0 ls0) hT => PRwSides_any a0 cap0 ls0 a1 W h c0 m0 (by omega) hT
  obtain ⟨m, hm⟩ : ∃ m, listR ls0 = m := ⟨_, rfl⟩
  have eR : rootRL ls0 = if m = true then rootR ls0 else z0R := by unfold rootRL; rw [hm]
  have eE : sidesE ls0 a1 = if m = true then (if a1 < 0 ∨ (ls0.length : Int) ≤ a1 then 2 else 0) else 8 := by unfold sidesE; rw [hm]
  rw [hm] at hR
  clear hgr hl2
  cases m
  case false =>
    simp only [Bool.false_eq_true, if_false] at eR eE hR
    have eL : sidesL ls0 a1 = [] := by unfold sidesL; rw [eE]; rfl
    rw [eR] at hR
    rw [eE, eL, List.length_nil] at hS
    clear eR eE eL
    generalize z0R = xr at *
    replace hR := hid hR
    replace hS := hid hS
    go_enter Tryd.func6, Tryd.ntmps6
    go_wp2_with fail
    refine (hAl.out _ H0.out).mono ?_
    rintro e w1 ⟨rfl, hb⟩
    have V1 := hid (V0.out.bel hb)
    have H1 := hid (H0.out.bel hb (Nat.lt_of_lt_of_le hlow.out W0.out.size))
    have W1 := hid (W0.out.trans (hb.mono W0.out.size))
    clear V0 H0 W0
    clear hb
    go_wp2_with fail
    refine (hG.out _ V1.out).mono ?_
    rintro e w2 ⟨rfl, hw⟩
    rw [hw]
    clear hw
    go_wp2_with fail
    refine (hR.out _ V1.out H1.out).mono ?_
    rintro e w3 ⟨rfl, hb⟩
    have V3 := hid (V1.out.bel hb)
    have H3 := hid (H1.out.bel hb (Nat.lt_of_lt_of_le hlow.out W1.out.size))
    have W3 := hid (W1.out.trans (hb.mono W1.out.size))
    clear V1 H1 W1
    clear hb
    have e3 := hid (heap_alloc_new w3 (.cells z32 29))
    go_wp2_with (first
      | (with_reducible refine wpList_alloc_row rfl 29 rfl z32 info32 ?_)
      | ((with_reducible refine wpList_store_row rfl 29 (.tmp 6) (.tmp 21) rfl _ _ rfl rfl 29 z32 ?_ ?_ ?_ ?_ ?_); exact e3.out; exact sizeDgR xr; exact zDgR xr; exact oneDgR xr; intro w4 hgS hbS hsS; have X4 := hid (xnewP rfl hbS); have R4 := hid (rangeOf (l := xr.1.map bv) hgS); clear hgS hbS hsS; have V4 := hid (V3.out.bel X4.out); have H4 := hid (H3.out.bel X4.out (Nat.lt_of_lt_of_le hlow.out W3.out.size)); have W4 := hid (W3.out.trans (X4.out.mono W3.out.size)); clear V3 H3 W3))
    refine (hS.out _ V4.out H4.out).mono ?_
    rintro e w5 ⟨A5, c5, rfl, hO, hb⟩
    have V5 := hid (V4.out.bel hb)
    have H5 := hid (H4.out.bel hb (Nat.lt_of_lt_of_le hlow.out W4.out.size))
    have W5 := hid (W4.out.trans (hb.mono W4.out.size))
    have R5 := hid (rangeBel2 hb R4.out)
    clear V4 H4 W4 R4
    have S5 := hid hO.row
    clear hb hO
    go_wp2
    go_ret
    exact ⟨rfl, W5.out⟩
  simp only [if_true] at eR eE hR
  rw [eR] at hR
  by_cases hi : a1 < 0 ∨ (ls0.length : Int) ≤ a1
  case pos =>
    rw [if_pos hi] at eE
    have eL : sidesL ls0 a1 = [] := by unfold sidesL; rw [eE]; rfl
    rw [eE, eL, List.length_nil] at hS
    clear eR eE eL hi
    generalize rootR ls0 = xr at *
    replace hR := hid hR
    replace hS := hid hS
    go_enter Tryd.func6, Tryd.ntmps6
    go_wp2_with fail
    refine (hAl.out _ H0.out).mono ?_
    rintro e w1 ⟨rfl, hb⟩
    have V1 := hid (V0.out.bel hb)
    have H1 := hid (H0.out.bel hb (Nat.lt_of_lt_of_le hlow.out W0.out.size))
    have W1 := hid (W0.out.trans (hb.mono W0.out.size))
    clear V0 H0 W0
    clear hb
    go_wp2_with fail
    refine (hG.out _ V1.out).mono ?_
    rintro e w2 ⟨rfl, hw⟩
    rw [hw]
    clear hw
    go_wp2_with fail
    refine (hR.out _ V1.out H1.out).mono ?_
    rintro e w3 ⟨rfl, hb⟩
    have V3 := hid (V1.out.bel hb)
    have H3 := hid (H1.out.bel hb (Nat.lt_of_lt_of_le hlow.out W1.out.size))
    have W3 := hid (W1.out.trans (hb.mono W1.out.size))
    clear V1 H1 W1
    clear hb
    have e3 := hid (heap_alloc_new w3 (.cells z32 29))
    go_wp2_with (first
      | (with_reducible refine wpList_alloc_row rfl 29 rfl z32 info32 ?_)
      | ((with_reducible refine wpList_store_row rfl 29 (.tmp 6) (.tmp 21) rfl _ _ rfl rfl 29 z32 ?_ ?_ ?_ ?_ ?_); exact e3.out; exact sizeDgR xr; exact zDgR xr; exact oneDgR xr; intro w4 hgS hbS hsS; have X4 := hid (xnewP rfl hbS); have R4 := hid (rangeOf (l := xr.1.map bv) hgS); clear hgS hbS hsS; have V4 := hid (V3.out.bel X4.out); have H4 := hid (H3.out.bel X4.out (Nat.lt_of_lt_of_le hlow.out W3.out.size)); have W4 := hid (W3.out.trans (X4.out.mono W3.out.size)); clear V3 H3 W3))
    refine (hS.out _ V4.out H4.out).mono ?_
    rintro e w5 ⟨A5, c5, rfl, hO, hb⟩
    have V5 := hid (V4.out.bel hb)
    have H5 := hid (H4.out.bel hb (Nat.lt_of_lt_of_le hlow.out W4.out.size))
    have W5 := hid (W4.out.trans (hb.mono W4.out.size))
    have R5 := hid (rangeBel2 hb R4.out)
    clear V4 H4 W4 R4
    have S5 := hid hO.row
    clear hb hO
    go_wp2
    go_ret
    exact ⟨rfl, W5.out⟩
  rw [if_neg hi] at eE
  obtain ⟨n, rfl⟩ := Int.eq_ofNat_of_zero_le (show 0 ≤ a1 by omega)
  have hn : n < ls0.length := by omega
  have eL : sidesL ls0 (n : Int) = sidesR ls0 n := by unfold sidesL; rw [eE, if_pos rfl, Int.toNat_natCast]
  have hfit := fits_sides hm hn
  have h8 := sides_le8 hm n
  rw [eE, eL] at hS
  have hn1 : (n : Int) < (ls0.length : Int) := by omega
  have hn0 : (0 : Int) ≤ (n : Int) := by omega
  have h81 : ((sidesR ls0 n).length : Int) ≤ 8 := by omega
  obtain ⟨b, o, rfl, hcl⟩ := V0.out (by omega)
  obtain ⟨Ax, cx, hcx, hrx, hx1, hx2⟩ := hcl n _ (List.getElem?_eq_getElem hn)
  have cel := hid (fun W (hb : Below w.heap.size w W) => (hb.cell (World.block_lt_of_cell? _ _ hcx)).trans hcx)
  have hF := fun W (G : Nat → Prop) A c (hs : Row G W A (sidesR ls0 n)) hT (hb : Below w.heap.size w W) => PRwFits_any (rootR ls0) (ls0.length : Int) (n : Int) Ax cx ls0[n] G A c (sidesR ls0 n) W (hrx.bel hb) hx1 hx2 hs (by omega) hT
  rw [hfit] at hF
  clear hfit eR eE eL hi hcl
  generalize rootR ls0 = xr at *
  generalize sidesR ls0 n = sd at *
  generalize ls0[n] = rw_ at *
  replace hcx := hid hcx
  replace hF := hid hF
  replace hrx := hid hrx
  have ixr := hid (show (Tryd.prog.info? 29).map (·.size) = some (xr.1.map bv).length from by rw [List.length_map, xr.2]; exact size32)
  replace hR := hid hR
  replace hS := hid hS
  go_enter Tryd.func6, Tryd.ntmps6
  go_wp2_with fail
  refine (hAl.out _ H0.out).mono ?_
  rintro e w1 ⟨rfl, hb⟩
  have V1 := hid (V0.out.bel hb)
  have H1 := hid (H0.out.bel hb (Nat.lt_of_lt_of_le hlow.out W0.out.size))
  have W1 := hid (W0.out.trans (hb.mono W0.out.size))
  clear V0 H0 W0
  clear hb
  go_wp2_with fail
  refine (hG.out _ V1.out).mono ?_
  rintro e w2 ⟨rfl, hw⟩
  rw [hw]
  clear hw
  go_wp2_with fail
  refine (hR.out _ V1.out H1.out).mono ?_
  rintro e w3 ⟨rfl, hb⟩
  have V3 := hid (V1.out.bel hb)
  have H3 := hid (H1.out.bel hb (Nat.lt_of_lt_of_le hlow.out W1.out.size))
  have W3 := hid (W1.out.trans (hb.mono W1.out.size))
  clear V1 H1 W1
  clear hb
  have e3 := hid (heap_alloc_new w3 (.cells z32 29))
  go_wp2_with (first
    | (with_reducible refine wpList_alloc_row rfl 29 rfl z32 info32 ?_)
    | ((with_reducible refine wpList_store_row rfl 29 (.tmp 6) (.tmp 21) rfl _ _ rfl rfl 29 z32 ?_ ?_ ?_ ?_ ?_); exact e3.out; exact sizeDgR xr; exact zDgR xr; exact oneDgR xr; intro w4 hgS hbS hsS; have X4 := hid (xnewP rfl hbS); have R4 := hid (rangeOf (l := xr.1.map bv) hgS); clear hgS hbS hsS; have V4 := hid (V3.out.bel X4.out); have H4 := hid (H3.out.bel X4.out (Nat.lt_of_lt_of_le hlow.out W3.out.size)); have W4 := hid (W3.out.trans (X4.out.mono W3.out.size)); clear V3 H3 W3))
  refine (hS.out _ V4.out H4.out).mono ?_
  rintro e w5 ⟨A5, c5, rfl, hO, hb⟩
  have V5 := hid (V4.out.bel hb)
  have H5 := hid (H4.out.bel hb (Nat.lt_of_lt_of_le hlow.out W4.out.size))
  have W5 := hid (W4.out.trans (hb.mono W4.out.size))
  have R5 := hid (rangeBel2 hb R4.out)
  clear V4 H4 W4 R4
  have S5 := hid hO.row
  clear hb hO
  have C5 := hid (cel.out _ W5.out)
  clear hG hAl hR hS cel V5
  go_wp2
  refine wp_region_noPanic ?_
  refine wp_region_held_drew (S := fun w' => Below w5.heap.size w5 w') (by kernel_rfl) ?_ (fun hHeld => ?_)
  · exact bel_drew w5
  refine' wpAnyH_take (i := 0) (oi := _) (v := ?_) rfl (by kernel_rfl) (by kernel_rfl) (by kernel_rfl) (fun _ _ _ h => h) (Or.inl ⟨by rfl, ?_⟩) (by assumption) ?_
  rotate_left
  · intro W hSw
    go_simp
    first | done | (with_reducible rfl)
  try simp only [Act.put, sQa, sQb, sQc, gQa, gQb, gQc]
  refine' wpAnyH_take (i := 1) (oi := _) (v := ?_) rfl (by kernel_rfl) (by kernel_rfl) (by kernel_rfl) (fun _ _ _ h => h) (Or.inl ⟨by rfl, ?_⟩) (by assumption) ?_
  rotate_left
  · intro W hSw
    go_simp
    first | done | (with_reducible rfl)
  try simp only [Act.put, sQa, sQb, sQc, gQa, gQb, gQc]
  refine' wpAnyH_take (i := 2) (oi := _) (v := ?_) rfl (by kernel_rfl) (by kernel_rfl) (by kernel_rfl) (fun _ _ _ h => h) (Or.inl ⟨by rfl, ?_⟩) (by assumption) ?_
  rotate_left
  · intro W hSw
    go_simp
    first | done | (with_reducible rfl)
  try simp only [Act.put, sQa, sQb, sQc, gQa, gQb, gQc]
  refine' wpAnyH_take (i := 3) (oi := _) (v := ?_) rfl (by kernel_rfl) (by kernel_rfl) (by kernel_rfl) (fun _ _ _ h => h) (Or.inl ⟨by rfl, ?_⟩) (by assumption) ?_
  rotate_left
  · intro W hSw
    go_simp
    first | done | (with_reducible rfl)
  try simp only [Act.put, sQa, sQb, sQc, gQa, gQb, gQc]
  refine' wpAnyH_take (i := 4) (oi := _) (v := ?_) rfl (by kernel_rfl) (by kernel_rfl) (by kernel_rfl) (fun _ _ _ h => h) (Or.inl ⟨by rfl, ?_⟩) (by assumption) ?_
  rotate_left
  · intro W hSw
    go_simp
    first | done | (with_reducible rfl)
  try simp only [Act.put, sQa, sQb, sQc, gQa, gQb, gQc]
  refine' wpAnyH_take (i := 5) (oi := _) (v := ?_) rfl (by kernel_rfl) (by kernel_rfl) (by kernel_rfl) (fun _ _ _ h => h) (Or.inl ⟨by rfl, ?_⟩) (by assumption) ?_
  rotate_left
  · intro W hSw
    go_simp
    first | done | (with_reducible rfl)
  try simp only [Act.put, sQa, sQb, sQc, gQa, gQb, gQc]
  refine' wpAnyH_take (i := 6) (oi := _) (v := ?_) rfl (by kernel_rfl) (by kernel_rfl) (by kernel_rfl) (fun _ _ _ h => h) (Or.inl ⟨by rfl, ?_⟩) (by assumption) ?_
  rotate_left
  · intro W hSw
    go_simp
    first | done | (with_reducible rfl)
  try simp only [Act.put, sQa, sQb, sQc, gQa, gQb, gQc]
  refine' wpAnyH_take (i := 7) (oi := _) (v := ?_) rfl (by kernel_rfl) (by kernel_rfl) (by kernel_rfl) (fun _ _ _ h => h) (Or.inl ⟨by rfl, ?_⟩) (by assumption) ?_
  rotate_left
  · intro W hSw
    go_simp
    first | done | (with_reducible rfl)
  try simp only [Act.put, sQa, sQb, sQc, gQa, gQb, gQc]
  refine' wpAnyH_take (i := 8) (oi := _) (v := ?_) rfl (by kernel_rfl) (by kernel_rfl) (by kernel_rfl) (fun _ _ _ h => h) (Or.inl ⟨by rfl, ?_⟩) (by assumption) ?_
  rotate_left
  · intro W hSw
    go_simp
    first | done | (with_reducible rfl)
  try simp only [Act.put, sQa, sQb, sQc, gQa, gQb, gQc]
  refine' wpAnyH_take (i := 9) (oi := _) (v := ?_) rfl (by kernel_rfl) (by kernel_rfl) (by kernel_rfl) (fun _ _ _ h => h) (Or.inl ⟨by rfl, ?_⟩) (by assumption) ?_
  rotate_left
  · intro W hSw
    go_simp
    first | done | (with_reducible rfl)
  try simp only [Act.put, sQa, sQb, sQc, gQa, gQb, gQc]
  refine' wpAnyH_take (i := 10) (oi := _) (v := ?_) rfl (by kernel_rfl) (by kernel_rfl) (by kernel_rfl) (fun _ _ _ h => h) (Or.inl ⟨by rfl, ?_⟩) (by assumption) ?_
  rotate_left
  · intro W hSw
    go_simp
    first | done | (with_reducible rfl)
  try simp only [Act.put, sQa, sQb, sQc, gQa, gQb, gQc]
  refine' wpAnyH_take (i := 11) (oi := _) (v := ?_) rfl (by kernel_rfl) (by kernel_rfl) (by kernel_rfl) (fun _ _ _ h => h) (Or.inl ⟨by rfl, ?_⟩) (by assumption) ?_
  rotate_left
  · intro W hSw
    go_simp
    first | done | (with_reducible rfl)
  try simp only [Act.put, sQa, sQb, sQc, gQa, gQb, gQc]
  refine' wpAnyH_take (i := 12) (oi := _) (v := ?_) rfl (by kernel_rfl) (by kernel_rfl) (by kernel_rfl) (fun _ _ _ h => h) (Or.inl ⟨by rfl, ?_⟩) (by assumption) ?_
  rotate_left
  · intro W hSw
    go_simp
    first | done | (with_reducible rfl)
  try simp only [Act.put, sQa, sQb, sQc, gQa, gQb, gQc]
  refine' wpAnyH_take (i := 13) (oi := _) (v := ?_) rfl (by kernel_rfl) (by kernel_rfl) (by kernel_rfl) (fun _ _ _ h => h) (Or.inl ⟨by rfl, ?_⟩) (by assumption) ?_
  rotate_left
  · intro W hSw
    go_simp
    first | done | (with_reducible rfl)
  try simp only [Act.put, sQa, sQb, sQc, gQa, gQb, gQc]
  refine' wpAnyH_take (i := 14) (oi := _) (v := ?_) rfl (by kernel_rfl) (by kernel_rfl) (by kernel_rfl) (fun _ _ _ h => h) (Or.inl ⟨by rfl, ?_⟩) (by assumption) ?_
  rotate_left
  · intro W hSw
    go_simp
    first | done | (with_reducible rfl)
  try simp only [Act.put, sQa, sQb, sQc, gQa, gQb, gQc]
  refine' wpAnyH_take (i := 15) (oi := _) (v := ?_) rfl (by kernel_rfl) (by kernel_rfl) (by kernel_rfl) (fun _ _ _ h => h) (Or.inl ⟨by rfl, ?_⟩) (by assumption) ?_
  rotate_left
  · intro W hSw
    go_simp
    first | done | (with_reducible rfl)
  try simp only [Act.put, sQa, sQb, sQc, gQa, gQb, gQc]
  refine' wpAnyH_take (i := 16) (oi := _) (v := ?_) rfl (by kernel_rfl) (by kernel_rfl) (by kernel_rfl) (fun _ _ _ h => h) (Or.inl ⟨by rfl, ?_⟩) (by assumption) ?_
  rotate_left
  · intro W hSw
    go_simp
    first | done | (with_reducible rfl)
  try simp only [Act.put, sQa, sQb, sQc, gQa, gQb, gQc]
  refine' wpAnyH_take (i := 17) (oi := _) (v := ?_) rfl (by kernel_rfl) (by kernel_rfl) (by kernel_rfl) (fun _ _ _ h => h) (Or.inl ⟨by rfl, ?_⟩) (by assumption) ?_
  rotate_left
  · intro W hSw
    go_simp
    first | done | (with_reducible rfl)
  try simp only [Act.put, sQa, sQb, sQc, gQa, gQb, gQc]
  refine' wpAnyH_take (i := 18) (oi := _) (v := ?_) rfl (by kernel_rfl) (by kernel_rfl) (by kernel_rfl) (fun _ _ _ h => h) (Or.inl ⟨by rfl, ?_⟩) (by assumption) ?_
  rotate_left
  · intro W hSw
    go_simp
    first | done | (with_reducible rfl)
  try simp only [Act.put, sQa, sQb, sQc, gQa, gQb, gQc]
  refine' wpAnyH_take (i := 19) (oi := _) (v := ?_) rfl (by kernel_rfl) (by kernel_rfl) (by kernel_rfl) (fun _ _ _ h => h) (Or.inl ⟨by rfl, ?_⟩) (by assumption) ?_
  rotate_left
  · intro W hSw
    go_simp
    first | done | (with_reducible rfl)
  try simp only [Act.put, sQa, sQb, sQc, gQa, gQb, gQc]
  refine' wpAnyH_take (i := 20) (oi := _) (v := ?_) rfl (by kernel_rfl) (by kernel_rfl) (by kernel_rfl) (fun _ _ _ h => h) (Or.inl ⟨by rfl, ?_⟩) (by assumption) ?_
  rotate_left
  · intro W hSw
    go_simp
    first | done | (with_reducible rfl)
  try simp only [Act.put, sQa, sQb, sQc, gQa, gQb, gQc]
  refine' wpAnyH_take (i := 21) (oi := _) (v := _) rfl (by kernel_rfl) (by kernel_rfl) (by kernel_rfl) (fun _ _ _ h => h) (yieldsIf_load_mid (by rfl) _ _ rfl _ _ rfl _ _ (fun _ h => rangeBel2 h R5.out) hu rfl ixr.out) (by assumption) ?_
  try simp only [Act.put, sQa, sQb, sQc, gQa, gQb, gQc]
  refine' wpAnyH_take (i := 22) (oi := _) (v := ?_) rfl (by kernel_rfl) (by kernel_rfl) (by kernel_rfl) (fun _ _ _ h => h) (Or.inl ⟨by rfl, ?_⟩) (by assumption) ?_
  rotate_left
  · intro W hSw
    go_simp
    first | done | (with_reducible rfl)
  try simp only [Act.put, sQa, sQb, sQc, gQa, gQb, gQc]
  refine' wpAnyH_take (i := 23) (oi := _) (v := ?_) rfl (by kernel_rfl) (by kernel_rfl) (by kernel_rfl) (fun _ _ _ h => h) (Or.inl ⟨by rfl, ?_⟩) (by assumption) ?_
  rotate_left
  · intro W hSw
    go_simp
    first | done | (with_reducible rfl)
  try simp only [Act.put, sQa, sQb, sQc, gQa, gQb, gQc]
  refine' wpAnyH_take (i := 24) (oi := _) (v := ?_) rfl (by kernel_rfl) (by kernel_rfl) (by kernel_rfl) (fun _ _ _ h => h) (Or.inl ⟨by rfl, ?_⟩) (by assumption) ?_
  rotate_left
  · intro W hSw
    go_simp
    first | done | (with_reducible rfl)
  try simp only [Act.put, sQa, sQb, sQc, gQa, gQb, gQc]
  refine' wpAnyH_take (i := 25) (oi := _) (v := ?_) rfl (by kernel_rfl) (by kernel_rfl) (by kernel_rfl) (fun _ _ _ h => h) (Or.inl ⟨by rfl, ?_⟩) (by assumption) ?_
  rotate_left
  · intro W hSw
    go_simp
    first | done | (with_reducible rfl)
  try simp only [Act.put, sQa, sQb, sQc, gQa, gQb, gQc]
  refine' wpAnyH_take (i := 26) (oi := _) (v := ?_) rfl (by kernel_rfl) (by kernel_rfl) (by kernel_rfl) (fun _ _ _ h => h) (Or.inl ⟨by rfl, ?_⟩) (by assumption) ?_
  rotate_left
  · intro W hSw
    go_simp
    first | done | (with_reducible rfl)
  try simp only [Act.put, sQa, sQb, sQc, gQa, gQb, gQc]
  refine' wpAnyH_take (i := 27) (oi := _) (v := ?_) rfl (by kernel_rfl) (by kernel_rfl) (by kernel_rfl) (fun _ _ _ h => h) (Or.inl ⟨by rfl, ?_⟩) (by assumption) ?_
  rotate_left
  · intro W hSw
    go_simp
    first | done | (with_reducible rfl)
  try simp only [Act.put, sQa, sQb, sQc, gQa, gQb, gQc]
  refine' wpAnyH_take (i := 28) (oi := _) (v := ?_) rfl (by kernel_rfl) (by kernel_rfl) (by kernel_rfl) (fun _ _ _ h => h) (Or.inl ⟨by rfl, ?_⟩) (by assumption) ?_
  rotate_left
  · intro W hSw
    have hCell := (hSw.cell (World.block_lt_of_cell? _ _ C5.out)).trans C5.out
    go_simp
    first | done | (with_reducible rfl)
  try simp only [Act.put, sQa, sQb, sQc, gQa, gQb, gQc]
  refine' wpAnyH_take (i := 29) (oi := _) (v := ?_) rfl (by kernel_rfl) (by kernel_rfl) (by kernel_rfl) (fun _ _ _ h => h) (Or.inl ⟨by rfl, ?_⟩) (by assumption) ?_
  rotate_left
  · intro W hSw
    go_simp
    first | done | (with_reducible rfl)
  try simp only [Act.put, sQa, sQb, sQc, gQa, gQb, gQc]
  refine wpAnyH_ready (rs := [30]) (by kernel_rfl) (by simp) ?_
  refine AllReadyH.cons (o := _) rfl (fun K hK => ?_) AllReadyH.nil
  go_simp
  refine (hF.out _ _ A5 c5 (S5.out.bel hHeld) (H5.out.bel hHeld (Nat.lt_of_lt_of_le hlow.out W5.out.size)) (W5.out.trans (hHeld.mono W5.out.size))).mono ?_
  rintro e v30 ⟨rfl, hB⟩
  go_wp2_with fail
  refine hK.out _ _ ?_ (fun hHeld => ?_)
  · exact hHeld.trans (hB.mono hHeld.size)
  clear hK K
  try simp only [Act.put, sQa, sQb, sQc, gQa, gQb, gQc]
  refine' wpAnyH_take (i := 31) (oi := _) (v := ?_) rfl (by kernel_rfl) (by kernel_rfl) (by kernel_rfl) (fun _ _ _ h => h) (Or.inl ⟨by rfl, ?_⟩) (by assumption) ?_
  rotate_left
  · intro W hSw
    go_simp
    first | done | (with_reducible rfl)
  try simp only [Act.put, sQa, sQb, sQc, gQa, gQb, gQc]
  refine' wpAnyH_take (i := 32) (oi := _) (v := ?_) rfl (by kernel_rfl) (by kernel_rfl) (by kernel_rfl) (fun _ _ _ h => h) (Or.inl ⟨by rfl, ?_⟩) (by assumption) ?_
  rotate_left
  · intro W hSw
    go_simp
    first | done | (with_reducible rfl)
  try simp only [Act.put, sQa, sQb, sQc, gQa, gQb, gQc]
  refine wpAnyH_done (by kernel_rfl) ?_ _
  refine NoPanic.normal ?_
  go_wp2
  go_ret
  exact ⟨rfl, W5.out.trans (hHeld.mono W5.out.size)⟩

/-! ### WHAT THE WALK GIVES, FOR EVERY ARGUMENT AND EVERY WORLD THAT HOLDS THE TABLE -/
set_option maxRecDepth 100000 in
theorem contract (H : Type) (enc : TypeId × Value → H) (W : World) (base : Nat) (args : Array Value) (ds gs : List (DataW H)) (before : List MemPlace)
    (hval0 : ∀ (j : Nat) t v, Tryd.f6.params[j]? = some t → args[j]? = some v → Value.okWide Tryd.prog W .any base t v)
    (hW : DataW.Whole enc Tryd.prog Tryd.f6.params.toList Rows.rowsTrueSpec.vars false W args.toList ds gs before) (hL : laidMetH Tryd.prog Rows.rowsTrueRow.laid W) :
    Calls Tryd.prog 6 args W fun e W' => ∃ v, e = .returned v ∧ Rows.rowsTrueSpec.post enc Tryd.prog Tryd.f6 false true false false W args v W' := by
  have hval : ∀ (j : Nat) t v, Tryd.f6.params[j]? = some t → args[j]? = some v → Value.okWide Tryd.prog W .any base t v := hval0
  have hW' := hW
  obtain ⟨p, q, hA0, hV, rfl, hfz, hnd⟩ := hW
  have hA : DataW.TrodAll enc Tryd.prog W 0 (fun _ => true) true Tryd.f6.params.toList args.toList ds p := hA0
  rw [Tryd.params6] at hA hval
  obtain ⟨v0, vs0, d0, ds0, p0, q0, hargs, rfl, rfl, h0, r0⟩ := trodAll_cons hA
  obtain ⟨v1, vs1, d1, ds1, p1, q1, rfl, rfl, rfl, h1, r1⟩ := trodAll_cons r0
  obtain ⟨rfl, rfl, rfl⟩ := trodAll_nil r1
  obtain rfl : args = #[v0, v1] := by cases args; simp_all
  obtain ⟨rfl, rfl⟩ := trodVars_none hV
  obtain ⟨a0, len0, cap0, rfl⟩ := okWide_slice Tryd.underlying26 (hval 0 26 v0 rfl rfl)
  have k0 := h0
  have lt0 : ∀ x ∈ p0, x.block < W.heap.size := by obtain ⟨m, hm⟩ := k0; exact DataW.trod_lt m _ _ _ hm
  obtain ⟨ls0, w0⟩ : ∃ ls : List (List UInt8), len0 = ls.length ∧ Rds W a0 ls ∧ ls.length ≤ cap0 ∧ cap0 ≤ maxLen := by
    obtain ⟨fuel, hf⟩ := h0
    exact open_rows Tryd.underlying26 Tryd.underlying33 Tryd.underlying5 (by kernel_rfl) (by kernel_rfl) hf
  obtain ⟨a1, rfl, rfl, rfl, w1⟩ := open_int Tryd.underlying3 (hval 1 3 v1 rfl rfl) h1
  clear hA0 hval0
  refine (walk a0 len0 cap0 ls0 a1 W w0 w1 (tab_of hL)).mono fun e W' ⟨he, bel⟩ => ?_
  subst he
  exact ⟨_, rfl, _, _, _, [], _, [], hW', trodAll_mk1 (shut_bool Tryd.underlying4 _), (trodAll_cons_mk (Below.trod laidOut (by kernel_rfl) (of_decide_eq_true (by kernel_rfl)) k0 bel lt0) (trodAll_cons_mk (shut_int Tryd.underlying3 w1) trodAll_mk0)), rfl, bel.frame _, fun h => by cases h⟩

theorem laid_met (os : Os) : laidMet Tryd.prog Rows.rowsTrueRow.laid ((laidWorld os).forCall (fun _ _ => 0) ⟨#[], #[.slice none 0 0, .int .i64 0], []⟩).memory :=
  laidMet_of_run' 8 (by kernel_rfl) (by kernel_rfl)
theorem reads (os : Os) {H : Type} (enc : TypeId × Value → H) : ∃ places, DataW.whole enc Tryd.prog ((laidWorld os).forCall (fun _ _ => 0) ⟨#[], #[.slice none 0 0, .int .i64 0], []⟩).memory Tryd.f6.params.toList Rows.rowsTrueSpec.vars false (#[.slice none 0 0, .int .i64 0] : Array Value).toList 8 = some ([.nil, .lit (.int .i64 0)], [], places) :=
  ⟨[], by kernel_rfl⟩
set_option maxRecDepth 100000 in
theorem lifted (os : Os) (started : os.Started) (H : Type) (enc : TypeId × Value → H) (F : Stop.Interp) :
    ReturnsInHanded {} Tryd.checked os 6 .any ((OpenSpec.ofChange Rows.rowsTrueSpec).preRow enc Tryd.prog Tryd.f6 Rows.rowsTrueRow.domain false Rows.rowsTrueRow.laid) (((OpenSpec.ofChange Rows.rowsTrueSpec).at F).post enc Tryd.prog Tryd.f6 false true false false) := by
  obtain ⟨places, hx⟩ := reads os enc
  refine returnsInHanded_of_row (C := Tryd.checked) (s := OpenSpec.ofChange Rows.rowsTrueSpec) own started (by kernel_rfl) Tryd.func6
    (witness_row_at (enc := enc) (C := Tryd.checked) false (laidWorld os) #[.slice none 0 0, .int .i64 0] rfl (by kernel_rfl) (by kernel_rfl) (by kernel_rfl)
      (OpenSpec.preRow_of_cond 8 hx (by kernel_rfl) (fun k hk => by cases hk) (by kernel_rfl) (laid_met os))) ?_
  intro W base args ds gs before hval hW _ _ _ hL _ _
  exact contract H enc W base args ds gs before hval hW hL
theorem said : Rows.RowsTrueSaid :=
  OpenClaim.holds_of_cond 6 Tryd.f6 rfl rfl rfl rfl rfl rfl rfl ⟨rfl, rfl, rfl, rfl, rfl⟩ rfl rfl rfl rfl rfl (by kernel_rfl) Tryd.func6 (by kernel_rfl)
    (of_decide_eq_true (by kernel_rfl)) (by unfold Func.isWrapper; first | (rw [if_pos (by decide +kernel)]; kernel_rfl) | (rw [if_neg (by decide +kernel)]; exact ⟨rfl, rfl⟩))
    (fun os started H enc _ F => by rw [OpenClaim.pre_eq_preRow]; exact lifted os started H enc F)
set_option maxRecDepth 100000 in
/-- No parameter wants a stand-in; the program's own looks are off: what the card asks. -/
theorem plain (f : FuncId) (fn : Func) (hf : Tryd.pinned.checked.prog.funcNamed "beadroll/beadrolllaw13.RowsTrue" = some f) (hfn : Tryd.pinned.checked.prog.funcs[f]? = some fn) :
    false = Tryd.pinned.checked.prog.looks [] ∧ ∀ (j : Nat) t, fn.params[j]? = some t → Tryd.pinned.checked.prog.wantsStandIn t = false := by
  obtain rfl : f = 6 := Option.some.inj ((show Tryd.prog.funcNamed "beadroll/beadrolllaw13.RowsTrue" = some 6 by kernel_rfl).symm.trans hf) |>.symm
  obtain rfl : fn = Tryd.f6 := (Option.some.inj (Tryd.func6.symm.trans hfn)).symm
  refine ⟨by kernel_rfl, fun j t ht => ?_⟩
  rw [Tryd.params6] at ht
  have hm := Array.mem_of_getElem? ht
  simp only [List.mem_toArray, List.mem_cons, List.not_mem_nil, or_false] at hm
  rcases hm with rfl | rfl
  all_goals first | exact (show Tryd.prog.wantsStandIn 26 = false by kernel_rfl) | exact (show Tryd.prog.wantsStandIn 3 = false by kernel_rfl)
set_option maxRecDepth 100000 in
/-- ████ THE CARD ████ -/
theorem proved : Rows.RowsTrueCardSaid :=
  Claim7.holds_tied_plain_at .later [] _ _ _ _ said (fun _ h => by cases h) (by kernel_rfl) (fun _ h => by cases h) rowsTrue_row_tie rfl ⟨rfl, rfl⟩ (by kernel_rfl) rfl plain (by kernel_rfl)
#print axioms proved
end Go.Proofs.YtgmlmkhiflnhdaaDoor.rowsTrue
