/-
  The Go function RowsTell returns true: the root of rows, and a row's sides, or the errors, are the document's; any rows and place; they stay; its arguments read afterwards as before.
  Conditions: none. The frame around the walk was written by program (proof-skeleton.mjs).
-/
import Derived.Test.YtgmlmkhiflnhdaaDoorRows
import Derived.Test.YtgmlmkhiflnhdaaDoorDoor
import Derived.WalkKit
import Derived.ProofKit
import Derived.OpenShut
import Derived.ShutString
import Derived.ChangeOld
import Derived.Below
import Derived.Test.YtgmlmkhiflnhdaaDoorRwS
import Derived.Test.YtgmlmkhiflnhdaaDoorRwT
import Derived.Test.YtgmlmkhiflnhdaaDoorRef13e
import Derived.Test.YtgmlmkhiflnhdaaDoorRf6
import Derived.Test.YtgmlmkhiflnhdaaDoorRef03a
namespace Go.Proofs.YtgmlmkhiflnhdaaDoor.rowsTell
open Go.ChangeShapes Go.WideShapes Go.ChangeAt Go.RowKit
open Go.ChangeMaps (open_string shut_string)
set_option linter.unusedVariables false

theorem own : ownKnob Tryd.prog.godebug = none := by kernel_rfl
theorem laidOut : laidOutB Tryd.prog = true := by kernel_rfl

/-- WHAT THE WALK IS TOLD OF A SLICE OF INTEGERS THAT CAME IN: it is nil; or it leads to a row of 'cap' cells, the numbers 'zs' (the first 'len' are its elements, the rest its spare room), each fitting its kind. -/
def IsRow (k : IntKind) (w : World) (a : Option Addr) (len cap : Nat) (zs : List Int) : Prop :=
  (a = none ∧ len = 0 ∧ cap = 0 ∧ zs = []) ∨
  ∃ x, a = some x ∧ len ≤ cap ∧ cap ≤ maxLen ∧ zs.length = cap ∧ (∀ i, i < zs.length → w.cell? (x.add i) = some (.int k (zs.getD i 0))) ∧ ∀ n ∈ zs, (Lit.int k n).wf = true

/-! ### the walk -/
open Go.Proofs.YtgmlmkhiflnhdaaDoor
set_option linter.unusedSimpArgs false
set_option maxRecDepth 100000 in
set_option maxHeartbeats 8000000 in
theorem walk (a0 : Option Addr) (len0 cap0 : Nat) (ls0 : List (List UInt8)) (a1 : Int) (w : World) (w0 : len0 = ls0.length ∧ Rds w a0 ls0 ∧ ls0.length ≤ cap0 ∧ cap0 ≤ maxLen) (w1 : (Lit.int .i64 a1).wf = true) (hT : Tab w) :
    Calls Tryd.prog 4 #[.slice a0 len0 cap0, .int .i64 a1] w fun e w' => e = .returned (.bool true) ∧ Below w.heap.size w w' := by
  obtain ⟨rfl, r0, c0, m0⟩ := w0
  have hu := Tryd.underlying29
  have hlow := hid hT.low
  have W0 := hid (Below.refl w.heap.size w)
  have hm2 : cap0 ≤ 9223372036854775807 := by unfold maxLen at m0; omega
  have hG := fun W (h : Rds W a0 ls0) => RRwGreat_any a0 cap0 ls0 30 W h (by omega)
  have hG2 := fun W (h : Rds W a0 ls0) => RRwGreat_any a0 cap0 ls0 260 W h (by omega)
  obtain ⟨g1, hg1⟩ : ∃ g, greatR ls0 30 = g := ⟨_, rfl⟩
  obtain ⟨g2, hg2⟩ : ∃ g, greatR ls0 260 = g := ⟨_, rfl⟩
  rw [hg1] at hG
  rw [hg2] at hG2
  replace hG := hid hG
  replace hG2 := hid hG2
  have V0 := hid r0
  have H0 := hid hT
  clear r0 hT
  by_cases hout : g1 = true ∧ (ls0.length < 256 ∨ g2 = true)
  case pos =>
    obtain ⟨rfl, hh⟩ := hout
    by_cases hl : ls0.length < 256
    · have q1 : decide ((ls0.length : Int) < 256) = true := decide_eq_true (by omega)
      go_enter Tryd.func4, Tryd.ntmps4
      go_wp2_with fail
      refine (hG.out _ V0.out).mono ?_
      rintro e w2 ⟨rfl, rfl⟩
      go_wp2
      go_ret
      exact ⟨rfl, W0.out⟩
    · have q1 : decide ((ls0.length : Int) < 256) = false := decide_eq_false (by omega)
      obtain rfl : g2 = true := hh.resolve_left hl
      go_enter Tryd.func4, Tryd.ntmps4
      go_wp2_with fail
      refine (hG.out _ V0.out).mono ?_
      rintro e w2 ⟨rfl, rfl⟩
      go_wp2_with fail
      refine (hG2.out _ V0.out).mono ?_
      rintro e w2 ⟨rfl, rfl⟩
      go_wp2
      go_ret
      exact ⟨rfl, W0.out⟩
  have hlx : ls0.length ≤ 1000 ∧ ∀ x ∈ ls0, x.length ≤ 1000000 := by
    cases hh : g1 with
    | false => rw [hh] at hg1; exact great_list hg1 (by decide)
    | true =>
      cases h2 : g2 with
      | false => rw [h2] at hg2; exact great_list hg2 (by decide)
      | true => exact absurd ⟨hh, .inr h2⟩ hout
  obtain ⟨hl1, hl2⟩ := hlx
  have hP := fun A c W (h : Rds W A ls0) (h1 : ls0.length ≤ c) (h2 : c ≤ maxLen) hT => PRwRoot_any A c ls0 W h h1 h2 (by omega) hT
  have hR := fun W (h : Rds W a0 ls0) => RRowsRoot_any a0 cap0 ls0 W h c0 m0 (by omega) hl2
  have hS := fun A c W (h : Rds W A ls0) (h1 : ls0.length ≤ c) (h2 : c ≤ maxLen) hT => PRwSides_any A c ls0 a1 W h h1 h2 (by omega) hT
  have hU := hid (fun W (h : Rds W a0 ls0) => RRowsSides_any a0 cap0 ls0 a1 W h c0 m0 (by omega) hl2)
  have hW := hid (fun W (h : Rds W a0 ls0) => RRwTwin_any a0 cap0 ls0 W h (by omega) hl2)
  have hsd : (sidesL ls0 a1).length ≤ 9223372036854775807 := by
    unfold sidesL
    split
    · rename_i he
      unfold sidesE at he
      split at he
      · rename_i hm
        exact Nat.le_trans (sides_le8 hm _) (by decide)
      · cases he
    · exact Nat.zero_le _
  have hD := hid (fun F G A D c d W (h1 : Row F W A (sidesL ls0 a1)) (h2 : Row G W D (sidesL ls0 a1)) => RSameDg_any F G A D c d (sidesL ls0 a1) (sidesL ls0 a1) W h1 h2 hsd hsd)
  have hL := hid (fun A c W (h1 : Rds W A ls0) (h2 : Rds W a0 ls0) => SameL_any A a0 ls0.length ls0.length c cap0 ls0 ls0 W h1 h2 rfl rfl (by omega) (by omega))
  rw [decide_eq_true rfl] at hD hL
  replace hS := hid hS
  generalize (if listR ls0 = true then (0 : Int) else 8) = er at *
  generalize sidesE ls0 a1 = es at *
  generalize sidesL ls0 a1 = sd at *
  generalize rootRL ls0 = xr at *
  have ixr := hid (show (Tryd.prog.info? 29).map (·.size) = some (xr.1.map bv).length from by rw [List.length_map, xr.2]; exact size32)
  have eX : ∀ W, (Op.equalIn 10000 29 (.agg (xr.1.map bv).toArray) (.agg (xr.1.map bv).toArray)).run Tryd.prog W = .ok true W := fun W => eqd_is xr xr true (decide_eq_true rfl) W
  have b1 : (er == er) = true := beq_self_eq_true er
  have b2 : (es == es) = true := beq_self_eq_true es
  replace hP := hid hP
  replace hR := hid hR
  clear hg1 hg2 hl2 hsd
  cases g1
  case false =>
    clear hout
    go_enter Tryd.func4, Tryd.ntmps4
    go_wp2_with fail
    refine (hG.out _ V0.out).mono ?_
    rintro e w2 ⟨rfl, hw⟩
    rw [hw]
    clear hw hG hG2
    go_wp2_with fail
    refine (hW.out _ V0.out).mono ?_
    rintro e w1 ⟨A1, c1, rfl, hO, hb⟩
    have V1 := hid (V0.out.bel hb)
    have H1 := hid (H0.out.bel hb (Nat.lt_of_lt_of_le hlow.out W0.out.size))
    have W1 := hid (W0.out.trans (hb.mono W0.out.size))
    clear V0 H0 W0
    have O1 := hid hO.rds
    have o1 := hid hO.cap
    clear hb hO
    go_wp2_with fail
    refine (hP.out _ _ _ O1.out o1.out.1 o1.out.2 H1.out).mono ?_
    rintro e w2 ⟨rfl, hb⟩
    have V2 := hid (V1.out.bel hb)
    have H2 := hid (H1.out.bel hb (Nat.lt_of_lt_of_le hlow.out W1.out.size))
    have W2 := hid (W1.out.trans (hb.mono W1.out.size))
    have O2 := hid (O1.out.bel hb)
    clear V1 H1 W1 O1
    clear hb
    have e2 := hid (heap_alloc_new w2 (.cells z32 29))
    go_wp2_with (first
      | (with_reducible refine wpList_alloc_row rfl 29 rfl z32 info32 ?_)
      | ((with_reducible refine wpList_store_row rfl 29 (.tmp 6) (.tmp 30) rfl _ _ rfl rfl 29 z32 ?_ ?_ ?_ ?_ ?_); exact e2.out; exact sizeDgR xr; exact zDgR xr; exact oneDgR xr; intro w3 hgS hbS hsS; have X3 := hid (xnewP rfl hbS); have R3 := hid (rangeOf (l := xr.1.map bv) hgS); clear hgS hbS hsS; have V3 := hid (V2.out.bel X3.out); have H3 := hid (H2.out.bel X3.out (Nat.lt_of_lt_of_le hlow.out W2.out.size)); have W3 := hid (W2.out.trans (X3.out.mono W2.out.size)); have O3 := hid (O2.out.bel X3.out); clear V2 H2 W2 O2))
    refine (hR.out _ V3.out).mono ?_
    rintro e w4 ⟨rfl, hb⟩
    have V4 := hid (V3.out.bel hb)
    have H4 := hid (H3.out.bel hb (Nat.lt_of_lt_of_le hlow.out W3.out.size))
    have W4 := hid (W3.out.trans (hb.mono W3.out.size))
    have O4 := hid (O3.out.bel hb)
    have R4 := hid (rangeBel2 hb R3.out)
    clear V3 H3 W3 O3 R3
    clear hb
    have e4 := hid (heap_alloc_new w4 (.cells z32 29))
    go_wp2_with (first
      | (with_reducible refine wpList_alloc_row rfl 29 rfl z32 info32 ?_)
      | ((with_reducible refine wpList_store_row rfl 29 (.tmp 8) (.tmp 35) rfl _ _ rfl rfl 29 z32 ?_ ?_ ?_ ?_ ?_); exact e4.out; exact sizeDgR xr; exact zDgR xr; exact oneDgR xr; intro w5 hgS hbS hsS; have X5 := hid (xnewP rfl hbS); have Q5 := hid (rangeOf (l := xr.1.map bv) hgS); clear hgS hbS hsS; have V5 := hid (V4.out.bel X5.out); have H5 := hid (H4.out.bel X5.out (Nat.lt_of_lt_of_le hlow.out W4.out.size)); have W5 := hid (W4.out.trans (X5.out.mono W4.out.size)); have O5 := hid (O4.out.bel X5.out); have R5 := hid (rangeBel2 X5.out R4.out); clear V4 H4 W4 O4 R4))
    refine (hS.out _ _ _ O5.out o1.out.1 o1.out.2 H5.out).mono ?_
    rintro e w6 ⟨A6, c6, rfl, hO, hb⟩
    have V6 := hid (V5.out.bel hb)
    have H6 := hid (H5.out.bel hb (Nat.lt_of_lt_of_le hlow.out W5.out.size))
    have W6 := hid (W5.out.trans (hb.mono W5.out.size))
    have O6 := hid (O5.out.bel hb)
    have R6 := hid (rangeBel2 hb R5.out)
    have Q6 := hid (rangeBel2 hb Q5.out)
    clear V5 H5 W5 O5 R5 Q5
    have S6 := hid hO.row
    clear hb hO
    go_wp2_with fail
    refine (hU.out _ V6.out).mono ?_
    rintro e w7 ⟨A7, c7, rfl, hO, hb⟩
    have V7 := hid (V6.out.bel hb)
    have H7 := hid (H6.out.bel hb (Nat.lt_of_lt_of_le hlow.out W6.out.size))
    have W7 := hid (W6.out.trans (hb.mono W6.out.size))
    have O7 := hid (O6.out.bel hb)
    have R7 := hid (rangeBel2 hb R6.out)
    have Q7 := hid (rangeBel2 hb Q6.out)
    have S7 := hid (S6.out.bel hb)
    clear V6 H6 W6 O6 R6 Q6 S6
    have U7 := hid hO.row
    clear hb hO
    go_wp2_with (first
      | ((with_reducible refine wpList_load_rng ?_ 29 (.tmp 6) rfl _ 0 rfl (xr.1.map bv) _ ?_ hu rfl ixr.out ?_); rfl; exact R7.out)
      | ((with_reducible refine wpList_load_rng ?_ 29 (.tmp 8) rfl _ 0 rfl (xr.1.map bv) _ ?_ hu rfl ixr.out ?_); rfl; exact Q7.out)
      | ((with_reducible refine wpList_load_rng rfl 29 (.tmp 6) rfl _ 0 rfl (xr.1.map bv) _ ?_ hu rfl ixr.out ?_); exact R7.out)
      | ((with_reducible refine wpList_load_rng rfl 29 (.tmp 8) rfl _ 0 rfl (xr.1.map bv) _ ?_ hu rfl ixr.out ?_); exact Q7.out))
    refine (hD.out _ _ _ _ _ _ _ S7.out U7.out).mono ?_
    rintro e w8 ⟨rfl, hb⟩
    have V8 := hid (V7.out.bel hb)
    have H8 := hid (H7.out.bel hb (Nat.lt_of_lt_of_le hlow.out W7.out.size))
    have W8 := hid (W7.out.trans (hb.mono W7.out.size))
    have O8 := hid (O7.out.bel hb)
    have R8 := hid (rangeBel2 hb R7.out)
    have Q8 := hid (rangeBel2 hb Q7.out)
    have S8 := hid (S7.out.bel hb)
    have U8 := hid (U7.out.bel hb)
    clear V7 H7 W7 O7 R7 Q7 S7 U7
    clear hb
    go_wp2_with fail
    refine (hL.out _ _ _ O8.out V8.out).mono ?_
    rintro e w9 ⟨rfl, hb⟩
    have V9 := hid (V8.out.bel hb)
    have H9 := hid (H8.out.bel hb (Nat.lt_of_lt_of_le hlow.out W8.out.size))
    have W9 := hid (W8.out.trans (hb.mono W8.out.size))
    have O9 := hid (O8.out.bel hb)
    have R9 := hid (rangeBel2 hb R8.out)
    have Q9 := hid (rangeBel2 hb Q8.out)
    have S9 := hid (S8.out.bel hb)
    have U9 := hid (U8.out.bel hb)
    clear V8 H8 W8 O8 R8 Q8 S8 U8
    clear hb
    go_wp2
    go_ret
    exact ⟨rfl, W9.out⟩
  have q1 : decide ((ls0.length : Int) < 256) = false := decide_eq_false (fun h => hout ⟨rfl, .inl (by omega)⟩)
  cases g2
  case true => exact absurd ⟨rfl, .inr rfl⟩ hout
  clear hout
  go_enter Tryd.func4, Tryd.ntmps4
  go_wp2_with fail
  refine (hG.out _ V0.out).mono ?_
  rintro e w2 ⟨rfl, hw⟩
  rw [hw]
  clear hw hG
  go_wp2_with fail
  refine (hG2.out _ V0.out).mono ?_
  rintro e w2 ⟨rfl, hw⟩
  rw [hw]
  clear hw hG2
  go_wp2_with fail
  refine (hW.out _ V0.out).mono ?_
  rintro e w1 ⟨A1, c1, rfl, hO, hb⟩
  have V1 := hid (V0.out.bel hb)
  have H1 := hid (H0.out.bel hb (Nat.lt_of_lt_of_le hlow.out W0.out.size))
  have W1 := hid (W0.out.trans (hb.mono W0.out.size))
  clear V0 H0 W0
  have O1 := hid hO.rds
  have o1 := hid hO.cap
  clear hb hO
  go_wp2_with fail
  refine (hP.out _ _ _ O1.out o1.out.1 o1.out.2 H1.out).mono ?_
  rintro e w2 ⟨rfl, hb⟩
  have V2 := hid (V1.out.bel hb)
  have H2 := hid (H1.out.bel hb (Nat.lt_of_lt_of_le hlow.out W1.out.size))
  have W2 := hid (W1.out.trans (hb.mono W1.out.size))
  have O2 := hid (O1.out.bel hb)
  clear V1 H1 W1 O1
  clear hb
  have e2 := hid (heap_alloc_new w2 (.cells z32 29))
  go_wp2_with (first
    | (with_reducible refine wpList_alloc_row rfl 29 rfl z32 info32 ?_)
    | ((with_reducible refine wpList_store_row rfl 29 (.tmp 6) (.tmp 30) rfl _ _ rfl rfl 29 z32 ?_ ?_ ?_ ?_ ?_); exact e2.out; exact sizeDgR xr; exact zDgR xr; exact oneDgR xr; intro w3 hgS hbS hsS; have X3 := hid (xnewP rfl hbS); have R3 := hid (rangeOf (l := xr.1.map bv) hgS); clear hgS hbS hsS; have V3 := hid (V2.out.bel X3.out); have H3 := hid (H2.out.bel X3.out (Nat.lt_of_lt_of_le hlow.out W2.out.size)); have W3 := hid (W2.out.trans (X3.out.mono W2.out.size)); have O3 := hid (O2.out.bel X3.out); clear V2 H2 W2 O2))
  refine (hR.out _ V3.out).mono ?_
  rintro e w4 ⟨rfl, hb⟩
  have V4 := hid (V3.out.bel hb)
  have H4 := hid (H3.out.bel hb (Nat.lt_of_lt_of_le hlow.out W3.out.size))
  have W4 := hid (W3.out.trans (hb.mono W3.out.size))
  have O4 := hid (O3.out.bel hb)
  have R4 := hid (rangeBel2 hb R3.out)
  clear V3 H3 W3 O3 R3
  clear hb
  have e4 := hid (heap_alloc_new w4 (.cells z32 29))
  go_wp2_with (first
    | (with_reducible refine wpList_alloc_row rfl 29 rfl z32 info32 ?_)
    | ((with_reducible refine wpList_store_row rfl 29 (.tmp 8) (.tmp 35) rfl _ _ rfl rfl 29 z32 ?_ ?_ ?_ ?_ ?_); exact e4.out; exact sizeDgR xr; exact zDgR xr; exact oneDgR xr; intro w5 hgS hbS hsS; have X5 := hid (xnewP rfl hbS); have Q5 := hid (rangeOf (l := xr.1.map bv) hgS); clear hgS hbS hsS; have V5 := hid (V4.out.bel X5.out); have H5 := hid (H4.out.bel X5.out (Nat.lt_of_lt_of_le hlow.out W4.out.size)); have W5 := hid (W4.out.trans (X5.out.mono W4.out.size)); have O5 := hid (O4.out.bel X5.out); have R5 := hid (rangeBel2 X5.out R4.out); clear V4 H4 W4 O4 R4))
  refine (hS.out _ _ _ O5.out o1.out.1 o1.out.2 H5.out).mono ?_
  rintro e w6 ⟨A6, c6, rfl, hO, hb⟩
  have V6 := hid (V5.out.bel hb)
  have H6 := hid (H5.out.bel hb (Nat.lt_of_lt_of_le hlow.out W5.out.size))
  have W6 := hid (W5.out.trans (hb.mono W5.out.size))
  have O6 := hid (O5.out.bel hb)
  have R6 := hid (rangeBel2 hb R5.out)
  have Q6 := hid (rangeBel2 hb Q5.out)
  clear V5 H5 W5 O5 R5 Q5
  have S6 := hid hO.row
  clear hb hO
  go_wp2_with fail
  refine (hU.out _ V6.out).mono ?_
  rintro e w7 ⟨A7, c7, rfl, hO, hb⟩
  have V7 := hid (V6.out.bel hb)
  have H7 := hid (H6.out.bel hb (Nat.lt_of_lt_of_le hlow.out W6.out.size))
  have W7 := hid (W6.out.trans (hb.mono W6.out.size))
  have O7 := hid (O6.out.bel hb)
  have R7 := hid (rangeBel2 hb R6.out)
  have Q7 := hid (rangeBel2 hb Q6.out)
  have S7 := hid (S6.out.bel hb)
  clear V6 H6 W6 O6 R6 Q6 S6
  have U7 := hid hO.row
  clear hb hO
  go_wp2_with (first
    | ((with_reducible refine wpList_load_rng ?_ 29 (.tmp 6) rfl _ 0 rfl (xr.1.map bv) _ ?_ hu rfl ixr.out ?_); rfl; exact R7.out)
    | ((with_reducible refine wpList_load_rng ?_ 29 (.tmp 8) rfl _ 0 rfl (xr.1.map bv) _ ?_ hu rfl ixr.out ?_); rfl; exact Q7.out)
    | ((with_reducible refine wpList_load_rng rfl 29 (.tmp 6) rfl _ 0 rfl (xr.1.map bv) _ ?_ hu rfl ixr.out ?_); exact R7.out)
    | ((with_reducible refine wpList_load_rng rfl 29 (.tmp 8) rfl _ 0 rfl (xr.1.map bv) _ ?_ hu rfl ixr.out ?_); exact Q7.out))
  refine (hD.out _ _ _ _ _ _ _ S7.out U7.out).mono ?_
  rintro e w8 ⟨rfl, hb⟩
  have V8 := hid (V7.out.bel hb)
  have H8 := hid (H7.out.bel hb (Nat.lt_of_lt_of_le hlow.out W7.out.size))
  have W8 := hid (W7.out.trans (hb.mono W7.out.size))
  have O8 := hid (O7.out.bel hb)
  have R8 := hid (rangeBel2 hb R7.out)
  have Q8 := hid (rangeBel2 hb Q7.out)
  have S8 := hid (S7.out.bel hb)
  have U8 := hid (U7.out.bel hb)
  clear V7 H7 W7 O7 R7 Q7 S7 U7
  clear hb
  go_wp2_with fail
  refine (hL.out _ _ _ O8.out V8.out).mono ?_
  rintro e w9 ⟨rfl, hb⟩
  have V9 := hid (V8.out.bel hb)
  have H9 := hid (H8.out.bel hb (Nat.lt_of_lt_of_le hlow.out W8.out.size))
  have W9 := hid (W8.out.trans (hb.mono W8.out.size))
  have O9 := hid (O8.out.bel hb)
  have R9 := hid (rangeBel2 hb R8.out)
  have Q9 := hid (rangeBel2 hb Q8.out)
  have S9 := hid (S8.out.bel hb)
  have U9 := hid (U8.out.bel hb)
  clear V8 H8 W8 O8 R8 Q8 S8 U8
  clear hb
  go_wp2
  go_ret
  exact ⟨rfl, W9.out⟩

/-! ### WHAT THE WALK GIVES, FOR EVERY ARGUMENT AND EVERY WORLD THAT HOLDS THE TABLE -/
set_option maxRecDepth 100000 in
theorem contract (H : Type) (enc : TypeId × Value → H) (W : World) (base : Nat) (args : Array Value) (ds gs : List (DataW H)) (before : List MemPlace)
    (hval0 : ∀ (j : Nat) t v, Tryd.f4.params[j]? = some t → args[j]? = some v → Value.okWide Tryd.prog W .any base t v)
    (hW : DataW.Whole enc Tryd.prog Tryd.f4.params.toList Rows.rowsTellSpec.vars false W args.toList ds gs before) (hL : laidMetH Tryd.prog Rows.rowsTellRow.laid W) :
    Calls Tryd.prog 4 args W fun e W' => ∃ v, e = .returned v ∧ Rows.rowsTellSpec.post enc Tryd.prog Tryd.f4 false true false false W args v W' := by
  have hval : ∀ (j : Nat) t v, Tryd.f4.params[j]? = some t → args[j]? = some v → Value.okWide Tryd.prog W .any base t v := hval0
  have hW' := hW
  obtain ⟨p, q, hA0, hV, rfl, hfz, hnd⟩ := hW
  have hA : DataW.TrodAll enc Tryd.prog W 0 (fun _ => true) true Tryd.f4.params.toList args.toList ds p := hA0
  rw [Tryd.params4] at hA hval
  obtain ⟨v0, vs0, d0, ds0, p0, q0, hargs, rfl, rfl, h0, r0⟩ := trodAll_cons hA
  obtain ⟨v1, vs1, d1, ds1, p1, q1, rfl, rfl, rfl, h1, r1⟩ := trodAll_cons r0
  obtain ⟨rfl, rfl, rfl⟩ := trodAll_nil r1
  obtain rfl : args = #[v0, v1] := by cases args; simp_all
  obtain ⟨rfl, rfl⟩ := trodVars_none hV
  obtain ⟨a0, len0, cap0, rfl⟩ := okWide_slice Tryd.underlying26 (hval 0 26 v0 rfl rfl)
  have k0 := h0
  have lt0 : ∀ x ∈ p0, x.block < W.heap.size := by obtain ⟨m, hm⟩ := k0; exact DataW.trod_lt m _ _ _ hm
  obtain ⟨ls0, w0⟩ : ∃ ls : List (List UInt8), len0 = ls.length ∧ Rds W a0 ls ∧ ls.length ≤ cap0 ∧ cap0 ≤ maxLen := by
    obtain ⟨fuel, hf⟩ := h0
    exact open_rows Tryd.underlying26 Tryd.underlying33 Tryd.underlying5 (by kernel_rfl) (by kernel_rfl) hf
  obtain ⟨a1, rfl, rfl, rfl, w1⟩ := open_int Tryd.underlying3 (hval 1 3 v1 rfl rfl) h1
  clear hA0 hval0
  refine (walk a0 len0 cap0 ls0 a1 W w0 w1 (tab_of hL)).mono fun e W' ⟨he, bel⟩ => ?_
  subst he
  exact ⟨_, rfl, _, _, _, [], _, [], hW', trodAll_mk1 (shut_bool Tryd.underlying4 _), (trodAll_cons_mk (Below.trod laidOut (by kernel_rfl) (of_decide_eq_true (by kernel_rfl)) k0 bel lt0) (trodAll_cons_mk (shut_int Tryd.underlying3 w1) trodAll_mk0)), rfl, bel.frame _, fun h => by cases h⟩

theorem laid_met (os : Os) : laidMet Tryd.prog Rows.rowsTellRow.laid ((laidWorld os).forCall (fun _ _ => 0) ⟨#[], #[.slice none 0 0, .int .i64 0], []⟩).memory :=
  laidMet_of_run' 8 (by kernel_rfl) (by kernel_rfl)
theorem reads (os : Os) {H : Type} (enc : TypeId × Value → H) : ∃ places, DataW.whole enc Tryd.prog ((laidWorld os).forCall (fun _ _ => 0) ⟨#[], #[.slice none 0 0, .int .i64 0], []⟩).memory Tryd.f4.params.toList Rows.rowsTellSpec.vars false (#[.slice none 0 0, .int .i64 0] : Array Value).toList 8 = some ([.nil, .lit (.int .i64 0)], [], places) :=
  ⟨[], by kernel_rfl⟩
set_option maxRecDepth 100000 in
theorem lifted (os : Os) (started : os.Started) (H : Type) (enc : TypeId × Value → H) (F : Stop.Interp) :
    ReturnsInHanded {} Tryd.checked os 4 .any ((OpenSpec.ofChange Rows.rowsTellSpec).preRow enc Tryd.prog Tryd.f4 Rows.rowsTellRow.domain false Rows.rowsTellRow.laid) (((OpenSpec.ofChange Rows.rowsTellSpec).at F).post enc Tryd.prog Tryd.f4 false true false false) := by
  obtain ⟨places, hx⟩ := reads os enc
  refine returnsInHanded_of_row (C := Tryd.checked) (s := OpenSpec.ofChange Rows.rowsTellSpec) own started (by kernel_rfl) Tryd.func4
    (witness_row_at (enc := enc) (C := Tryd.checked) false (laidWorld os) #[.slice none 0 0, .int .i64 0] rfl (by kernel_rfl) (by kernel_rfl) (by kernel_rfl)
      (OpenSpec.preRow_of_cond 8 hx (by kernel_rfl) (fun k hk => by cases hk) (by kernel_rfl) (laid_met os))) ?_
  intro W base args ds gs before hval hW _ _ _ hL _ _
  exact contract H enc W base args ds gs before hval hW hL
theorem said : Rows.RowsTellSaid :=
  OpenClaim.holds_of_cond 4 Tryd.f4 rfl rfl rfl rfl rfl rfl rfl ⟨rfl, rfl, rfl, rfl, rfl⟩ rfl rfl rfl rfl rfl (by kernel_rfl) Tryd.func4 (by kernel_rfl)
    (of_decide_eq_true (by kernel_rfl)) (by unfold Func.isWrapper; first | (rw [if_pos (by decide +kernel)]; kernel_rfl) | (rw [if_neg (by decide +kernel)]; exact ⟨rfl, rfl⟩))
    (fun os started H enc _ F => by rw [OpenClaim.pre_eq_preRow]; exact lifted os started H enc F)
set_option maxRecDepth 100000 in
/-- No parameter wants a stand-in; the program's own looks are off: what the card asks. -/
theorem plain (f : FuncId) (fn : Func) (hf : Tryd.pinned.checked.prog.funcNamed "beadroll/beadrolllaw13.RowsTell" = some f) (hfn : Tryd.pinned.checked.prog.funcs[f]? = some fn) :
    false = Tryd.pinned.checked.prog.looks [] ∧ ∀ (j : Nat) t, fn.params[j]? = some t → Tryd.pinned.checked.prog.wantsStandIn t = false := by
  obtain rfl : f = 4 := Option.some.inj ((show Tryd.prog.funcNamed "beadroll/beadrolllaw13.RowsTell" = some 4 by kernel_rfl).symm.trans hf) |>.symm
  obtain rfl : fn = Tryd.f4 := (Option.some.inj (Tryd.func4.symm.trans hfn)).symm
  refine ⟨by kernel_rfl, fun j t ht => ?_⟩
  rw [Tryd.params4] at ht
  have hm := Array.mem_of_getElem? ht
  simp only [List.mem_toArray, List.mem_cons, List.not_mem_nil, or_false] at hm
  rcases hm with rfl | rfl
  all_goals first | exact (show Tryd.prog.wantsStandIn 26 = false by kernel_rfl) | exact (show Tryd.prog.wantsStandIn 3 = false by kernel_rfl)
set_option maxRecDepth 100000 in
/-- ████ THE CARD ████ -/
theorem proved : Rows.RowsTellCardSaid :=
  Claim7.holds_tied_plain_at .later [] _ _ _ _ said (fun _ h => by cases h) (by kernel_rfl) (fun _ h => by cases h) rowsTell_row_tie rfl ⟨rfl, rfl⟩ (by kernel_rfl) rfl plain (by kernel_rfl)
#print axioms proved
end Go.Proofs.YtgmlmkhiflnhdaaDoor.rowsTell
