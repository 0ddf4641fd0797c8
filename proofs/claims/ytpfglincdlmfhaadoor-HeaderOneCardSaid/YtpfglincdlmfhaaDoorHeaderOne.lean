/-
  The Go function HeaderOne returns true: one that follows two unlike headers shows two unlike texts of one digest: any three; its arguments read afterwards as before.
  Conditions: none. The frame around the walk was written by program (proof-skeleton.mjs).
-/
import Derived.Test.YtpfglincdlmfhaaDoorRows
import Derived.Test.YtpfglincdlmfhaaDoorDoor
import Derived.WalkKit
import Derived.ProofKit
import Derived.OpenShut
import Derived.ShutString
import Derived.ChangeOld
import Derived.Below
import Derived.Test.YtpfglincdlmfhaaDoorHdD
import Derived.Test.YtpfglincdlmfhaaDoorAlive14
import Derived.Test.YtpfglincdlmfhaaDoorTagA
import Derived.Test.YtpfglincdlmfhaaDoorSls
import Derived.Test.YtpfglincdlmfhaaDoorBits
namespace Go.Proofs.YtpfglincdlmfhaaDoor.headerOne
open Go.ChangeShapes Go.WideShapes Go.ChangeAt Go.RowKit
open Go.ChangeMaps (open_string shut_string)
set_option linter.unusedVariables false

theorem own : ownKnob Tryd.prog.godebug = none := by kernel_rfl
theorem laidOut : laidOutB Tryd.prog = true := by kernel_rfl

/-- WHAT THE WALK IS TOLD OF A SLICE OF INTEGERS THAT CAME IN: it is nil; or it leads to a row of 'cap' cells, the numbers 'zs' (the first 'len' are its elements, the rest its spare room), each fitting its kind. -/
def IsRow (k : IntKind) (w : World) (a : Option Addr) (len cap : Nat) (zs : List Int) : Prop :=
  (a = none ∧ len = 0 ∧ cap = 0 ∧ zs = []) ∨
  ∃ x, a = some x ∧ len ≤ cap ∧ cap ≤ maxLen ∧ zs.length = cap ∧ (∀ i, i < zs.length → w.cell? (x.add i) = some (.int k (zs.getD i 0))) ∧ ∀ n ∈ zs, (Lit.int k n).wf = true

/-! ### the walk -/
open Go.Proofs.YtpfglincdlmfhaaDoor
theorem boxes3H (w : World) (x y z : Hd) (t : TypeId) : (((w.alloc (.cells (hdC x).toArray t)).alloc (.cells (hdC y).toArray t)).alloc (.cells (hdC z).toArray t)).rangeAt w.heap.size 0 (hdC x) ∧ (((w.alloc (.cells (hdC x).toArray t)).alloc (.cells (hdC y).toArray t)).alloc (.cells (hdC z).toArray t)).rangeAt (w.heap.size + 1) 0 (hdC y) ∧
    (((w.alloc (.cells (hdC x).toArray t)).alloc (.cells (hdC y).toArray t)).alloc (.cells (hdC z).toArray t)).rangeAt (w.heap.size + 1 + 1) 0 (hdC z) ∧ Below w.heap.size w (((w.alloc (.cells (hdC x).toArray t)).alloc (.cells (hdC y).toArray t)).alloc (.cells (hdC z).toArray t)) := by
  have a1 := rangeOf (heap_alloc_new w (.cells (hdC x).toArray t))
  have a2 := rangeOf (heap_alloc_new (w.alloc (.cells (hdC x).toArray t)) (.cells (hdC y).toArray t))
  have a3 := rangeOf (heap_alloc_new ((w.alloc (.cells (hdC x).toArray t)).alloc (.cells (hdC y).toArray t)) (.cells (hdC z).toArray t))
  simp only [World.size_alloc] at a2 a3
  have b2 := ext_alloc (w.alloc (.cells (hdC x).toArray t)) (.cells (hdC y).toArray t)
  have b3 := ext_alloc ((w.alloc (.cells (hdC x).toArray t)).alloc (.cells (hdC y).toArray t)) (.cells (hdC z).toArray t)
  exact ⟨rangeBel2 b3 (rangeBel2 b2 a1), rangeBel2 b3 a2, a3, ext_trans (ext_trans (ext_alloc w _) b2) b3⟩
theorem ofH_any (l : List UInt8) (hl : l.length ≤ 1000000) (g : Nat) (W : World) (h : Rds W (some ⟨g, 0, none⟩) [l]) (hT : Tab W) :
    Calls Tryd.prog 19 #[.slice (some ⟨g, 0, none⟩) 1 1] W fun e w' => e = .returned (.agg ((sha256 l).map bv).toArray) ∧ Below W.heap.size W w' := by
  refine (Of_any _ 1 1 [l] _ h rfl (by simp) (by simpa using hl) hT).mono ?_
  rintro e w' ⟨rfl, hb2⟩
  exact ⟨by simp, hb2⟩
set_option linter.unusedSimpArgs false
set_option maxRecDepth 100000 in
set_option maxHeartbeats 8000000 in
theorem walk (x0 : Hd) (vs0 : List Value) (x1 : Hd) (vs1 : List Value) (x2 : Hd) (vs2 : List Value) (w : World) (w0 : Enc.rep (fun b => b < w.heap.size) w x0 vs0) (w1 : Enc.rep (fun b => b < w.heap.size) w x1 vs1) (w2 : Enc.rep (fun b => b < w.heap.size) w x2 vs2) (hT : Tab w) :
    Calls Tryd.prog 5 #[.agg vs0.toArray, .agg vs1.toArray, .agg vs2.toArray] w fun e w' => e = .returned (.bool true) ∧ Below w.heap.size w w' := by
  obtain ⟨rfl, hx⟩ := rep_hd w0
  obtain ⟨rfl, hy⟩ := rep_hd w1
  obtain ⟨rfl, hz⟩ := rep_hd w2
  have huh := Tryd.underlying25
  obtain ⟨D0, P0, E0, W0⟩ := boxes3H w x0 x1 x2 25
  have H0 := hid (hT.bel W0 hT.low)
  have hlow := hid hT.low
  replace D0 := hid D0
  replace P0 := hid P0
  replace E0 := hid E0
  replace W0 := hid W0
  clear hT w0 w1 w2
  have hAl := hid (fun W => alive14_any W)
  have hF1 := fun W hT => PHdFollows_any x0 x1 hx hy W hT
  have hF2 := fun W hT => PHdFollows_any x0 x2 hx hz W hT
  obtain ⟨f1, hf1⟩ : ∃ b, follows x0 x1 = b := ⟨_, rfl⟩
  obtain ⟨f2, hf2⟩ : ∃ b, follows x0 x2 = b := ⟨_, rfl⟩
  obtain ⟨eq, heq⟩ : ∃ b, decide (x1 = x2) = b := ⟨_, rfl⟩
  rw [hf1] at hF1
  rw [hf2] at hF2
  have eX : ∀ W, (Op.equalIn 10000 25 (.agg (hdC x1).toArray) (.agg (hdC x2).toArray)).run Tryd.prog W = .ok eq W := fun W => eqhd_is x1 x2 hy hz eq heq W
  replace hF1 := hid hF1
  replace hF2 := hid hF2
  have hB1 := fun W => PHdBytes_any x1 hy W
  have hB2 := fun W => PHdBytes_any x2 hz W
  have nx0 := hid (one_hd (x0))
  have jx0 := hid (sizeHd (x0))
  have ax0 := hid (sizeHdA (x0))
  have zx0 := hid (zSizeHd (x0))
  have nx1 := hid (one_hd (x1))
  have jx1 := hid (sizeHd (x1))
  have ax1 := hid (sizeHdA (x1))
  have zx1 := hid (zSizeHd (x1))
  have nx2 := hid (one_hd (x2))
  have jx2 := hid (sizeHd (x2))
  have ax2 := hid (sizeHdA (x2))
  have zx2 := hid (zSizeHd (x2))
  cases f1
  case false =>
    generalize hdC x0 = cx at *
    generalize hdC x1 = cy at *
    generalize hdC x2 = cz at *
    go_enter Tryd.func5, Tryd.ntmps5
    go_wp2_with fail
    generalize ((w.alloc (.cells cx.toArray 25)).alloc (.cells cy.toArray 25)).alloc (.cells cz.toArray 25) = v0 at *
    refine (hAl.out _).mono ?_
    rintro e w1 ⟨rfl, hb⟩
    have D1 := hid (rangeBel2 hb D0.out)
    have P1 := hid (rangeBel2 hb P0.out)
    have E1 := hid (rangeBel2 hb E0.out)
    have H1 := hid (H0.out.bel hb (Nat.lt_of_lt_of_le hlow.out W0.out.size))
    have W1 := hid (W0.out.trans (hb.mono W0.out.size))
    clear D0 P0 E0 H0 W0
    clear hb
    go_wp2_with (first
      | ((with_reducible refine wpList_load_rng rfl 25 (.tmp 3) rfl _ 0 rfl cx _ ?_ huh rfl jx0.out ?_); exact D1.out)
      | ((with_reducible refine wpList_load_rng rfl 25 (.tmp 4) rfl _ 0 rfl cy _ ?_ huh rfl jx1.out ?_); exact P1.out))
    refine (hF1.out _ H1.out).mono ?_
    rintro e w2 ⟨rfl, hb⟩
    have D2 := hid (rangeBel2 hb D1.out)
    have P2 := hid (rangeBel2 hb P1.out)
    have E2 := hid (rangeBel2 hb E1.out)
    have H2 := hid (H1.out.bel hb (Nat.lt_of_lt_of_le hlow.out W1.out.size))
    have W2 := hid (W1.out.trans (hb.mono W1.out.size))
    clear D1 P1 E1 H1 W1
    clear hb 
    go_wp2
    go_ret
    exact ⟨rfl, W2.out⟩
  cases f2
  case false =>
    generalize hdC x0 = cx at *
    generalize hdC x1 = cy at *
    generalize hdC x2 = cz at *
    go_enter Tryd.func5, Tryd.ntmps5
    go_wp2_with fail
    generalize ((w.alloc (.cells cx.toArray 25)).alloc (.cells cy.toArray 25)).alloc (.cells cz.toArray 25) = v0 at *
    refine (hAl.out _).mono ?_
    rintro e w1 ⟨rfl, hb⟩
    have D1 := hid (rangeBel2 hb D0.out)
    have P1 := hid (rangeBel2 hb P0.out)
    have E1 := hid (rangeBel2 hb E0.out)
    have H1 := hid (H0.out.bel hb (Nat.lt_of_lt_of_le hlow.out W0.out.size))
    have W1 := hid (W0.out.trans (hb.mono W0.out.size))
    clear D0 P0 E0 H0 W0
    clear hb
    go_wp2_with (first
      | ((with_reducible refine wpList_load_rng rfl 25 (.tmp 3) rfl _ 0 rfl cx _ ?_ huh rfl jx0.out ?_); exact D1.out)
      | ((with_reducible refine wpList_load_rng rfl 25 (.tmp 4) rfl _ 0 rfl cy _ ?_ huh rfl jx1.out ?_); exact P1.out))
    refine (hF1.out _ H1.out).mono ?_
    rintro e w2 ⟨rfl, hb⟩
    have D2 := hid (rangeBel2 hb D1.out)
    have P2 := hid (rangeBel2 hb P1.out)
    have E2 := hid (rangeBel2 hb E1.out)
    have H2 := hid (H1.out.bel hb (Nat.lt_of_lt_of_le hlow.out W1.out.size))
    have W2 := hid (W1.out.trans (hb.mono W1.out.size))
    clear D1 P1 E1 H1 W1
    clear hb 
    go_wp2_with (first
      | ((with_reducible refine wpList_load_rng ?_ 25 (.tmp 3) rfl _ 0 rfl cx _ ?_ huh rfl jx0.out ?_); rfl; exact D2.out)
      | ((with_reducible refine wpList_load_rng ?_ 25 (.tmp 5) rfl _ 0 rfl cz _ ?_ huh rfl jx2.out ?_); rfl; exact E2.out))
    refine (hF2.out _ H2.out).mono ?_
    rintro e w3 ⟨rfl, hb⟩
    have D3 := hid (rangeBel2 hb D2.out)
    have P3 := hid (rangeBel2 hb P2.out)
    have E3 := hid (rangeBel2 hb E2.out)
    have H3 := hid (H2.out.bel hb (Nat.lt_of_lt_of_le hlow.out W2.out.size))
    have W3 := hid (W2.out.trans (hb.mono W2.out.size))
    clear D2 P2 E2 H2 W2
    clear hb 
    go_wp2
    go_ret
    exact ⟨rfl, W3.out⟩
  cases eq
  case true =>
    generalize hdC x0 = cx at *
    generalize hdC x1 = cy at *
    generalize hdC x2 = cz at *
    go_enter Tryd.func5, Tryd.ntmps5
    go_wp2_with fail
    generalize ((w.alloc (.cells cx.toArray 25)).alloc (.cells cy.toArray 25)).alloc (.cells cz.toArray 25) = v0 at *
    refine (hAl.out _).mono ?_
    rintro e w1 ⟨rfl, hb⟩
    have D1 := hid (rangeBel2 hb D0.out)
    have P1 := hid (rangeBel2 hb P0.out)
    have E1 := hid (rangeBel2 hb E0.out)
    have H1 := hid (H0.out.bel hb (Nat.lt_of_lt_of_le hlow.out W0.out.size))
    have W1 := hid (W0.out.trans (hb.mono W0.out.size))
    clear D0 P0 E0 H0 W0
    clear hb
    go_wp2_with (first
      | ((with_reducible refine wpList_load_rng rfl 25 (.tmp 3) rfl _ 0 rfl cx _ ?_ huh rfl jx0.out ?_); exact D1.out)
      | ((with_reducible refine wpList_load_rng rfl 25 (.tmp 4) rfl _ 0 rfl cy _ ?_ huh rfl jx1.out ?_); exact P1.out))
    refine (hF1.out _ H1.out).mono ?_
    rintro e w2 ⟨rfl, hb⟩
    have D2 := hid (rangeBel2 hb D1.out)
    have P2 := hid (rangeBel2 hb P1.out)
    have E2 := hid (rangeBel2 hb E1.out)
    have H2 := hid (H1.out.bel hb (Nat.lt_of_lt_of_le hlow.out W1.out.size))
    have W2 := hid (W1.out.trans (hb.mono W1.out.size))
    clear D1 P1 E1 H1 W1
    clear hb 
    go_wp2_with (first
      | ((with_reducible refine wpList_load_rng ?_ 25 (.tmp 3) rfl _ 0 rfl cx _ ?_ huh rfl jx0.out ?_); rfl; exact D2.out)
      | ((with_reducible refine wpList_load_rng ?_ 25 (.tmp 5) rfl _ 0 rfl cz _ ?_ huh rfl jx2.out ?_); rfl; exact E2.out))
    refine (hF2.out _ H2.out).mono ?_
    rintro e w3 ⟨rfl, hb⟩
    have D3 := hid (rangeBel2 hb D2.out)
    have P3 := hid (rangeBel2 hb P2.out)
    have E3 := hid (rangeBel2 hb E2.out)
    have H3 := hid (H2.out.bel hb (Nat.lt_of_lt_of_le hlow.out W2.out.size))
    have W3 := hid (W2.out.trans (hb.mono W2.out.size))
    clear D2 P2 E2 H2 W2
    clear hb 
    go_wp2_with (first
      | ((with_reducible refine wpList_load_rng ?_ 25 (.tmp 4) rfl _ 0 rfl cy _ ?_ huh rfl jx1.out ?_); rfl; exact P3.out)
      | ((with_reducible refine wpList_load_rng ?_ 25 (.tmp 5) rfl _ 0 rfl cz _ ?_ huh rfl jx2.out ?_); rfl; exact E3.out))
    go_ret
    exact ⟨rfl, W3.out⟩
  obtain ⟨m1, m2, hs, hne⟩ := follows_two hf1 hf2 (of_decide_eq_false heq)
  have o1 : hdO x1 = hdB x1 := by unfold hdO; rw [if_pos m1]
  have o2 : hdO x2 = hdB x2 := by unfold hdO; rw [if_pos m2]
  have e1 : hdE x1 = 0 := by unfold hdE; rw [if_pos m1]
  have e2 : hdE x2 = 0 := by unfold hdE; rw [if_pos m2]
  rw [o1, e1, hdB_len] at hB1
  rw [o2, e2, hdB_len] at hB2
  have hTl := fun x : Hd => (show (tagB 6 [hdB x]).length ≤ 1000000 by unfold tagB partB; simp [be_length, hdB_len])
  have hT1 : Hid (∀ (g : Nat) (W : World), Rds W (some ⟨g, 0, none⟩) [hdB x1] → Calls Tryd.prog 18 #[.int .u8 6, .slice (some ⟨g, 0, none⟩) 1 1] W fun r w' => ∃ A' c', r = .returned (.slice A' (tagB 6 [hdB x1]).length c') ∧ Frs w' W.heap.size A' c' (tagB 6 [hdB x1]) ∧ Below W.heap.size W w') := hid (fun g W h => TBytes_any 6 (some ⟨g, 0, none⟩) 1 1 [hdB x1] W h rfl (by simp) (hTl x1))
  have hT2 : Hid (∀ (g : Nat) (W : World), Rds W (some ⟨g, 0, none⟩) [hdB x2] → Calls Tryd.prog 18 #[.int .u8 6, .slice (some ⟨g, 0, none⟩) 1 1] W fun r w' => ∃ A' c', r = .returned (.slice A' (tagB 6 [hdB x2]).length c') ∧ Frs w' W.heap.size A' c' (tagB 6 [hdB x2]) ∧ Below W.heap.size W w') := hid (fun g W h => TBytes_any 6 (some ⟨g, 0, none⟩) 1 1 [hdB x2] W h rfl (by simp) (hTl x2))
  have hO1 := hid (fun g W h hT => ofH_any (tagB 6 [hdB x1]) (hTl x1) g W h hT)
  have hO2 := hid (fun g W h hT => ofH_any (tagB 6 [hdB x2]) (hTl x2) g W h hT)
  have hN : ¬ tagB 6 [hdB x1] = tagB 6 [hdB x2] := fun e => hne (tag6_inj (hdB_len x1) (hdB_len x2) e)
  have hS := hid (fun A D c d W (g1 : Rd W A (tagB 6 [hdB x1])) (g2 : Rd W D (tagB 6 [hdB x2])) => Same_no A D _ _ c d (tagB 6 [hdB x1]) (tagB 6 [hdB x2]) W g1 g2 rfl rfl hN)
  rw [← hs] at hO2
  obtain ⟨dd, hdd⟩ : ∃ d : Dg, sha256 (tagB 6 [hdB x1]) = d.1 := ⟨⟨_, S8.bytes_len _⟩, rfl⟩
  rw [hdd] at hO1 hO2
  have eD : ∀ W, (Op.equalIn 10000 23 (.agg (dd.1.map bv).toArray) (.agg (dd.1.map bv).toArray)).run Tryd.prog W = .ok true W := fun W => eqd_is dd dd true (decide_eq_true rfl) W
  have ly1 := hdB_len x1
  have ly2 := hdB_len x2
  replace hB1 := hid hB1
  replace hB2 := hid hB2
  clear hTl hN hs hne m1 m2 o1 o2 e1 e2 hdd hf1 hf2 heq
  generalize tagB 6 [hdB x1] = t1 at *
  generalize tagB 6 [hdB x2] = t2 at *
  generalize hdB x1 = y1 at *
  generalize hdB x2 = y2 at *
  generalize hdC x0 = cx at *
  generalize hdC x1 = cy at *
  generalize hdC x2 = cz at *
  go_enter Tryd.func5, Tryd.ntmps5
  go_wp2_with fail
  generalize ((w.alloc (.cells cx.toArray 25)).alloc (.cells cy.toArray 25)).alloc (.cells cz.toArray 25) = v0 at *
  refine (hAl.out _).mono ?_
  rintro e w1 ⟨rfl, hb⟩
  have D1 := hid (rangeBel2 hb D0.out)
  have P1 := hid (rangeBel2 hb P0.out)
  have E1 := hid (rangeBel2 hb E0.out)
  have H1 := hid (H0.out.bel hb (Nat.lt_of_lt_of_le hlow.out W0.out.size))
  have W1 := hid (W0.out.trans (hb.mono W0.out.size))
  clear D0 P0 E0 H0 W0
  clear hb
  go_wp2_with (first
    | ((with_reducible refine wpList_load_rng rfl 25 (.tmp 3) rfl _ 0 rfl cx _ ?_ huh rfl jx0.out ?_); exact D1.out)
    | ((with_reducible refine wpList_load_rng rfl 25 (.tmp 4) rfl _ 0 rfl cy _ ?_ huh rfl jx1.out ?_); exact P1.out))
  refine (hF1.out _ H1.out).mono ?_
  rintro e w2 ⟨rfl, hb⟩
  have D2 := hid (rangeBel2 hb D1.out)
  have P2 := hid (rangeBel2 hb P1.out)
  have E2 := hid (rangeBel2 hb E1.out)
  have H2 := hid (H1.out.bel hb (Nat.lt_of_lt_of_le hlow.out W1.out.size))
  have W2 := hid (W1.out.trans (hb.mono W1.out.size))
  clear D1 P1 E1 H1 W1
  clear hb 
  go_wp2_with (first
    | ((with_reducible refine wpList_load_rng ?_ 25 (.tmp 3) rfl _ 0 rfl cx _ ?_ huh rfl jx0.out ?_); rfl; exact D2.out)
    | ((with_reducible refine wpList_load_rng ?_ 25 (.tmp 5) rfl _ 0 rfl cz _ ?_ huh rfl jx2.out ?_); rfl; exact E2.out))
  refine (hF2.out _ H2.out).mono ?_
  rintro e w3 ⟨rfl, hb⟩
  have D3 := hid (rangeBel2 hb D2.out)
  have P3 := hid (rangeBel2 hb P2.out)
  have E3 := hid (rangeBel2 hb E2.out)
  have H3 := hid (H2.out.bel hb (Nat.lt_of_lt_of_le hlow.out W2.out.size))
  have W3 := hid (W2.out.trans (hb.mono W2.out.size))
  clear D2 P2 E2 H2 W2
  clear hb 
  go_wp2_with (first
    | ((with_reducible refine wpList_load_rng ?_ 25 (.tmp 4) rfl _ 0 rfl cy _ ?_ huh rfl jx1.out ?_); rfl; exact P3.out)
    | ((with_reducible refine wpList_load_rng ?_ 25 (.tmp 5) rfl _ 0 rfl cz _ ?_ huh rfl jx2.out ?_); rfl; exact E3.out)
    | ((with_reducible refine wpList_load_rng rfl 25 (.tmp 4) rfl _ 0 rfl cy _ ?_ huh rfl jx1.out ?_); exact P3.out))
  refine (hB1.out _).mono ?_
  rintro e w4 ⟨A4, c4, rfl, hO, hb⟩
  have D4 := hid (rangeBel2 hb D3.out)
  have P4 := hid (rangeBel2 hb P3.out)
  have E4 := hid (rangeBel2 hb E3.out)
  have H4 := hid (H3.out.bel hb (Nat.lt_of_lt_of_le hlow.out W3.out.size))
  have W4 := hid (W3.out.trans (hb.mono W3.out.size))
  clear D3 P3 E3 H3 W3
  have Y4 := hid hO.rd
  have y4 := hO.cap
  rw [ly1] at y4
  replace y4 := hid y4
  clear hb hO
  go_wp2_with (first
    | ((with_reducible refine wpList_load_rng rfl 25 (.tmp 5) rfl _ 0 rfl cz _ ?_ huh rfl jx2.out ?_); exact E4.out))
  refine (hB2.out _).mono ?_
  rintro e w5 ⟨A5, c5, rfl, hO, hb⟩
  have D5 := hid (rangeBel2 hb D4.out)
  have P5 := hid (rangeBel2 hb P4.out)
  have E5 := hid (rangeBel2 hb E4.out)
  have H5 := hid (H4.out.bel hb (Nat.lt_of_lt_of_le hlow.out W4.out.size))
  have W5 := hid (W4.out.trans (hb.mono W4.out.size))
  have Y5 := hid (Y4.out.bel hb)
  clear D4 P4 E4 H4 W4 Y4
  have Z5 := hid hO.rd
  have z5 := hO.cap
  rw [ly2] at z5
  replace z5 := hid z5
  clear hb hO
  go_wp2_with (first
    | ((with_reducible refine wpList_buildSls rfl 1 _ rfl [(A4, c4, y1)] [.slice A4 108 c4] ?_ rfl (by decide) (by decide) ?_ ?_ ?_); (simp [slV, ly1]); rfl; (intro p hp; simp at hp; subst hp; exact ⟨Y5.out, by show y1.length ≤ c4; rw [ly1]; exact y4.out.1, y4.out.2⟩); intro g6 w6 e6 J6 I6; have X6 := hid I6; have T6 := hid J6; clear J6 I6; have D6 := hid (rangeBel2 X6.out D5.out); have P6 := hid (rangeBel2 X6.out P5.out); have E6 := hid (rangeBel2 X6.out E5.out); have H6 := hid (H5.out.bel X6.out (Nat.lt_of_lt_of_le hlow.out W5.out.size)); have W6 := hid (W5.out.trans (X6.out.mono W5.out.size)); have Y6 := hid (Y5.out.bel X6.out); have Z6 := hid (Z5.out.bel X6.out); clear D5 P5 E5 H5 W5 Y5 Z5))
  refine (hT1.out _ _ T6.out).mono ?_
  rintro e w7 ⟨A7, c7, rfl, hO, hb⟩
  have D7 := hid (rangeBel2 hb D6.out)
  have P7 := hid (rangeBel2 hb P6.out)
  have E7 := hid (rangeBel2 hb E6.out)
  have H7 := hid (H6.out.bel hb (Nat.lt_of_lt_of_le hlow.out W6.out.size))
  have W7 := hid (W6.out.trans (hb.mono W6.out.size))
  have Y7 := hid (Y6.out.bel hb)
  have Z7 := hid (Z6.out.bel hb)
  clear D6 P6 E6 H6 W6 Y6 Z6
  have U7 := hid hO.rd
  have u7 := hid hO.cap
  clear hb hO T6
  go_wp2_with (first
    | ((with_reducible refine wpList_buildSls rfl 1 _ rfl [(A5, c5, y2)] [.slice A5 108 c5] ?_ rfl (by decide) (by decide) ?_ ?_ ?_); (simp [slV, ly2]); rfl; (intro p hp; simp at hp; subst hp; exact ⟨Z7.out, by show y2.length ≤ c5; rw [ly2]; exact z5.out.1, z5.out.2⟩); intro g8 w8 e8 J8 I8; have X8 := hid I8; have T8 := hid J8; clear J8 I8; have D8 := hid (rangeBel2 X8.out D7.out); have P8 := hid (rangeBel2 X8.out P7.out); have E8 := hid (rangeBel2 X8.out E7.out); have H8 := hid (H7.out.bel X8.out (Nat.lt_of_lt_of_le hlow.out W7.out.size)); have W8 := hid (W7.out.trans (X8.out.mono W7.out.size)); have Y8 := hid (Y7.out.bel X8.out); have Z8 := hid (Z7.out.bel X8.out); have U8 := hid (U7.out.bel X8.out); clear D7 P7 E7 H7 W7 Y7 Z7 U7))
  refine (hT2.out _ _ T8.out).mono ?_
  rintro e w9 ⟨A9, c9, rfl, hO, hb⟩
  have D9 := hid (rangeBel2 hb D8.out)
  have P9 := hid (rangeBel2 hb P8.out)
  have E9 := hid (rangeBel2 hb E8.out)
  have H9 := hid (H8.out.bel hb (Nat.lt_of_lt_of_le hlow.out W8.out.size))
  have W9 := hid (W8.out.trans (hb.mono W8.out.size))
  have Y9 := hid (Y8.out.bel hb)
  have Z9 := hid (Z8.out.bel hb)
  have U9 := hid (U8.out.bel hb)
  clear D8 P8 E8 H8 W8 Y8 Z8 U8
  have V9 := hid hO.rd
  have v9 := hid hO.cap
  clear hb hO T8
  go_wp2_with fail
  refine (hS.out _ _ _ _ _ U9.out V9.out).mono ?_
  rintro e w10 ⟨rfl, rfl⟩
  go_wp2_with (first
    | ((with_reducible refine wpList_buildSls ?_ 1 _ rfl [(A7, c7, t1)] [.slice A7 t1.length c7] ?_ rfl (by decide) (by decide) ?_ ?_ ?_); rfl; (simp [slV, ly1]); rfl; (intro p hp; simp at hp; subst hp; exact ⟨U9.out, u7.out.1, u7.out.2⟩); intro g11 w11 e11 J11 I11; have X11 := hid I11; have T11 := hid J11; clear J11 I11; have D11 := hid (rangeBel2 X11.out D9.out); have P11 := hid (rangeBel2 X11.out P9.out); have E11 := hid (rangeBel2 X11.out E9.out); have H11 := hid (H9.out.bel X11.out (Nat.lt_of_lt_of_le hlow.out W9.out.size)); have W11 := hid (W9.out.trans (X11.out.mono W9.out.size)); have Y11 := hid (Y9.out.bel X11.out); have Z11 := hid (Z9.out.bel X11.out); have U11 := hid (U9.out.bel X11.out); have V11 := hid (V9.out.bel X11.out); clear D9 P9 E9 H9 W9 Y9 Z9 U9 V9))
  refine (hO1.out _ _ T11.out H11.out).mono ?_
  rintro e w12 ⟨rfl, hb⟩
  have D12 := hid (rangeBel2 hb D11.out)
  have P12 := hid (rangeBel2 hb P11.out)
  have E12 := hid (rangeBel2 hb E11.out)
  have H12 := hid (H11.out.bel hb (Nat.lt_of_lt_of_le hlow.out W11.out.size))
  have W12 := hid (W11.out.trans (hb.mono W11.out.size))
  have Y12 := hid (Y11.out.bel hb)
  have Z12 := hid (Z11.out.bel hb)
  have U12 := hid (U11.out.bel hb)
  have V12 := hid (V11.out.bel hb)
  clear D11 P11 E11 H11 W11 Y11 Z11 U11 V11
  clear hb T11
  go_wp2_with (first
    | ((with_reducible refine wpList_buildSls ?_ 1 _ rfl [(A9, c9, t2)] [.slice A9 t2.length c9] ?_ rfl (by decide) (by decide) ?_ ?_ ?_); rfl; (simp [slV, ly1]); rfl; (intro p hp; simp at hp; subst hp; exact ⟨V12.out, v9.out.1, v9.out.2⟩); intro g13 w13 e13 J13 I13; have X13 := hid I13; have T13 := hid J13; clear J13 I13; have D13 := hid (rangeBel2 X13.out D12.out); have P13 := hid (rangeBel2 X13.out P12.out); have E13 := hid (rangeBel2 X13.out E12.out); have H13 := hid (H12.out.bel X13.out (Nat.lt_of_lt_of_le hlow.out W12.out.size)); have W13 := hid (W12.out.trans (X13.out.mono W12.out.size)); have Y13 := hid (Y12.out.bel X13.out); have Z13 := hid (Z12.out.bel X13.out); have U13 := hid (U12.out.bel X13.out); have V13 := hid (V12.out.bel X13.out); clear D12 P12 E12 H12 W12 Y12 Z12 U12 V12))
  refine (hO2.out _ _ T13.out H13.out).mono ?_
  rintro e w14 ⟨rfl, hb⟩
  have D14 := hid (rangeBel2 hb D13.out)
  have P14 := hid (rangeBel2 hb P13.out)
  have E14 := hid (rangeBel2 hb E13.out)
  have H14 := hid (H13.out.bel hb (Nat.lt_of_lt_of_le hlow.out W13.out.size))
  have W14 := hid (W13.out.trans (hb.mono W13.out.size))
  have Y14 := hid (Y13.out.bel hb)
  have Z14 := hid (Z13.out.bel hb)
  have U14 := hid (U13.out.bel hb)
  have V14 := hid (V13.out.bel hb)
  clear D13 P13 E13 H13 W13 Y13 Z13 U13 V13
  clear hb T13
  go_wp2
  go_ret
  exact ⟨rfl, W14.out⟩

/-! ### WHAT THE WALK GIVES, FOR EVERY ARGUMENT AND EVERY WORLD THAT HOLDS THE TABLE -/
set_option maxRecDepth 100000 in
theorem contract (H : Type) (enc : TypeId × Value → H) (W : World) (base : Nat) (args : Array Value) (ds gs : List (DataW H)) (before : List MemPlace)
    (hval0 : ∀ (j : Nat) t v, Tryd.f5.params[j]? = some t → args[j]? = some v → Value.okWide Tryd.prog W .any base t v)
    (hW : DataW.Whole enc Tryd.prog Tryd.f5.params.toList Rows.headerOneSpec.vars false W args.toList ds gs before) (hL : laidMetH Tryd.prog Rows.headerOneRow.laid W) :
    Calls Tryd.prog 5 args W fun e W' => ∃ v, e = .returned v ∧ Rows.headerOneSpec.post enc Tryd.prog Tryd.f5 false true false false W args v W' := by
  have hval : ∀ (j : Nat) t v, Tryd.f5.params[j]? = some t → args[j]? = some v → Value.okWide Tryd.prog W .any base t v := hval0
  have hW' := hW
  obtain ⟨p, q, hA0, hV, rfl, hfz, hnd⟩ := hW
  have hA : DataW.TrodAll enc Tryd.prog W 0 (fun _ => true) true Tryd.f5.params.toList args.toList ds p := hA0
  rw [Tryd.params5] at hA hval
  obtain ⟨v0, vs0, d0, ds0, p0, q0, hargs, rfl, rfl, h0, r0⟩ := trodAll_cons hA
  obtain ⟨v1, vs1, d1, ds1, p1, q1, rfl, rfl, rfl, h1, r1⟩ := trodAll_cons r0
  obtain ⟨v2, vs2, d2, ds2, p2, q2, rfl, rfl, rfl, h2, r2⟩ := trodAll_cons r1
  obtain ⟨rfl, rfl, rfl⟩ := trodAll_nil r2
  obtain rfl : args = #[v0, v1, v2] := by cases args; simp_all
  obtain ⟨rfl, rfl⟩ := trodVars_none hV
  have k0 := h0
  have lt0 : ∀ x ∈ p0, x.block < W.heap.size := by obtain ⟨m, hm⟩ := k0; exact DataW.trod_lt m _ _ _ hm
  obtain ⟨x0, vs0, rfl, w0⟩ := open_struct opensHd Tryd.underlying25 (hval 0 25 v0 rfl rfl) h0
  have k1 := h1
  have lt1 : ∀ x ∈ p1, x.block < W.heap.size := by obtain ⟨m, hm⟩ := k1; exact DataW.trod_lt m _ _ _ hm
  obtain ⟨x1, vs1, rfl, w1⟩ := open_struct opensHd Tryd.underlying25 (hval 1 25 v1 rfl rfl) h1
  have k2 := h2
  have lt2 : ∀ x ∈ p2, x.block < W.heap.size := by obtain ⟨m, hm⟩ := k2; exact DataW.trod_lt m _ _ _ hm
  obtain ⟨x2, vs2, rfl, w2⟩ := open_struct opensHd Tryd.underlying25 (hval 2 25 v2 rfl rfl) h2
  clear hA0 hval0
  refine (walk x0 vs0 x1 vs1 x2 vs2 W w0 w1 w2 (tab_of hL)).mono fun e W' ⟨he, bel⟩ => ?_
  subst he
  exact ⟨_, rfl, _, _, _, [], _, [], hW', trodAll_mk1 (shut_bool Tryd.underlying4 _), (trodAll_cons_mk (Below.trod laidOut (by kernel_rfl) (of_decide_eq_true (by kernel_rfl)) k0 bel lt0) (trodAll_cons_mk (Below.trod laidOut (by kernel_rfl) (of_decide_eq_true (by kernel_rfl)) k1 bel lt1) (trodAll_cons_mk (Below.trod laidOut (by kernel_rfl) (of_decide_eq_true (by kernel_rfl)) k2 bel lt2) trodAll_mk0))), rfl, bel.frame _, fun h => by cases h⟩

theorem laid_met (os : Os) : laidMet Tryd.prog Rows.headerOneRow.laid ((laidWorld os).forCall (fun _ _ => 0) ⟨#[], #[.agg zHdC, .agg zHdC, .agg zHdC], []⟩).memory :=
  laidMet_of_run' 8 (by kernel_rfl) (by kernel_rfl)
theorem reads (os : Os) {H : Type} (enc : TypeId × Value → H) : ∃ places, DataW.whole enc Tryd.prog ((laidWorld os).forCall (fun _ _ => 0) ⟨#[], #[.agg zHdC, .agg zHdC, .agg zHdC], []⟩).memory Tryd.f5.params.toList Rows.headerOneSpec.vars false (#[.agg zHdC, .agg zHdC, .agg zHdC] : Array Value).toList 8 = some ([.agg [.lit (.int .i64 0), .agg (List.replicate 32 (.lit (.int .u8 0))), .agg (List.replicate 32 (.lit (.int .u8 0))), .agg (List.replicate 32 (.lit (.int .u8 0))), .lit (.int .i64 0)], .agg [.lit (.int .i64 0), .agg (List.replicate 32 (.lit (.int .u8 0))), .agg (List.replicate 32 (.lit (.int .u8 0))), .agg (List.replicate 32 (.lit (.int .u8 0))), .lit (.int .i64 0)], .agg [.lit (.int .i64 0), .agg (List.replicate 32 (.lit (.int .u8 0))), .agg (List.replicate 32 (.lit (.int .u8 0))), .agg (List.replicate 32 (.lit (.int .u8 0))), .lit (.int .i64 0)]], [], places) :=
  ⟨[], by kernel_rfl⟩
set_option maxRecDepth 100000 in
theorem lifted (os : Os) (started : os.Started) (H : Type) (enc : TypeId × Value → H) (F : Stop.Interp) :
    ReturnsInHanded {} Tryd.checked os 5 .any ((OpenSpec.ofChange Rows.headerOneSpec).preRow enc Tryd.prog Tryd.f5 Rows.headerOneRow.domain false Rows.headerOneRow.laid) (((OpenSpec.ofChange Rows.headerOneSpec).at F).post enc Tryd.prog Tryd.f5 false true false false) := by
  obtain ⟨places, hx⟩ := reads os enc
  refine returnsInHanded_of_row (C := Tryd.checked) (s := OpenSpec.ofChange Rows.headerOneSpec) own started (by kernel_rfl) Tryd.func5
    (witness_row_at (enc := enc) (C := Tryd.checked) false (laidWorld os) #[.agg zHdC, .agg zHdC, .agg zHdC] rfl (by kernel_rfl) (by kernel_rfl) (by kernel_rfl)
      (OpenSpec.preRow_of_cond 8 hx (by kernel_rfl) (fun k hk => by cases hk) (by kernel_rfl) (laid_met os))) ?_
  intro W base args ds gs before hval hW _ _ _ hL _ _
  exact contract H enc W base args ds gs before hval hW hL
theorem said : Rows.HeaderOneSaid :=
  OpenClaim.holds_of_cond 5 Tryd.f5 rfl rfl rfl rfl rfl rfl rfl ⟨rfl, rfl, rfl, rfl, rfl⟩ rfl rfl rfl rfl rfl (by kernel_rfl) Tryd.func5 (by kernel_rfl)
    (of_decide_eq_true (by kernel_rfl)) (by unfold Func.isWrapper; first | (rw [if_pos (by decide +kernel)]; kernel_rfl) | (rw [if_neg (by decide +kernel)]; exact ⟨rfl, rfl⟩))
    (fun os started H enc _ F => by rw [OpenClaim.pre_eq_preRow]; exact lifted os started H enc F)
set_option maxRecDepth 100000 in
/-- No parameter wants a stand-in; the program's own looks are off: what the card asks. -/
theorem plain (f : FuncId) (fn : Func) (hf : Tryd.pinned.checked.prog.funcNamed "beadroll/beadrolllaw14.HeaderOne" = some f) (hfn : Tryd.pinned.checked.prog.funcs[f]? = some fn) :
    false = Tryd.pinned.checked.prog.looks [] ∧ ∀ (j : Nat) t, fn.params[j]? = some t → Tryd.pinned.checked.prog.wantsStandIn t = false := by
  obtain rfl : f = 5 := Option.some.inj ((show Tryd.prog.funcNamed "beadroll/beadrolllaw14.HeaderOne" = some 5 by kernel_rfl).symm.trans hf) |>.symm
  obtain rfl : fn = Tryd.f5 := (Option.some.inj (Tryd.func5.symm.trans hfn)).symm
  refine ⟨by kernel_rfl, fun j t ht => ?_⟩
  rw [Tryd.params5] at ht
  have hm := Array.mem_of_getElem? ht
  simp only [List.mem_toArray, List.mem_cons, List.not_mem_nil, or_false] at hm
  rcases hm with rfl | rfl | rfl
  all_goals first | exact (show Tryd.prog.wantsStandIn 25 = false by kernel_rfl)
set_option maxRecDepth 100000 in
/-- ████ THE CARD ████ -/
theorem proved : Rows.HeaderOneCardSaid :=
  Claim7.holds_tied_plain_at .later [] _ _ _ _ said (fun _ h => by cases h) (by kernel_rfl) (fun _ h => by cases h) headerOne_row_tie rfl ⟨rfl, rfl⟩ (by kernel_rfl) rfl plain (by kernel_rfl)
#print axioms proved
end Go.Proofs.YtpfglincdlmfhaaDoor.headerOne
