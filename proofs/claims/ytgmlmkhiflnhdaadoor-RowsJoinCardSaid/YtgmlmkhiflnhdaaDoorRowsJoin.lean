/-
  The Go function RowsJoin returns true: as many rows as a power of 2 tells, and others, no more than these, have the root of both lists' roots: any rows of the two lists; its arguments read afterwards as before.
  Conditions: none. The frame around the walk was written by program (proof-skeleton.mjs).
-/
import Derived.Test.YtgmlmkhiflnhdaaDoorRows
import Derived.Test.YtgmlmkhiflnhdaaDoorDoor
import Derived.WalkKit
import Derived.ProofKit
import Derived.OpenShut
import Derived.ShutString
import Derived.ChangeOld
import Derived.Below
import Derived.Test.YtgmlmkhiflnhdaaDoorAlive13b
import Derived.Test.YtgmlmkhiflnhdaaDoorRwT
import Derived.Test.YtgmlmkhiflnhdaaDoorRwJ
namespace Go.Proofs.YtgmlmkhiflnhdaaDoor.rowsJoin
open Go.ChangeShapes Go.WideShapes Go.ChangeAt Go.RowKit
open Go.ChangeMaps (open_string shut_string)
set_option linter.unusedVariables false

theorem own : ownKnob Tryd.prog.godebug = none := by kernel_rfl
theorem laidOut : laidOutB Tryd.prog = true := by kernel_rfl

/-- WHAT THE WALK IS TOLD OF A SLICE OF INTEGERS THAT CAME IN: it is nil; or it leads to a row of 'cap' cells, the numbers 'zs' (the first 'len' are its elements, the rest its spare room), each fitting its kind. -/
def IsRow (k : IntKind) (w : World) (a : Option Addr) (len cap : Nat) (zs : List Int) : Prop :=
  (a = none ∧ len = 0 ∧ cap = 0 ∧ zs = []) ∨
  ∃ x, a = some x ∧ len ≤ cap ∧ cap ≤ maxLen ∧ zs.length = cap ∧ (∀ i, i < zs.length → w.cell? (x.add i) = some (.int k (zs.getD i 0))) ∧ ∀ n ∈ zs, (Lit.int k n).wf = true

/-! ### the walk -/
open Go.Proofs.YtgmlmkhiflnhdaaDoor
set_option linter.unusedSimpArgs false
set_option maxRecDepth 100000 in
set_option maxHeartbeats 8000000 in
theorem walk (a0 : Option Addr) (len0 cap0 : Nat) (ls0 : List (List UInt8)) (a1 : Option Addr) (len1 cap1 : Nat) (ls1 : List (List UInt8)) (w : World) (w0 : len0 = ls0.length ∧ Rds w a0 ls0 ∧ ls0.length ≤ cap0 ∧ cap0 ≤ maxLen) (w1 : len1 = ls1.length ∧ Rds w a1 ls1 ∧ ls1.length ≤ cap1 ∧ cap1 ≤ maxLen) (hT : Tab w) :
    Calls Tryd.prog 7 #[.slice a0 len0 cap0, .slice a1 len1 cap1] w fun e w' => e = .returned (.bool true) ∧ Below w.heap.size w w' := by
  obtain ⟨rfl, r0, c0, m0⟩ := w0
  obtain ⟨rfl, r1, c1, m1⟩ := w1
  have hu := Tryd.underlying29
  have hlow := hid hT.low
  have W0 := hid (Below.refl w.heap.size w)
  have hAl := hid (fun W hT => alive13_any W hT)
  have hm0 : cap0 ≤ 9223372036854775807 := by unfold maxLen at m0; omega
  have hm1 : cap1 ≤ 9223372036854775807 := by unfold maxLen at m1; omega
  have hG := fun W (h : Rds W a0 ls0) => RRwGreat_any a0 cap0 ls0 16 W h (by omega)
  have hG2 := fun W (h : Rds W a1 ls1) => RRwGreat_any a1 cap1 ls1 16 W h (by omega)
  obtain ⟨g1, hg1⟩ : ∃ g, greatR ls0 16 = g := ⟨_, rfl⟩
  obtain ⟨g2, hg2⟩ : ∃ g, greatR ls1 16 = g := ⟨_, rfl⟩
  rw [hg1] at hG
  rw [hg2] at hG2
  replace hG := hid hG
  replace hG2 := hid hG2
  have V0 := hid r0
  have U0 := hid r1
  have P0 := hid (rds_row r0)
  have Q0 := hid (rds_row r1)
  have H0 := hid hT
  clear r0 r1 hT
  cases g1
  case true =>
    go_enter Tryd.func7, Tryd.ntmps7
    go_wp2_with fail
    refine (hAl.out _ H0.out).mono ?_
    rintro e w1 ⟨rfl, hb⟩
    have V1 := hid (V0.out.bel hb)
    have U1 := hid (U0.out.bel hb)
    have P1 := hid (P0.out.bel hb)
    have Q1 := hid (Q0.out.bel hb)
    have H1 := hid (H0.out.bel hb hlow.out)
    have W1 := hid (W0.out.trans (hb.mono W0.out.size))
    clear hb
    go_wp2_with fail
    refine (hG.out _ V1.out).mono ?_
    rintro e w2 ⟨rfl, hw⟩
    rw [hw]
    clear hw
    go_wp2
    go_ret
    exact ⟨rfl, W1.out⟩
  cases g2
  case true =>
    go_enter Tryd.func7, Tryd.ntmps7
    go_wp2_with fail
    refine (hAl.out _ H0.out).mono ?_
    rintro e w1 ⟨rfl, hb⟩
    have V1 := hid (V0.out.bel hb)
    have U1 := hid (U0.out.bel hb)
    have P1 := hid (P0.out.bel hb)
    have Q1 := hid (Q0.out.bel hb)
    have H1 := hid (H0.out.bel hb hlow.out)
    have W1 := hid (W0.out.trans (hb.mono W0.out.size))
    clear hb
    go_wp2_with fail
    refine (hG.out _ V1.out).mono ?_
    rintro e w2 ⟨rfl, hw⟩
    rw [hw]
    clear hw
    go_wp2_with fail
    refine (hG2.out _ U1.out).mono ?_
    rintro e w2 ⟨rfl, hw⟩
    rw [hw]
    clear hw
    go_wp2
    go_ret
    exact ⟨rfl, W1.out⟩
  obtain ⟨hl0, hx0⟩ := greatR_no hg1
  obtain ⟨hl1, hx1⟩ := greatR_no hg2
  clear hg1 hg2 hx0 hx1
  by_cases hn : ls0.length = 1 ∨ ls0.length = 2 ∨ ls0.length = 4 ∨ ls0.length = 8 ∨ ls0.length = 16
  case neg =>
    have n1 : ((ls0.length : Int) != 1) = true := by rw [bne_iff_ne]; omega
    have n2 : ((ls0.length : Int) != 2) = true := by rw [bne_iff_ne]; omega
    have n4 : ((ls0.length : Int) != 4) = true := by rw [bne_iff_ne]; omega
    have n8 : ((ls0.length : Int) != 8) = true := by rw [bne_iff_ne]; omega
    have n16 : ((ls0.length : Int) != 16) = true := by rw [bne_iff_ne]; omega
    have k1 : ¬ (ls0.length : Int) = 1 := by omega
    have k2 : ¬ (ls0.length : Int) = 2 := by omega
    have k4 : ¬ (ls0.length : Int) = 4 := by omega
    have k8 : ¬ (ls0.length : Int) = 8 := by omega
    have k16 : ¬ (ls0.length : Int) = 16 := by omega
    clear hn
    go_enter Tryd.func7, Tryd.ntmps7
    go_wp2_with fail
    refine (hAl.out _ H0.out).mono ?_
    rintro e w1 ⟨rfl, hb⟩
    have V1 := hid (V0.out.bel hb)
    have U1 := hid (U0.out.bel hb)
    have P1 := hid (P0.out.bel hb)
    have Q1 := hid (Q0.out.bel hb)
    have H1 := hid (H0.out.bel hb hlow.out)
    have W1 := hid (W0.out.trans (hb.mono W0.out.size))
    clear hb
    go_wp2_with fail
    refine (hG.out _ V1.out).mono ?_
    rintro e w2 ⟨rfl, hw⟩
    rw [hw]
    clear hw
    go_wp2_with fail
    refine (hG2.out _ U1.out).mono ?_
    rintro e w2 ⟨rfl, hw⟩
    rw [hw]
    clear hw
    go_wp2
    go_ret
    exact ⟨rfl, W1.out⟩
  by_cases h0 : ls1.length = 0
  case pos =>
    have z1 : ((ls1.length : Int) == 0) = true := by rw [h0]; rfl
    clear h0
    rcases hn with hK | hK | hK | hK | hK
    · skip
      have n1 : ((ls0.length : Int) != 1) = false := by rw [hK]; rfl
      replace hK := hid hK
      go_enter Tryd.func7, Tryd.ntmps7
      go_wp2_with fail
      refine (hAl.out _ H0.out).mono ?_
      rintro e w1 ⟨rfl, hb⟩
      have V1 := hid (V0.out.bel hb)
      have U1 := hid (U0.out.bel hb)
      have P1 := hid (P0.out.bel hb)
      have Q1 := hid (Q0.out.bel hb)
      have H1 := hid (H0.out.bel hb hlow.out)
      have W1 := hid (W0.out.trans (hb.mono W0.out.size))
      clear hb
      go_wp2_with fail
      refine (hG.out _ V1.out).mono ?_
      rintro e w2 ⟨rfl, hw⟩
      rw [hw]
      clear hw
      go_wp2_with fail
      refine (hG2.out _ U1.out).mono ?_
      rintro e w2 ⟨rfl, hw⟩
      rw [hw]
      clear hw
      go_wp2
      go_ret
      exact ⟨rfl, W1.out⟩
    · skip
      have n1 : ((ls0.length : Int) != 1) = true := by rw [bne_iff_ne]; omega
      have k1 : ¬ (ls0.length : Int) = 1 := by omega
      have n2 : ((ls0.length : Int) != 2) = false := by rw [hK]; rfl
      replace hK := hid hK
      go_enter Tryd.func7, Tryd.ntmps7
      go_wp2_with fail
      refine (hAl.out _ H0.out).mono ?_
      rintro e w1 ⟨rfl, hb⟩
      have V1 := hid (V0.out.bel hb)
      have U1 := hid (U0.out.bel hb)
      have P1 := hid (P0.out.bel hb)
      have Q1 := hid (Q0.out.bel hb)
      have H1 := hid (H0.out.bel hb hlow.out)
      have W1 := hid (W0.out.trans (hb.mono W0.out.size))
      clear hb
      go_wp2_with fail
      refine (hG.out _ V1.out).mono ?_
      rintro e w2 ⟨rfl, hw⟩
      rw [hw]
      clear hw
      go_wp2_with fail
      refine (hG2.out _ U1.out).mono ?_
      rintro e w2 ⟨rfl, hw⟩
      rw [hw]
      clear hw
      go_wp2
      go_ret
      exact ⟨rfl, W1.out⟩
    · skip
      have n1 : ((ls0.length : Int) != 1) = true := by rw [bne_iff_ne]; omega
      have k1 : ¬ (ls0.length : Int) = 1 := by omega
      have n2 : ((ls0.length : Int) != 2) = true := by rw [bne_iff_ne]; omega
      have k2 : ¬ (ls0.length : Int) = 2 := by omega
      have n4 : ((ls0.length : Int) != 4) = false := by rw [hK]; rfl
      replace hK := hid hK
      go_enter Tryd.func7, Tryd.ntmps7
      go_wp2_with fail
      refine (hAl.out _ H0.out).mono ?_
      rintro e w1 ⟨rfl, hb⟩
      have V1 := hid (V0.out.bel hb)
      have U1 := hid (U0.out.bel hb)
      have P1 := hid (P0.out.bel hb)
      have Q1 := hid (Q0.out.bel hb)
      have H1 := hid (H0.out.bel hb hlow.out)
      have W1 := hid (W0.out.trans (hb.mono W0.out.size))
      clear hb
      go_wp2_with fail
      refine (hG.out _ V1.out).mono ?_
      rintro e w2 ⟨rfl, hw⟩
      rw [hw]
      clear hw
      go_wp2_with fail
      refine (hG2.out _ U1.out).mono ?_
      rintro e w2 ⟨rfl, hw⟩
      rw [hw]
      clear hw
      go_wp2
      go_ret
      exact ⟨rfl, W1.out⟩
    · skip
      have n1 : ((ls0.length : Int) != 1) = true := by rw [bne_iff_ne]; omega
      have k1 : ¬ (ls0.length : Int) = 1 := by omega
      have n2 : ((ls0.length : Int) != 2) = true := by rw [bne_iff_ne]; omega
      have k2 : ¬ (ls0.length : Int) = 2 := by omega
      have n4 : ((ls0.length : Int) != 4) = true := by rw [bne_iff_ne]; omega
      have k4 : ¬ (ls0.length : Int) = 4 := by omega
      have n8 : ((ls0.length : Int) != 8) = false := by rw [hK]; rfl
      replace hK := hid hK
      go_enter Tryd.func7, Tryd.ntmps7
      go_wp2_with fail
      refine (hAl.out _ H0.out).mono ?_
      rintro e w1 ⟨rfl, hb⟩
      have V1 := hid (V0.out.bel hb)
      have U1 := hid (U0.out.bel hb)
      have P1 := hid (P0.out.bel hb)
      have Q1 := hid (Q0.out.bel hb)
      have H1 := hid (H0.out.bel hb hlow.out)
      have W1 := hid (W0.out.trans (hb.mono W0.out.size))
      clear hb
      go_wp2_with fail
      refine (hG.out _ V1.out).mono ?_
      rintro e w2 ⟨rfl, hw⟩
      rw [hw]
      clear hw
      go_wp2_with fail
      refine (hG2.out _ U1.out).mono ?_
      rintro e w2 ⟨rfl, hw⟩
      rw [hw]
      clear hw
      go_wp2
      go_ret
      exact ⟨rfl, W1.out⟩
    · skip
      have n1 : ((ls0.length : Int) != 1) = true := by rw [bne_iff_ne]; omega
      have k1 : ¬ (ls0.length : Int) = 1 := by omega
      have n2 : ((ls0.length : Int) != 2) = true := by rw [bne_iff_ne]; omega
      have k2 : ¬ (ls0.length : Int) = 2 := by omega
      have n4 : ((ls0.length : Int) != 4) = true := by rw [bne_iff_ne]; omega
      have k4 : ¬ (ls0.length : Int) = 4 := by omega
      have n8 : ((ls0.length : Int) != 8) = true := by rw [bne_iff_ne]; omega
      have k8 : ¬ (ls0.length : Int) = 8 := by omega
      have n16 : ((ls0.length : Int) != 16) = false := by rw [hK]; rfl
      replace hK := hid hK
      go_enter Tryd.func7, Tryd.ntmps7
      go_wp2_with fail
      refine (hAl.out _ H0.out).mono ?_
      rintro e w1 ⟨rfl, hb⟩
      have V1 := hid (V0.out.bel hb)
      have U1 := hid (U0.out.bel hb)
      have P1 := hid (P0.out.bel hb)
      have Q1 := hid (Q0.out.bel hb)
      have H1 := hid (H0.out.bel hb hlow.out)
      have W1 := hid (W0.out.trans (hb.mono W0.out.size))
      clear hb
      go_wp2_with fail
      refine (hG.out _ V1.out).mono ?_
      rintro e w2 ⟨rfl, hw⟩
      rw [hw]
      clear hw
      go_wp2_with fail
      refine (hG2.out _ U1.out).mono ?_
      rintro e w2 ⟨rfl, hw⟩
      rw [hw]
      clear hw
      go_wp2
      go_ret
      exact ⟨rfl, W1.out⟩
  have z1 : ((ls1.length : Int) == 0) = false := by rw [beq_eq_false_iff_ne]; omega
  by_cases h1 : ls0.length < ls1.length
  case pos =>
    have y1 : decide ((ls0.length : Int) < (ls1.length : Int)) = true := decide_eq_true (by omega)
    have y2 : decide (ls0.length < ls1.length) = true := decide_eq_true h1
    have y3 : (ls0.length : Int) < (ls1.length : Int) := by omega
    rcases hn with hK | hK | hK | hK | hK
    · skip
      have n1 : ((ls0.length : Int) != 1) = false := by rw [hK]; rfl
      replace hK := hid hK
      go_enter Tryd.func7, Tryd.ntmps7
      go_wp2_with fail
      refine (hAl.out _ H0.out).mono ?_
      rintro e w1 ⟨rfl, hb⟩
      have V1 := hid (V0.out.bel hb)
      have U1 := hid (U0.out.bel hb)
      have P1 := hid (P0.out.bel hb)
      have Q1 := hid (Q0.out.bel hb)
      have H1 := hid (H0.out.bel hb hlow.out)
      have W1 := hid (W0.out.trans (hb.mono W0.out.size))
      clear hb
      go_wp2_with fail
      refine (hG.out _ V1.out).mono ?_
      rintro e w2 ⟨rfl, hw⟩
      rw [hw]
      clear hw
      go_wp2_with fail
      refine (hG2.out _ U1.out).mono ?_
      rintro e w2 ⟨rfl, hw⟩
      rw [hw]
      clear hw
      go_wp2
      go_ret
      exact ⟨rfl, W1.out⟩
    · skip
      have n1 : ((ls0.length : Int) != 1) = true := by rw [bne_iff_ne]; omega
      have k1 : ¬ (ls0.length : Int) = 1 := by omega
      have n2 : ((ls0.length : Int) != 2) = false := by rw [hK]; rfl
      replace hK := hid hK
      go_enter Tryd.func7, Tryd.ntmps7
      go_wp2_with fail
      refine (hAl.out _ H0.out).mono ?_
      rintro e w1 ⟨rfl, hb⟩
      have V1 := hid (V0.out.bel hb)
      have U1 := hid (U0.out.bel hb)
      have P1 := hid (P0.out.bel hb)
      have Q1 := hid (Q0.out.bel hb)
      have H1 := hid (H0.out.bel hb hlow.out)
      have W1 := hid (W0.out.trans (hb.mono W0.out.size))
      clear hb
      go_wp2_with fail
      refine (hG.out _ V1.out).mono ?_
      rintro e w2 ⟨rfl, hw⟩
      rw [hw]
      clear hw
      go_wp2_with fail
      refine (hG2.out _ U1.out).mono ?_
      rintro e w2 ⟨rfl, hw⟩
      rw [hw]
      clear hw
      go_wp2
      go_ret
      exact ⟨rfl, W1.out⟩
    · skip
      have n1 : ((ls0.length : Int) != 1) = true := by rw [bne_iff_ne]; omega
      have k1 : ¬ (ls0.length : Int) = 1 := by omega
      have n2 : ((ls0.length : Int) != 2) = true := by rw [bne_iff_ne]; omega
      have k2 : ¬ (ls0.length : Int) = 2 := by omega
      have n4 : ((ls0.length : Int) != 4) = false := by rw [hK]; rfl
      replace hK := hid hK
      go_enter Tryd.func7, Tryd.ntmps7
      go_wp2_with fail
      refine (hAl.out _ H0.out).mono ?_
      rintro e w1 ⟨rfl, hb⟩
      have V1 := hid (V0.out.bel hb)
      have U1 := hid (U0.out.bel hb)
      have P1 := hid (P0.out.bel hb)
      have Q1 := hid (Q0.out.bel hb)
      have H1 := hid (H0.out.bel hb hlow.out)
      have W1 := hid (W0.out.trans (hb.mono W0.out.size))
      clear hb
      go_wp2_with fail
      refine (hG.out _ V1.out).mono ?_
      rintro e w2 ⟨rfl, hw⟩
      rw [hw]
      clear hw
      go_wp2_with fail
      refine (hG2.out _ U1.out).mono ?_
      rintro e w2 ⟨rfl, hw⟩
      rw [hw]
      clear hw
      go_wp2
      go_ret
      exact ⟨rfl, W1.out⟩
    · skip
      have n1 : ((ls0.length : Int) != 1) = true := by rw [bne_iff_ne]; omega
      have k1 : ¬ (ls0.length : Int) = 1 := by omega
      have n2 : ((ls0.length : Int) != 2) = true := by rw [bne_iff_ne]; omega
      have k2 : ¬ (ls0.length : Int) = 2 := by omega
      have n4 : ((ls0.length : Int) != 4) = true := by rw [bne_iff_ne]; omega
      have k4 : ¬ (ls0.length : Int) = 4 := by omega
      have n8 : ((ls0.length : Int) != 8) = false := by rw [hK]; rfl
      replace hK := hid hK
      go_enter Tryd.func7, Tryd.ntmps7
      go_wp2_with fail
      refine (hAl.out _ H0.out).mono ?_
      rintro e w1 ⟨rfl, hb⟩
      have V1 := hid (V0.out.bel hb)
      have U1 := hid (U0.out.bel hb)
      have P1 := hid (P0.out.bel hb)
      have Q1 := hid (Q0.out.bel hb)
      have H1 := hid (H0.out.bel hb hlow.out)
      have W1 := hid (W0.out.trans (hb.mono W0.out.size))
      clear hb
      go_wp2_with fail
      refine (hG.out _ V1.out).mono ?_
      rintro e w2 ⟨rfl, hw⟩
      rw [hw]
      clear hw
      go_wp2_with fail
      refine (hG2.out _ U1.out).mono ?_
      rintro e w2 ⟨rfl, hw⟩
      rw [hw]
      clear hw
      go_wp2
      go_ret
      exact ⟨rfl, W1.out⟩
    · skip
      have n1 : ((ls0.length : Int) != 1) = true := by rw [bne_iff_ne]; omega
      have k1 : ¬ (ls0.length : Int) = 1 := by omega
      have n2 : ((ls0.length : Int) != 2) = true := by rw [bne_iff_ne]; omega
      have k2 : ¬ (ls0.length : Int) = 2 := by omega
      have n4 : ((ls0.length : Int) != 4) = true := by rw [bne_iff_ne]; omega
      have k4 : ¬ (ls0.length : Int) = 4 := by omega
      have n8 : ((ls0.length : Int) != 8) = true := by rw [bne_iff_ne]; omega
      have k8 : ¬ (ls0.length : Int) = 8 := by omega
      have n16 : ((ls0.length : Int) != 16) = false := by rw [hK]; rfl
      replace hK := hid hK
      go_enter Tryd.func7, Tryd.ntmps7
      go_wp2_with fail
      refine (hAl.out _ H0.out).mono ?_
      rintro e w1 ⟨rfl, hb⟩
      have V1 := hid (V0.out.bel hb)
      have U1 := hid (U0.out.bel hb)
      have P1 := hid (P0.out.bel hb)
      have Q1 := hid (Q0.out.bel hb)
      have H1 := hid (H0.out.bel hb hlow.out)
      have W1 := hid (W0.out.trans (hb.mono W0.out.size))
      clear hb
      go_wp2_with fail
      refine (hG.out _ V1.out).mono ?_
      rintro e w2 ⟨rfl, hw⟩
      rw [hw]
      clear hw
      go_wp2_with fail
      refine (hG2.out _ U1.out).mono ?_
      rintro e w2 ⟨rfl, hw⟩
      rw [hw]
      clear hw
      go_wp2
      go_ret
      exact ⟨rfl, W1.out⟩
  have y1 : decide ((ls0.length : Int) < (ls1.length : Int)) = false := decide_eq_false (by omega)
  have y2 : decide (ls0.length < ls1.length) = false := decide_eq_false h1
  have hj : ∃ j, ls0.length = 2 ^ j := by
    rcases hn with h | h | h | h | h
    · exact ⟨0, h⟩
    · exact ⟨1, h⟩
    · exact ⟨2, h⟩
    · exact ⟨3, h⟩
    · exact ⟨4, h⟩
  have hJ : rootR (ls0 ++ ls1) = forkR (rootR ls0) (rootR ls1) := by
    obtain ⟨j, hj⟩ := hj
    exact rootR_join hj (by omega) (by omega)
  have hR0 := fun W (h : Rds W a0 ls0) hT => PRwRoot_any a0 cap0 ls0 W h c0 m0 (by omega) hT
  have hR1 := fun W (h : Rds W a1 ls1) hT => PRwRoot_any a1 cap1 ls1 W h c1 m1 (by omega) hT
  have hRb := fun A c W (h : Rds W A (ls0 ++ ls1)) (h1 : (ls0 ++ ls1).length ≤ c) (h2 : c ≤ maxLen) hT => PRwRoot_any A c (ls0 ++ ls1) W h h1 h2 (by rw [List.length_append]; omega) hT
  have hF := fun W hT => fork13_any (rootR ls0) (rootR ls1) W hT
  have hM := listR_app (l := ls0) (o := ls1) (by omega) (by omega)
  obtain ⟨p, hp⟩ : ∃ m, listR ls0 = m := ⟨_, rfl⟩
  obtain ⟨q, hq⟩ : ∃ m, listR ls1 = m := ⟨_, rfl⟩
  rw [hp, hq] at hM
  have e0 : rootRL ls0 = if p = true then rootR ls0 else z0R := by unfold rootRL; rw [hp]
  have e1 : rootRL ls1 = if q = true then rootR ls1 else z0R := by unfold rootRL; rw [hq]
  have e2 : rootRL (ls0 ++ ls1) = if (p && q) = true then rootR (ls0 ++ ls1) else z0R := by unfold rootRL; rw [hM]
  rw [hp, e0] at hR0
  rw [hq, e1] at hR1
  rw [hM, e2, List.length_append] at hRb
  rw [hJ] at hRb
  have hlen2 := hid (show ls0.length + ls1.length ≤ 32 from by omega)
  clear hp hq hM e0 e1 e2 hJ hj h1 h0
  by_cases hpq : p = true ∧ q = true
  case pos =>
    obtain ⟨rfl, rfl⟩ := hpq
    simp only [Bool.and_self, if_true] at hR0 hR1 hRb
    replace hR0 := hid hR0
    replace hR1 := hid hR1
    replace hRb := hid hRb
    replace hF := hid hF
    generalize forkR (rootR ls0) (rootR ls1) = xb at *
    generalize rootR ls0 = x0 at *
    generalize rootR ls1 = x1 at *
    have eX : ∀ W, (Op.equalIn 10000 29 (.agg (xb.1.map bv).toArray) (.agg (xb.1.map bv).toArray)).run Tryd.prog W = .ok true W := fun W => eqd_is xb xb true (decide_eq_true rfl) W
    have ix0 := hid (show (Tryd.prog.info? 29).map (·.size) = some (x0.1.map bv).length from by rw [List.length_map, x0.2]; exact size32)
    have ix1 := hid (show (Tryd.prog.info? 29).map (·.size) = some (x1.1.map bv).length from by rw [List.length_map, x1.2]; exact size32)
    have ixb := hid (show (Tryd.prog.info? 29).map (·.size) = some (xb.1.map bv).length from by rw [List.length_map, xb.2]; exact size32)
    rcases hn with hK | hK | hK | hK | hK
    · skip
      have n1 : ((ls0.length : Int) != 1) = false := by rw [hK]; rfl
      replace hK := hid hK
      go_enter Tryd.func7, Tryd.ntmps7
      go_wp2_with fail
      refine (hAl.out _ H0.out).mono ?_
      rintro e w1 ⟨rfl, hb⟩
      have V1 := hid (V0.out.bel hb)
      have U1 := hid (U0.out.bel hb)
      have P1 := hid (P0.out.bel hb)
      have Q1 := hid (Q0.out.bel hb)
      have H1 := hid (H0.out.bel hb hlow.out)
      have W1 := hid (W0.out.trans (hb.mono W0.out.size))
      clear hb
      go_wp2_with fail
      refine (hG.out _ V1.out).mono ?_
      rintro e w2 ⟨rfl, hw⟩
      rw [hw]
      clear hw
      go_wp2_with fail
      refine (hG2.out _ U1.out).mono ?_
      rintro e w2 ⟨rfl, hw⟩
      rw [hw]
      clear hw
      go_wp2_with fail
      refine (hR0.out _ V1.out H1.out).mono ?_
      rintro e w2 ⟨rfl, hb⟩
      have V2 := hid (V1.out.bel hb)
      have U2 := hid (U1.out.bel hb)
      have P2 := hid (P1.out.bel hb)
      have Q2 := hid (Q1.out.bel hb)
      have H2 := hid (H1.out.bel hb (Nat.lt_of_lt_of_le hlow.out W1.out.size))
      have W2 := hid (W1.out.trans (hb.mono W1.out.size))
      clear V1 U1 P1 Q1 H1 W1
      clear hb
      have e2 := hid (heap_alloc_new w2 (.cells z32 29))
      go_wp2_with (first
        | (with_reducible refine wpList_alloc_row rfl 29 rfl z32 info32 ?_)
        | ((with_reducible refine wpList_store_row rfl 29 (.tmp 7) (.tmp 61) rfl _ _ rfl rfl 29 z32 ?_ ?_ ?_ ?_ ?_); exact e2.out; exact sizeDgR x0; exact zDgR x0; exact oneDgR x0; intro w3 hgS hbS hsS; have X3 := hid (xnewP rfl hbS); have A3 := hid (rangeOf (l := x0.1.map bv) hgS); clear hgS hbS hsS; have V3 := hid (V2.out.bel X3.out); have U3 := hid (U2.out.bel X3.out); have P3 := hid (P2.out.bel X3.out); have Q3 := hid (Q2.out.bel X3.out); have H3 := hid (H2.out.bel X3.out (Nat.lt_of_lt_of_le hlow.out W2.out.size)); have W3 := hid (W2.out.trans (X3.out.mono W2.out.size)); clear V2 U2 P2 Q2 H2 W2))
      refine (hR1.out _ U3.out H3.out).mono ?_
      rintro e w4 ⟨rfl, hb⟩
      have V4 := hid (V3.out.bel hb)
      have U4 := hid (U3.out.bel hb)
      have P4 := hid (P3.out.bel hb)
      have Q4 := hid (Q3.out.bel hb)
      have H4 := hid (H3.out.bel hb (Nat.lt_of_lt_of_le hlow.out W3.out.size))
      have W4 := hid (W3.out.trans (hb.mono W3.out.size))
      have A4 := hid (rangeBel2 hb A3.out)
      clear V3 U3 P3 Q3 H3 W3 A3
      clear hb
      have e4 := hid (heap_alloc_new w4 (.cells z32 29))
      go_wp2_with (first
        | (with_reducible refine wpList_alloc_row rfl 29 rfl z32 info32 ?_)
        | ((with_reducible refine wpList_store_row rfl 29 (.tmp 9) (.tmp 66) rfl _ _ rfl rfl 29 z32 ?_ ?_ ?_ ?_ ?_); exact e4.out; exact sizeDgR x1; exact zDgR x1; exact oneDgR x1; intro w5 hgS hbS hsS; have X5 := hid (xnewP rfl hbS); have B5 := hid (rangeOf (l := x1.1.map bv) hgS); clear hgS hbS hsS; have V5 := hid (V4.out.bel X5.out); have U5 := hid (U4.out.bel X5.out); have P5 := hid (P4.out.bel X5.out); have Q5 := hid (Q4.out.bel X5.out); have H5 := hid (H4.out.bel X5.out (Nat.lt_of_lt_of_le hlow.out W4.out.size)); have W5 := hid (W4.out.trans (X5.out.mono W4.out.size)); have A5 := hid (rangeBel2 X5.out A4.out); clear V4 U4 P4 Q4 H4 W4 A4)
        | (refine wpList_build0 slotSlX rfl rfl ?_)
        | (at_builtin; refine wpList_appR slotSlX rfl (.tmp 69) (.tmp 70) rfl (fun b => b < w.heap.size) w5.heap.size (some ⟨w5.heap.size, 0, none⟩) a0 0 ls0.length 0 cap0 [] ls0 rfl rfl rfl rfl (rowO_build0 w5 _ (Nat.le_refl _) (by have := W5.out.size; omega)) (P5.out.alloc _).src (fun b hb => by have := W5.out.size; rw [World.size_alloc]; omega) (by have := hlen2.out; simp; omega) (by simp) ?_; intro ad6 ca6 w6 ho6 hb6; have X6 := hid ((ext_alloc w5 (.cells #[] 33)).trans hb6); have O6 := hid ho6; have Q6 := hid (Q5.out.bel X6.out); clear ho6 hb6)
        | (at_builtin; refine wpList_appR slotSlX rfl (.tmp 71) (.tmp 72) rfl (fun b => b < w.heap.size) w5.heap.size ad6 a1 ls0.length ls1.length ca6 cap1 ls0 ls1 rfl rfl rfl rfl O6.out Q6.out.src (fun b hb => by have := W5.out.size; have := X6.out.size; omega) (by have := hlen2.out; omega) X6.out.size ?_; intro ad7 ca7 w7 ho7 hb7; have X7 := hid (X6.out.trans hb7); have D7 := hid ho7.row.rds; have d7 := ho7.cap; rw [List.length_append] at d7; replace d7 := hid d7; clear ho7 hb7; have V7 := hid (V5.out.bel X7.out); have U7 := hid (U5.out.bel X7.out); have P7 := hid (P5.out.bel X7.out); have Q7 := hid (Q5.out.bel X7.out); have H7 := hid (H5.out.bel X7.out (Nat.lt_of_lt_of_le hlow.out W5.out.size)); have W7 := hid (W5.out.trans (X7.out.mono W5.out.size)); have A7 := hid (rangeBel2 X7.out A5.out); have B7 := hid (rangeBel2 X7.out B5.out); clear V5 U5 P5 Q5 H5 W5 A5 B5))
      refine (hRb.out ad7 ca7 _ D7.out d7.out.1 d7.out.2 H7.out).mono ?_
      rintro e w8 ⟨rfl, hb⟩
      have V8 := hid (V7.out.bel hb)
      have U8 := hid (U7.out.bel hb)
      have P8 := hid (P7.out.bel hb)
      have Q8 := hid (Q7.out.bel hb)
      have H8 := hid (H7.out.bel hb (Nat.lt_of_lt_of_le hlow.out W7.out.size))
      have W8 := hid (W7.out.trans (hb.mono W7.out.size))
      have A8 := hid (rangeBel2 hb A7.out)
      have B8 := hid (rangeBel2 hb B7.out)
      clear V7 U7 P7 Q7 H7 W7 A7 B7
      clear hb D7
      have e8 := hid (heap_alloc_new w8 (.cells z32 29))
      go_wp2_with (first
        | (with_reducible refine wpList_alloc_row rfl 29 rfl z32 info32 ?_)
        | ((with_reducible refine wpList_store_row rfl 29 (.tmp 11) (.tmp 75) rfl _ _ rfl rfl 29 z32 ?_ ?_ ?_ ?_ ?_); exact e8.out; exact sizeDgR xb; exact zDgR xb; exact oneDgR xb; intro w9 hgS hbS hsS; have X9 := hid (xnewP rfl hbS); have C9 := hid (rangeOf (l := xb.1.map bv) hgS); clear hgS hbS hsS; have V9 := hid (V8.out.bel X9.out); have U9 := hid (U8.out.bel X9.out); have P9 := hid (P8.out.bel X9.out); have Q9 := hid (Q8.out.bel X9.out); have H9 := hid (H8.out.bel X9.out (Nat.lt_of_lt_of_le hlow.out W8.out.size)); have W9 := hid (W8.out.trans (X9.out.mono W8.out.size)); have A9 := hid (rangeBel2 X9.out A8.out); have B9 := hid (rangeBel2 X9.out B8.out); clear V8 U8 P8 Q8 H8 W8 A8 B8))
      refine wp_region_noPanic ?_
      refine wp_region_held_drew (S := fun w' => Below w9.heap.size w9 w') (by kernel_rfl) ?_ (fun hHeld => ?_)
      · exact bel_drew w9
      refine' wpAnyH_take (i := 0) (oi := _) (v := ?_) rfl (by kernel_rfl) (by kernel_rfl) (by kernel_rfl) (fun _ _ _ h => h) (Or.inl ⟨by rfl, ?_⟩) (by assumption) ?_
      rotate_left
      · intro W hSw
        go_simp
        first | done | (with_reducible rfl)
      try simp only [Act.put, sQa, sQb, sQc, gQa, gQb, gQc]
      refine' wpAnyH_take (i := 1) (oi := _) (v := ?_) rfl (by kernel_rfl) (by kernel_rfl) (by kernel_rfl) (fun _ _ _ h => h) (Or.inl ⟨by rfl, ?_⟩) (by assumption) ?_
      rotate_left
      · intro W hSw
        go_simp
        first | done | (with_reducible rfl)
      try simp only [Act.put, sQa, sQb, sQc, gQa, gQb, gQc]
      refine' wpAnyH_take (i := 2) (oi := _) (v := ?_) rfl (by kernel_rfl) (by kernel_rfl) (by kernel_rfl) (fun _ _ _ h => h) (Or.inl ⟨by rfl, ?_⟩) (by assumption) ?_
      rotate_left
      · intro W hSw
        go_simp
        first | done | (with_reducible rfl)
      try simp only [Act.put, sQa, sQb, sQc, gQa, gQb, gQc]
      refine' wpAnyH_take (i := 3) (oi := _) (v := ?_) rfl (by kernel_rfl) (by kernel_rfl) (by kernel_rfl) (fun _ _ _ h => h) (Or.inl ⟨by rfl, ?_⟩) (by assumption) ?_
      rotate_left
      · intro W hSw
        go_simp
        first | done | (with_reducible rfl)
      try simp only [Act.put, sQa, sQb, sQc, gQa, gQb, gQc]
      refine' wpAnyH_take (i := 4) (oi := _) (v := ?_) rfl (by kernel_rfl) (by kernel_rfl) (by kernel_rfl) (fun _ _ _ h => h) (Or.inl ⟨by rfl, ?_⟩) (by assumption) ?_
      rotate_left
      · intro W hSw
        go_simp
        first | done | (with_reducible rfl)
      try simp only [Act.put, sQa, sQb, sQc, gQa, gQb, gQc]
      refine' wpAnyH_take (i := 5) (oi := _) (v := ?_) rfl (by kernel_rfl) (by kernel_rfl) (by kernel_rfl) (fun _ _ _ h => h) (Or.inl ⟨by rfl, ?_⟩) (by assumption) ?_
      rotate_left
      · intro W hSw
        go_simp
        first | done | (with_reducible rfl)
      try simp only [Act.put, sQa, sQb, sQc, gQa, gQb, gQc]
      refine' wpAnyH_take (i := 6) (oi := _) (v := _) rfl (by kernel_rfl) (by kernel_rfl) (by kernel_rfl) (fun _ _ _ h => h) (yieldsIf_load_mid (by rfl) _ _ rfl _ _ rfl _ _ (fun _ h => rangeBel2 h C9.out) hu rfl ixb.out) (by assumption) ?_
      try simp only [Act.put, sQa, sQb, sQc, gQa, gQb, gQc]
      refine' wpAnyH_take (i := 7) (oi := _) (v := _) rfl (by kernel_rfl) (by kernel_rfl) (by kernel_rfl) (fun _ _ _ h => h) (yieldsIf_load_mid (by rfl) _ _ rfl _ _ rfl _ _ (fun _ h => rangeBel2 h A9.out) hu rfl ix0.out) (by assumption) ?_
      try simp only [Act.put, sQa, sQb, sQc, gQa, gQb, gQc]
      refine' wpAnyH_take (i := 8) (oi := _) (v := _) rfl (by kernel_rfl) (by kernel_rfl) (by kernel_rfl) (fun _ _ _ h => h) (yieldsIf_load_mid (by rfl) _ _ rfl _ _ rfl _ _ (fun _ h => rangeBel2 h B9.out) hu rfl ix1.out) (by assumption) ?_
      try simp only [Act.put, sQa, sQb, sQc, gQa, gQb, gQc]
      refine wpAnyH_ready (rs := [9]) (by kernel_rfl) (by simp) ?_
      refine AllReadyH.cons (o := _) rfl (fun K hK => ?_) AllReadyH.nil
      go_simp
      refine (hF.out _ (H9.out.bel hHeld (Nat.lt_of_lt_of_le hlow.out W9.out.size))).mono ?_
      rintro e v9 ⟨rfl, hB⟩
      go_wp2_with fail
      refine hK.out _ _ ?_ (fun hHeld => ?_)
      · exact hHeld.trans (hB.mono hHeld.size)
      clear hK K
      try simp only [Act.put, sQa, sQb, sQc, gQa, gQb, gQc]
      refine' wpAnyH_take (i := 10) (oi := _) (v := ?_) rfl (by kernel_rfl) (by kernel_rfl) (by kernel_rfl) (fun _ _ _ h => h) (Or.inl ⟨by rfl, ?_⟩) (by assumption) ?_
      rotate_left
      · intro W hSw
        go_simp
        first | done | (with_reducible rfl)
      try simp only [Act.put, sQa, sQb, sQc, gQa, gQb, gQc]
      refine' wpAnyH_take (i := 11) (oi := _) (v := ?_) rfl (by kernel_rfl) (by kernel_rfl) (by kernel_rfl) (fun _ _ _ h => h) (Or.inl ⟨by rfl, ?_⟩) (by assumption) ?_
      rotate_left
      · intro W hSw
        go_simp
        first | done | (with_reducible rfl)
      try simp only [Act.put, sQa, sQb, sQc, gQa, gQb, gQc]
      refine' wpAnyH_take (i := 12) (oi := _) (v := ?_) rfl (by kernel_rfl) (by kernel_rfl) (by kernel_rfl) (fun _ _ _ h => h) (Or.inl ⟨by rfl, ?_⟩) (by assumption) ?_
      rotate_left
      · intro W hSw
        go_simp
        first | done | (with_reducible rfl)
      try simp only [Act.put, sQa, sQb, sQc, gQa, gQb, gQc]
      refine wpAnyH_done (by kernel_rfl) ?_ _
      refine NoPanic.normal ?_
      go_wp2
      go_ret
      exact ⟨rfl, W9.out.trans (hHeld.mono W9.out.size)⟩
    · skip
      have n1 : ((ls0.length : Int) != 1) = true := by rw [bne_iff_ne]; omega
      have k1 : ¬ (ls0.length : Int) = 1 := by omega
      have n2 : ((ls0.length : Int) != 2) = false := by rw [hK]; rfl
      replace hK := hid hK
      go_enter Tryd.func7, Tryd.ntmps7
      go_wp2_with fail
      refine (hAl.out _ H0.out).mono ?_
      rintro e w1 ⟨rfl, hb⟩
      have V1 := hid (V0.out.bel hb)
      have U1 := hid (U0.out.bel hb)
      have P1 := hid (P0.out.bel hb)
      have Q1 := hid (Q0.out.bel hb)
      have H1 := hid (H0.out.bel hb hlow.out)
      have W1 := hid (W0.out.trans (hb.mono W0.out.size))
      clear hb
      go_wp2_with fail
      refine (hG.out _ V1.out).mono ?_
      rintro e w2 ⟨rfl, hw⟩
      rw [hw]
      clear hw
      go_wp2_with fail
      refine (hG2.out _ U1.out).mono ?_
      rintro e w2 ⟨rfl, hw⟩
      rw [hw]
      clear hw
      go_wp2_with fail
      refine (hR0.out _ V1.out H1.out).mono ?_
      rintro e w2 ⟨rfl, hb⟩
      have V2 := hid (V1.out.bel hb)
      have U2 := hid (U1.out.bel hb)
      have P2 := hid (P1.out.bel hb)
      have Q2 := hid (Q1.out.bel hb)
      have H2 := hid (H1.out.bel hb (Nat.lt_of_lt_of_le hlow.out W1.out.size))
      have W2 := hid (W1.out.trans (hb.mono W1.out.size))
      clear V1 U1 P1 Q1 H1 W1
      clear hb
      have e2 := hid (heap_alloc_new w2 (.cells z32 29))
      go_wp2_with (first
        | (with_reducible refine wpList_alloc_row rfl 29 rfl z32 info32 ?_)
        | ((with_reducible refine wpList_store_row rfl 29 (.tmp 7) (.tmp 61) rfl _ _ rfl rfl 29 z32 ?_ ?_ ?_ ?_ ?_); exact e2.out; exact sizeDgR x0; exact zDgR x0; exact oneDgR x0; intro w3 hgS hbS hsS; have X3 := hid (xnewP rfl hbS); have A3 := hid (rangeOf (l := x0.1.map bv) hgS); clear hgS hbS hsS; have V3 := hid (V2.out.bel X3.out); have U3 := hid (U2.out.bel X3.out); have P3 := hid (P2.out.bel X3.out); have Q3 := hid (Q2.out.bel X3.out); have H3 := hid (H2.out.bel X3.out (Nat.lt_of_lt_of_le hlow.out W2.out.size)); have W3 := hid (W2.out.trans (X3.out.mono W2.out.size)); clear V2 U2 P2 Q2 H2 W2))
      refine (hR1.out _ U3.out H3.out).mono ?_
      rintro e w4 ⟨rfl, hb⟩
      have V4 := hid (V3.out.bel hb)
      have U4 := hid (U3.out.bel hb)
      have P4 := hid (P3.out.bel hb)
      have Q4 := hid (Q3.out.bel hb)
      have H4 := hid (H3.out.bel hb (Nat.lt_of_lt_of_le hlow.out W3.out.size))
      have W4 := hid (W3.out.trans (hb.mono W3.out.size))
      have A4 := hid (rangeBel2 hb A3.out)
      clear V3 U3 P3 Q3 H3 W3 A3
      clear hb
      have e4 := hid (heap_alloc_new w4 (.cells z32 29))
      go_wp2_with (first
        | (with_reducible refine wpList_alloc_row rfl 29 rfl z32 info32 ?_)
        | ((with_reducible refine wpList_store_row rfl 29 (.tmp 9) (.tmp 66) rfl _ _ rfl rfl 29 z32 ?_ ?_ ?_ ?_ ?_); exact e4.out; exact sizeDgR x1; exact zDgR x1; exact oneDgR x1; intro w5 hgS hbS hsS; have X5 := hid (xnewP rfl hbS); have B5 := hid (rangeOf (l := x1.1.map bv) hgS); clear hgS hbS hsS; have V5 := hid (V4.out.bel X5.out); have U5 := hid (U4.out.bel X5.out); have P5 := hid (P4.out.bel X5.out); have Q5 := hid (Q4.out.bel X5.out); have H5 := hid (H4.out.bel X5.out (Nat.lt_of_lt_of_le hlow.out W4.out.size)); have W5 := hid (W4.out.trans (X5.out.mono W4.out.size)); have A5 := hid (rangeBel2 X5.out A4.out); clear V4 U4 P4 Q4 H4 W4 A4)
        | (refine wpList_build0 slotSlX rfl rfl ?_)
        | (at_builtin; refine wpList_appR slotSlX rfl (.tmp 69) (.tmp 70) rfl (fun b => b < w.heap.size) w5.heap.size (some ⟨w5.heap.size, 0, none⟩) a0 0 ls0.length 0 cap0 [] ls0 rfl rfl rfl rfl (rowO_build0 w5 _ (Nat.le_refl _) (by have := W5.out.size; omega)) (P5.out.alloc _).src (fun b hb => by have := W5.out.size; rw [World.size_alloc]; omega) (by have := hlen2.out; simp; omega) (by simp) ?_; intro ad6 ca6 w6 ho6 hb6; have X6 := hid ((ext_alloc w5 (.cells #[] 33)).trans hb6); have O6 := hid ho6; have Q6 := hid (Q5.out.bel X6.out); clear ho6 hb6)
        | (at_builtin; refine wpList_appR slotSlX rfl (.tmp 71) (.tmp 72) rfl (fun b => b < w.heap.size) w5.heap.size ad6 a1 ls0.length ls1.length ca6 cap1 ls0 ls1 rfl rfl rfl rfl O6.out Q6.out.src (fun b hb => by have := W5.out.size; have := X6.out.size; omega) (by have := hlen2.out; omega) X6.out.size ?_; intro ad7 ca7 w7 ho7 hb7; have X7 := hid (X6.out.trans hb7); have D7 := hid ho7.row.rds; have d7 := ho7.cap; rw [List.length_append] at d7; replace d7 := hid d7; clear ho7 hb7; have V7 := hid (V5.out.bel X7.out); have U7 := hid (U5.out.bel X7.out); have P7 := hid (P5.out.bel X7.out); have Q7 := hid (Q5.out.bel X7.out); have H7 := hid (H5.out.bel X7.out (Nat.lt_of_lt_of_le hlow.out W5.out.size)); have W7 := hid (W5.out.trans (X7.out.mono W5.out.size)); have A7 := hid (rangeBel2 X7.out A5.out); have B7 := hid (rangeBel2 X7.out B5.out); clear V5 U5 P5 Q5 H5 W5 A5 B5))
      refine (hRb.out ad7 ca7 _ D7.out d7.out.1 d7.out.2 H7.out).mono ?_
      rintro e w8 ⟨rfl, hb⟩
      have V8 := hid (V7.out.bel hb)
      have U8 := hid (U7.out.bel hb)
      have P8 := hid (P7.out.bel hb)
      have Q8 := hid (Q7.out.bel hb)
      have H8 := hid (H7.out.bel hb (Nat.lt_of_lt_of_le hlow.out W7.out.size))
      have W8 := hid (W7.out.trans (hb.mono W7.out.size))
      have A8 := hid (rangeBel2 hb A7.out)
      have B8 := hid (rangeBel2 hb B7.out)
      clear V7 U7 P7 Q7 H7 W7 A7 B7
      clear hb D7
      have e8 := hid (heap_alloc_new w8 (.cells z32 29))
      go_wp2_with (first
        | (with_reducible refine wpList_alloc_row rfl 29 rfl z32 info32 ?_)
        | ((with_reducible refine wpList_store_row rfl 29 (.tmp 11) (.tmp 75) rfl _ _ rfl rfl 29 z32 ?_ ?_ ?_ ?_ ?_); exact e8.out; exact sizeDgR xb; exact zDgR xb; exact oneDgR xb; intro w9 hgS hbS hsS; have X9 := hid (xnewP rfl hbS); have C9 := hid (rangeOf (l := xb.1.map bv) hgS); clear hgS hbS hsS; have V9 := hid (V8.out.bel X9.out); have U9 := hid (U8.out.bel X9.out); have P9 := hid (P8.out.bel X9.out); have Q9 := hid (Q8.out.bel X9.out); have H9 := hid (H8.out.bel X9.out (Nat.lt_of_lt_of_le hlow.out W8.out.size)); have W9 := hid (W8.out.trans (X9.out.mono W8.out.size)); have A9 := hid (rangeBel2 X9.out A8.out); have B9 := hid (rangeBel2 X9.out B8.out); clear V8 U8 P8 Q8 H8 W8 A8 B8))
      refine wp_region_noPanic ?_
      refine wp_region_held_drew (S := fun w' => Below w9.heap.size w9 w') (by kernel_rfl) ?_ (fun hHeld => ?_)
      · exact bel_drew w9
      refine' wpAnyH_take (i := 0) (oi := _) (v := ?_) rfl (by kernel_rfl) (by kernel_rfl) (by kernel_rfl) (fun _ _ _ h => h) (Or.inl ⟨by rfl, ?_⟩) (by assumption) ?_
      rotate_left
      · intro W hSw
        go_simp
        first | done | (with_reducible rfl)
      try simp only [Act.put, sQa, sQb, sQc, gQa, gQb, gQc]
      refine' wpAnyH_take (i := 1) (oi := _) (v := ?_) rfl (by kernel_rfl) (by kernel_rfl) (by kernel_rfl) (fun _ _ _ h => h) (Or.inl ⟨by rfl, ?_⟩) (by assumption) ?_
      rotate_left
      · intro W hSw
        go_simp
        first | done | (with_reducible rfl)
      try simp only [Act.put, sQa, sQb, sQc, gQa, gQb, gQc]
      refine' wpAnyH_take (i := 2) (oi := _) (v := ?_) rfl (by kernel_rfl) (by kernel_rfl) (by kernel_rfl) (fun _ _ _ h => h) (Or.inl ⟨by rfl, ?_⟩) (by assumption) ?_
      rotate_left
      · intro W hSw
        go_simp
        first | done | (with_reducible rfl)
      try simp only [Act.put, sQa, sQb, sQc, gQa, gQb, gQc]
      refine' wpAnyH_take (i := 3) (oi := _) (v := ?_) rfl (by kernel_rfl) (by kernel_rfl) (by kernel_rfl) (fun _ _ _ h => h) (Or.inl ⟨by rfl, ?_⟩) (by assumption) ?_
      rotate_left
      · intro W hSw
        go_simp
        first | done | (with_reducible rfl)
      try simp only [Act.put, sQa, sQb, sQc, gQa, gQb, gQc]
      refine' wpAnyH_take (i := 4) (oi := _) (v := ?_) rfl (by kernel_rfl) (by kernel_rfl) (by kernel_rfl) (fun _ _ _ h => h) (Or.inl ⟨by rfl, ?_⟩) (by assumption) ?_
      rotate_left
      · intro W hSw
        go_simp
        first | done | (with_reducible rfl)
      try simp only [Act.put, sQa, sQb, sQc, gQa, gQb, gQc]
      refine' wpAnyH_take (i := 5) (oi := _) (v := ?_) rfl (by kernel_rfl) (by kernel_rfl) (by kernel_rfl) (fun _ _ _ h => h) (Or.inl ⟨by rfl, ?_⟩) (by assumption) ?_
      rotate_left
      · intro W hSw
        go_simp
        first | done | (with_reducible rfl)
      try simp only [Act.put, sQa, sQb, sQc, gQa, gQb, gQc]
      refine' wpAnyH_take (i := 6) (oi := _) (v := _) rfl (by kernel_rfl) (by kernel_rfl) (by kernel_rfl) (fun _ _ _ h => h) (yieldsIf_load_mid (by rfl) _ _ rfl _ _ rfl _ _ (fun _ h => rangeBel2 h C9.out) hu rfl ixb.out) (by assumption) ?_
      try simp only [Act.put, sQa, sQb, sQc, gQa, gQb, gQc]
      refine' wpAnyH_take (i := 7) (oi := _) (v := _) rfl (by kernel_rfl) (by kernel_rfl) (by kernel_rfl) (fun _ _ _ h => h) (yieldsIf_load_mid (by rfl) _ _ rfl _ _ rfl _ _ (fun _ h => rangeBel2 h A9.out) hu rfl ix0.out) (by assumption) ?_
      try simp only [Act.put, sQa, sQb, sQc, gQa, gQb, gQc]
      refine' wpAnyH_take (i := 8) (oi := _) (v := _) rfl (by kernel_rfl) (by kernel_rfl) (by kernel_rfl) (fun _ _ _ h => h) (yieldsIf_load_mid (by rfl) _ _ rfl _ _ rfl _ _ (fun _ h => rangeBel2 h B9.out) hu rfl ix1.out) (by assumption) ?_
      try simp only [Act.put, sQa, sQb, sQc, gQa, gQb, gQc]
      refine wpAnyH_ready (rs := [9]) (by kernel_rfl) (by simp) ?_
      refine AllReadyH.cons (o := _) rfl (fun K hK => ?_) AllReadyH.nil
      go_simp
      refine (hF.out _ (H9.out.bel hHeld (Nat.lt_of_lt_of_le hlow.out W9.out.size))).mono ?_
      rintro e v9 ⟨rfl, hB⟩
      go_wp2_with fail
      refine hK.out _ _ ?_ (fun hHeld => ?_)
      · exact hHeld.trans (hB.mono hHeld.size)
      clear hK K
      try simp only [Act.put, sQa, sQb, sQc, gQa, gQb, gQc]
      refine' wpAnyH_take (i := 10) (oi := _) (v := ?_) rfl (by kernel_rfl) (by kernel_rfl) (by kernel_rfl) (fun _ _ _ h => h) (Or.inl ⟨by rfl, ?_⟩) (by assumption) ?_
      rotate_left
      · intro W hSw
        go_simp
        first | done | (with_reducible rfl)
      try simp only [Act.put, sQa, sQb, sQc, gQa, gQb, gQc]
      refine' wpAnyH_take (i := 11) (oi := _) (v := ?_) rfl (by kernel_rfl) (by kernel_rfl) (by kernel_rfl) (fun _ _ _ h => h) (Or.inl ⟨by rfl, ?_⟩) (by assumption) ?_
      rotate_left
      · intro W hSw
        go_simp
        first | done | (with_reducible rfl)
      try simp only [Act.put, sQa, sQb, sQc, gQa, gQb, gQc]
      refine' wpAnyH_take (i := 12) (oi := _) (v := ?_) rfl (by kernel_rfl) (by kernel_rfl) (by kernel_rfl) (fun _ _ _ h => h) (Or.inl ⟨by rfl, ?_⟩) (by assumption) ?_
      rotate_left
      · intro W hSw
        go_simp
        first | done | (with_reducible rfl)
      try simp only [Act.put, sQa, sQb, sQc, gQa, gQb, gQc]
      refine wpAnyH_done (by kernel_rfl) ?_ _
      refine NoPanic.normal ?_
      go_wp2
      go_ret
      exact ⟨rfl, W9.out.trans (hHeld.mono W9.out.size)⟩
    · skip
      have n1 : ((ls0.length : Int) != 1) = true := by rw [bne_iff_ne]; omega
      have k1 : ¬ (ls0.length : Int) = 1 := by omega
      have n2 : ((ls0.length : Int) != 2) = true := by rw [bne_iff_ne]; omega
      have k2 : ¬ (ls0.length : Int) = 2 := by omega
      have n4 : ((ls0.length : Int) != 4) = false := by rw [hK]; rfl
      replace hK := hid hK
      go_enter Tryd.func7, Tryd.ntmps7
      go_wp2_with fail
      refine (hAl.out _ H0.out).mono ?_
      rintro e w1 ⟨rfl, hb⟩
      have V1 := hid (V0.out.bel hb)
      have U1 := hid (U0.out.bel hb)
      have P1 := hid (P0.out.bel hb)
      have Q1 := hid (Q0.out.bel hb)
      have H1 := hid (H0.out.bel hb hlow.out)
      have W1 := hid (W0.out.trans (hb.mono W0.out.size))
      clear hb
      go_wp2_with fail
      refine (hG.out _ V1.out).mono ?_
      rintro e w2 ⟨rfl, hw⟩
      rw [hw]
      clear hw
      go_wp2_with fail
      refine (hG2.out _ U1.out).mono ?_
      rintro e w2 ⟨rfl, hw⟩
      rw [hw]
      clear hw
      go_wp2_with fail
      refine (hR0.out _ V1.out H1.out).mono ?_
      rintro e w2 ⟨rfl, hb⟩
      have V2 := hid (V1.out.bel hb)
      have U2 := hid (U1.out.bel hb)
      have P2 := hid (P1.out.bel hb)
      have Q2 := hid (Q1.out.bel hb)
      have H2 := hid (H1.out.bel hb (Nat.lt_of_lt_of_le hlow.out W1.out.size))
      have W2 := hid (W1.out.trans (hb.mono W1.out.size))
      clear V1 U1 P1 Q1 H1 W1
      clear hb
      have e2 := hid (heap_alloc_new w2 (.cells z32 29))
      go_wp2_with (first
        | (with_reducible refine wpList_alloc_row rfl 29 rfl z32 info32 ?_)
        | ((with_reducible refine wpList_store_row rfl 29 (.tmp 7) (.tmp 61) rfl _ _ rfl rfl 29 z32 ?_ ?_ ?_ ?_ ?_); exact e2.out; exact sizeDgR x0; exact zDgR x0; exact oneDgR x0; intro w3 hgS hbS hsS; have X3 := hid (xnewP rfl hbS); have A3 := hid (rangeOf (l := x0.1.map bv) hgS); clear hgS hbS hsS; have V3 := hid (V2.out.bel X3.out); have U3 := hid (U2.out.bel X3.out); have P3 := hid (P2.out.bel X3.out); have Q3 := hid (Q2.out.bel X3.out); have H3 := hid (H2.out.bel X3.out (Nat.lt_of_lt_of_le hlow.out W2.out.size)); have W3 := hid (W2.out.trans (X3.out.mono W2.out.size)); clear V2 U2 P2 Q2 H2 W2))
      refine (hR1.out _ U3.out H3.out).mono ?_
      rintro e w4 ⟨rfl, hb⟩
      have V4 := hid (V3.out.bel hb)
      have U4 := hid (U3.out.bel hb)
      have P4 := hid (P3.out.bel hb)
      have Q4 := hid (Q3.out.bel hb)
      have H4 := hid (H3.out.bel hb (Nat.lt_of_lt_of_le hlow.out W3.out.size))
      have W4 := hid (W3.out.trans (hb.mono W3.out.size))
      have A4 := hid (rangeBel2 hb A3.out)
      clear V3 U3 P3 Q3 H3 W3 A3
      clear hb
      have e4 := hid (heap_alloc_new w4 (.cells z32 29))
      go_wp2_with (first
        | (with_reducible refine wpList_alloc_row rfl 29 rfl z32 info32 ?_)
        | ((with_reducible refine wpList_store_row rfl 29 (.tmp 9) (.tmp 66) rfl _ _ rfl rfl 29 z32 ?_ ?_ ?_ ?_ ?_); exact e4.out; exact sizeDgR x1; exact zDgR x1; exact oneDgR x1; intro w5 hgS hbS hsS; have X5 := hid (xnewP rfl hbS); have B5 := hid (rangeOf (l := x1.1.map bv) hgS); clear hgS hbS hsS; have V5 := hid (V4.out.bel X5.out); have U5 := hid (U4.out.bel X5.out); have P5 := hid (P4.out.bel X5.out); have Q5 := hid (Q4.out.bel X5.out); have H5 := hid (H4.out.bel X5.out (Nat.lt_of_lt_of_le hlow.out W4.out.size)); have W5 := hid (W4.out.trans (X5.out.mono W4.out.size)); have A5 := hid (rangeBel2 X5.out A4.out); clear V4 U4 P4 Q4 H4 W4 A4)
        | (refine wpList_build0 slotSlX rfl rfl ?_)
        | (at_builtin; refine wpList_appR slotSlX rfl (.tmp 69) (.tmp 70) rfl (fun b => b < w.heap.size) w5.heap.size (some ⟨w5.heap.size, 0, none⟩) a0 0 ls0.length 0 cap0 [] ls0 rfl rfl rfl rfl (rowO_build0 w5 _ (Nat.le_refl _) (by have := W5.out.size; omega)) (P5.out.alloc _).src (fun b hb => by have := W5.out.size; rw [World.size_alloc]; omega) (by have := hlen2.out; simp; omega) (by simp) ?_; intro ad6 ca6 w6 ho6 hb6; have X6 := hid ((ext_alloc w5 (.cells #[] 33)).trans hb6); have O6 := hid ho6; have Q6 := hid (Q5.out.bel X6.out); clear ho6 hb6)
        | (at_builtin; refine wpList_appR slotSlX rfl (.tmp 71) (.tmp 72) rfl (fun b => b < w.heap.size) w5.heap.size ad6 a1 ls0.length ls1.length ca6 cap1 ls0 ls1 rfl rfl rfl rfl O6.out Q6.out.src (fun b hb => by have := W5.out.size; have := X6.out.size; omega) (by have := hlen2.out; omega) X6.out.size ?_; intro ad7 ca7 w7 ho7 hb7; have X7 := hid (X6.out.trans hb7); have D7 := hid ho7.row.rds; have d7 := ho7.cap; rw [List.length_append] at d7; replace d7 := hid d7; clear ho7 hb7; have V7 := hid (V5.out.bel X7.out); have U7 := hid (U5.out.bel X7.out); have P7 := hid (P5.out.bel X7.out); have Q7 := hid (Q5.out.bel X7.out); have H7 := hid (H5.out.bel X7.out (Nat.lt_of_lt_of_le hlow.out W5.out.size)); have W7 := hid (W5.out.trans (X7.out.mono W5.out.size)); have A7 := hid (rangeBel2 X7.out A5.out); have B7 := hid (rangeBel2 X7.out B5.out); clear V5 U5 P5 Q5 H5 W5 A5 B5))
      refine (hRb.out ad7 ca7 _ D7.out d7.out.1 d7.out.2 H7.out).mono ?_
      rintro e w8 ⟨rfl, hb⟩
      have V8 := hid (V7.out.bel hb)
      have U8 := hid (U7.out.bel hb)
      have P8 := hid (P7.out.bel hb)
      have Q8 := hid (Q7.out.bel hb)
      have H8 := hid (H7.out.bel hb (Nat.lt_of_lt_of_le hlow.out W7.out.size))
      have W8 := hid (W7.out.trans (hb.mono W7.out.size))
      have A8 := hid (rangeBel2 hb A7.out)
      have B8 := hid (rangeBel2 hb B7.out)
      clear V7 U7 P7 Q7 H7 W7 A7 B7
      clear hb D7
      have e8 := hid (heap_alloc_new w8 (.cells z32 29))
      go_wp2_with (first
        | (with_reducible refine wpList_alloc_row rfl 29 rfl z32 info32 ?_)
        | ((with_reducible refine wpList_store_row rfl 29 (.tmp 11) (.tmp 75) rfl _ _ rfl rfl 29 z32 ?_ ?_ ?_ ?_ ?_); exact e8.out; exact sizeDgR xb; exact zDgR xb; exact oneDgR xb; intro w9 hgS hbS hsS; have X9 := hid (xnewP rfl hbS); have C9 := hid (rangeOf (l := xb.1.map bv) hgS); clear hgS hbS hsS; have V9 := hid (V8.out.bel X9.out); have U9 := hid (U8.out.bel X9.out); have P9 := hid (P8.out.bel X9.out); have Q9 := hid (Q8.out.bel X9.out); have H9 := hid (H8.out.bel X9.out (Nat.lt_of_lt_of_le hlow.out W8.out.size)); have W9 := hid (W8.out.trans (X9.out.mono W8.out.size)); have A9 := hid (rangeBel2 X9.out A8.out); have B9 := hid (rangeBel2 X9.out B8.out); clear V8 U8 P8 Q8 H8 W8 A8 B8))
      refine wp_region_noPanic ?_
      refine wp_region_held_drew (S := fun w' => Below w9.heap.size w9 w') (by kernel_rfl) ?_ (fun hHeld => ?_)
      · exact bel_drew w9
      refine' wpAnyH_take (i := 0) (oi := _) (v := ?_) rfl (by kernel_rfl) (by kernel_rfl) (by kernel_rfl) (fun _ _ _ h => h) (Or.inl ⟨by rfl, ?_⟩) (by assumption) ?_
      rotate_left
      · intro W hSw
        go_simp
        first | done | (with_reducible rfl)
      try simp only [Act.put, sQa, sQb, sQc, gQa, gQb, gQc]
      refine' wpAnyH_take (i := 1) (oi := _) (v := ?_) rfl (by kernel_rfl) (by kernel_rfl) (by kernel_rfl) (fun _ _ _ h => h) (Or.inl ⟨by rfl, ?_⟩) (by assumption) ?_
      rotate_left
      · intro W hSw
        go_simp
        first | done | (with_reducible rfl)
      try simp only [Act.put, sQa, sQb, sQc, gQa, gQb, gQc]
      refine' wpAnyH_take (i := 2) (oi := _) (v := ?_) rfl (by kernel_rfl) (by kernel_rfl) (by kernel_rfl) (fun _ _ _ h => h) (Or.inl ⟨by rfl, ?_⟩) (by assumption) ?_
      rotate_left
      · intro W hSw
        go_simp
        first | done | (with_reducible rfl)
      try simp only [Act.put, sQa, sQb, sQc, gQa, gQb, gQc]
      refine' wpAnyH_take (i := 3) (oi := _) (v := ?_) rfl (by kernel_rfl) (by kernel_rfl) (by kernel_rfl) (fun _ _ _ h => h) (Or.inl ⟨by rfl, ?_⟩) (by assumption) ?_
      rotate_left
      · intro W hSw
        go_simp
        first | done | (with_reducible rfl)
      try simp only [Act.put, sQa, sQb, sQc, gQa, gQb, gQc]
      refine' wpAnyH_take (i := 4) (oi := _) (v := ?_) rfl (by kernel_rfl) (by kernel_rfl) (by kernel_rfl) (fun _ _ _ h => h) (Or.inl ⟨by rfl, ?_⟩) (by assumption) ?_
      rotate_left
      · intro W hSw
        go_simp
        first | done | (with_reducible rfl)
      try simp only [Act.put, sQa, sQb, sQc, gQa, gQb, gQc]
      refine' wpAnyH_take (i := 5) (oi := _) (v := ?_) rfl (by kernel_rfl) (by kernel_rfl) (by kernel_rfl) (fun _ _ _ h => h) (Or.inl ⟨by rfl, ?_⟩) (by assumption) ?_
      rotate_left
      · intro W hSw
        go_simp
        first | done | (with_reducible rfl)
      try simp only [Act.put, sQa, sQb, sQc, gQa, gQb, gQc]
      refine' wpAnyH_take (i := 6) (oi := _) (v := _) rfl (by kernel_rfl) (by kernel_rfl) (by kernel_rfl) (fun _ _ _ h => h) (yieldsIf_load_mid (by rfl) _ _ rfl _ _ rfl _ _ (fun _ h => rangeBel2 h C9.out) hu rfl ixb.out) (by assumption) ?_
      try simp only [Act.put, sQa, sQb, sQc, gQa, gQb, gQc]
      refine' wpAnyH_take (i := 7) (oi := _) (v := _) rfl (by kernel_rfl) (by kernel_rfl) (by kernel_rfl) (fun _ _ _ h => h) (yieldsIf_load_mid (by rfl) _ _ rfl _ _ rfl _ _ (fun _ h => rangeBel2 h A9.out) hu rfl ix0.out) (by assumption) ?_
      try simp only [Act.put, sQa, sQb, sQc, gQa, gQb, gQc]
      refine' wpAnyH_take (i := 8) (oi := _) (v := _) rfl (by kernel_rfl) (by kernel_rfl) (by kernel_rfl) (fun _ _ _ h => h) (yieldsIf_load_mid (by rfl) _ _ rfl _ _ rfl _ _ (fun _ h => rangeBel2 h B9.out) hu rfl ix1.out) (by assumption) ?_
      try simp only [Act.put, sQa, sQb, sQc, gQa, gQb, gQc]
      refine wpAnyH_ready (rs := [9]) (by kernel_rfl) (by simp) ?_
      refine AllReadyH.cons (o := _) rfl (fun K hK => ?_) AllReadyH.nil
      go_simp
      refine (hF.out _ (H9.out.bel hHeld (Nat.lt_of_lt_of_le hlow.out W9.out.size))).mono ?_
      rintro e v9 ⟨rfl, hB⟩
      go_wp2_with fail
      refine hK.out _ _ ?_ (fun hHeld => ?_)
      · exact hHeld.trans (hB.mono hHeld.size)
      clear hK K
      try simp only [Act.put, sQa, sQb, sQc, gQa, gQb, gQc]
      refine' wpAnyH_take (i := 10) (oi := _) (v := ?_) rfl (by kernel_rfl) (by kernel_rfl) (by kernel_rfl) (fun _ _ _ h => h) (Or.inl ⟨by rfl, ?_⟩) (by assumption) ?_
      rotate_left
      · intro W hSw
        go_simp
        first | done | (with_reducible rfl)
      try simp only [Act.put, sQa, sQb, sQc, gQa, gQb, gQc]
      refine' wpAnyH_take (i := 11) (oi := _) (v := ?_) rfl (by kernel_rfl) (by kernel_rfl) (by kernel_rfl) (fun _ _ _ h => h) (Or.inl ⟨by rfl, ?_⟩) (by assumption) ?_
      rotate_left
      · intro W hSw
        go_simp
        first | done | (with_reducible rfl)
      try simp only [Act.put, sQa, sQb, sQc, gQa, gQb, gQc]
      refine' wpAnyH_take (i := 12) (oi := _) (v := ?_) rfl (by kernel_rfl) (by kernel_rfl) (by kernel_rfl) (fun _ _ _ h => h) (Or.inl ⟨by rfl, ?_⟩) (by assumption) ?_
      rotate_left
      · intro W hSw
        go_simp
        first | done | (with_reducible rfl)
      try simp only [Act.put, sQa, sQb, sQc, gQa, gQb, gQc]
      refine wpAnyH_done (by kernel_rfl) ?_ _
      refine NoPanic.normal ?_
      go_wp2
      go_ret
      exact ⟨rfl, W9.out.trans (hHeld.mono W9.out.size)⟩
    · skip
      have n1 : ((ls0.length : Int) != 1) = true := by rw [bne_iff_ne]; omega
      have k1 : ¬ (ls0.length : Int) = 1 := by omega
      have n2 : ((ls0.length : Int) != 2) = true := by rw [bne_iff_ne]; omega
      have k2 : ¬ (ls0.length : Int) = 2 := by omega
      have n4 : ((ls0.length : Int) != 4) = true := by rw [bne_iff_ne]; omega
      have k4 : ¬ (ls0.length : Int) = 4 := by omega
      have n8 : ((ls0.length : Int) != 8) = false := by rw [hK]; rfl
      replace hK := hid hK
      go_enter Tryd.func7, Tryd.ntmps7
      go_wp2_with fail
      refine (hAl.out _ H0.out).mono ?_
      rintro e w1 ⟨rfl, hb⟩
      have V1 := hid (V0.out.bel hb)
      have U1 := hid (U0.out.bel hb)
      have P1 := hid (P0.out.bel hb)
      have Q1 := hid (Q0.out.bel hb)
      have H1 := hid (H0.out.bel hb hlow.out)
      have W1 := hid (W0.out.trans (hb.mono W0.out.size))
      clear hb
      go_wp2_with fail
      refine (hG.out _ V1.out).mono ?_
      rintro e w2 ⟨rfl, hw⟩
      rw [hw]
      clear hw
      go_wp2_with fail
      refine (hG2.out _ U1.out).mono ?_
      rintro e w2 ⟨rfl, hw⟩
      rw [hw]
      clear hw
      go_wp2_with fail
      refine (hR0.out _ V1.out H1.out).mono ?_
      rintro e w2 ⟨rfl, hb⟩
      have V2 := hid (V1.out.bel hb)
      have U2 := hid (U1.out.bel hb)
      have P2 := hid (P1.out.bel hb)
      have Q2 := hid (Q1.out.bel hb)
      have H2 := hid (H1.out.bel hb (Nat.lt_of_lt_of_le hlow.out W1.out.size))
      have W2 := hid (W1.out.trans (hb.mono W1.out.size))
      clear V1 U1 P1 Q1 H1 W1
      clear hb
      have e2 := hid (heap_alloc_new w2 (.cells z32 29))
      go_wp2_with (first
        | (with_reducible refine wpList_alloc_row rfl 29 rfl z32 info32 ?_)
        | ((with_reducible refine wpList_store_row rfl 29 (.tmp 7) (.tmp 61) rfl _ _ rfl rfl 29 z32 ?_ ?_ ?_ ?_ ?_); exact e2.out; exact sizeDgR x0; exact zDgR x0; exact oneDgR x0; intro w3 hgS hbS hsS; have X3 := hid (xnewP rfl hbS); have A3 := hid (rangeOf (l := x0.1.map bv) hgS); clear hgS hbS hsS; have V3 := hid (V2.out.bel X3.out); have U3 := hid (U2.out.bel X3.out); have P3 := hid (P2.out.bel X3.out); have Q3 := hid (Q2.out.bel X3.out); have H3 := hid (H2.out.bel X3.out (Nat.lt_of_lt_of_le hlow.out W2.out.size)); have W3 := hid (W2.out.trans (X3.out.mono W2.out.size)); clear V2 U2 P2 Q2 H2 W2))
      refine (hR1.out _ U3.out H3.out).mono ?_
      rintro e w4 ⟨rfl, hb⟩
      have V4 := hid (V3.out.bel hb)
      have U4 := hid (U3.out.bel hb)
      have P4 := hid (P3.out.bel hb)
      have Q4 := hid (Q3.out.bel hb)
      have H4 := hid (H3.out.bel hb (Nat.lt_of_lt_of_le hlow.out W3.out.size))
      have W4 := hid (W3.out.trans (hb.mono W3.out.size))
      have A4 := hid (rangeBel2 hb A3.out)
      clear V3 U3 P3 Q3 H3 W3 A3
      clear hb
      have e4 := hid (heap_alloc_new w4 (.cells z32 29))
      go_wp2_with (first
        | (with_reducible refine wpList_alloc_row rfl 29 rfl z32 info32 ?_)
        | ((with_reducible refine wpList_store_row rfl 29 (.tmp 9) (.tmp 66) rfl _ _ rfl rfl 29 z32 ?_ ?_ ?_ ?_ ?_); exact e4.out; exact sizeDgR x1; exact zDgR x1; exact oneDgR x1; intro w5 hgS hbS hsS; have X5 := hid (xnewP rfl hbS); have B5 := hid (rangeOf (l := x1.1.map bv) hgS); clear hgS hbS hsS; have V5 := hid (V4.out.bel X5.out); have U5 := hid (U4.out.bel X5.out); have P5 := hid (P4.out.bel X5.out); have Q5 := hid (Q4.out.bel X5.out); have H5 := hid (H4.out.bel X5.out (Nat.lt_of_lt_of_le hlow.out W4.out.size)); have W5 := hid (W4.out.trans (X5.out.mono W4.out.size)); have A5 := hid (rangeBel2 X5.out A4.out); clear V4 U4 P4 Q4 H4 W4 A4)
        | (refine wpList_build0 slotSlX rfl rfl ?_)
        | (at_builtin; refine wpList_appR slotSlX rfl (.tmp 69) (.tmp 70) rfl (fun b => b < w.heap.size) w5.heap.size (some ⟨w5.heap.size, 0, none⟩) a0 0 ls0.length 0 cap0 [] ls0 rfl rfl rfl rfl (rowO_build0 w5 _ (Nat.le_refl _) (by have := W5.out.size; omega)) (P5.out.alloc _).src (fun b hb => by have := W5.out.size; rw [World.size_alloc]; omega) (by have := hlen2.out; simp; omega) (by simp) ?_; intro ad6 ca6 w6 ho6 hb6; have X6 := hid ((ext_alloc w5 (.cells #[] 33)).trans hb6); have O6 := hid ho6; have Q6 := hid (Q5.out.bel X6.out); clear ho6 hb6)
        | (at_builtin; refine wpList_appR slotSlX rfl (.tmp 71) (.tmp 72) rfl (fun b => b < w.heap.size) w5.heap.size ad6 a1 ls0.length ls1.length ca6 cap1 ls0 ls1 rfl rfl rfl rfl O6.out Q6.out.src (fun b hb => by have := W5.out.size; have := X6.out.size; omega) (by have := hlen2.out; omega) X6.out.size ?_; intro ad7 ca7 w7 ho7 hb7; have X7 := hid (X6.out.trans hb7); have D7 := hid ho7.row.rds; have d7 := ho7.cap; rw [List.length_append] at d7; replace d7 := hid d7; clear ho7 hb7; have V7 := hid (V5.out.bel X7.out); have U7 := hid (U5.out.bel X7.out); have P7 := hid (P5.out.bel X7.out); have Q7 := hid (Q5.out.bel X7.out); have H7 := hid (H5.out.bel X7.out (Nat.lt_of_lt_of_le hlow.out W5.out.size)); have W7 := hid (W5.out.trans (X7.out.mono W5.out.size)); have A7 := hid (rangeBel2 X7.out A5.out); have B7 := hid (rangeBel2 X7.out B5.out); clear V5 U5 P5 Q5 H5 W5 A5 B5))
      refine (hRb.out ad7 ca7 _ D7.out d7.out.1 d7.out.2 H7.out).mono ?_
      rintro e w8 ⟨rfl, hb⟩
      have V8 := hid (V7.out.bel hb)
      have U8 := hid (U7.out.bel hb)
      have P8 := hid (P7.out.bel hb)
      have Q8 := hid (Q7.out.bel hb)
      have H8 := hid (H7.out.bel hb (Nat.lt_of_lt_of_le hlow.out W7.out.size))
      have W8 := hid (W7.out.trans (hb.mono W7.out.size))
      have A8 := hid (rangeBel2 hb A7.out)
      have B8 := hid (rangeBel2 hb B7.out)
      clear V7 U7 P7 Q7 H7 W7 A7 B7
      clear hb D7
      have e8 := hid (heap_alloc_new w8 (.cells z32 29))
      go_wp2_with (first
        | (with_reducible refine wpList_alloc_row rfl 29 rfl z32 info32 ?_)
        | ((with_reducible refine wpList_store_row rfl 29 (.tmp 11) (.tmp 75) rfl _ _ rfl rfl 29 z32 ?_ ?_ ?_ ?_ ?_); exact e8.out; exact sizeDgR xb; exact zDgR xb; exact oneDgR xb; intro w9 hgS hbS hsS; have X9 := hid (xnewP rfl hbS); have C9 := hid (rangeOf (l := xb.1.map bv) hgS); clear hgS hbS hsS; have V9 := hid (V8.out.bel X9.out); have U9 := hid (U8.out.bel X9.out); have P9 := hid (P8.out.bel X9.out); have Q9 := hid (Q8.out.bel X9.out); have H9 := hid (H8.out.bel X9.out (Nat.lt_of_lt_of_le hlow.out W8.out.size)); have W9 := hid (W8.out.trans (X9.out.mono W8.out.size)); have A9 := hid (rangeBel2 X9.out A8.out); have B9 := hid (rangeBel2 X9.out B8.out); clear V8 U8 P8 Q8 H8 W8 A8 B8))
      refine wp_region_noPanic ?_
      refine wp_region_held_drew (S := fun w' => Below w9.heap.size w9 w') (by kernel_rfl) ?_ (fun hHeld => ?_)
      · exact bel_drew w9
      refine' wpAnyH_take (i := 0) (oi := _) (v := ?_) rfl (by kernel_rfl) (by kernel_rfl) (by kernel_rfl) (fun _ _ _ h => h) (Or.inl ⟨by rfl, ?_⟩) (by assumption) ?_
      rotate_left
      · intro W hSw
        go_simp
        first | done | (with_reducible rfl)
      try simp only [Act.put, sQa, sQb, sQc, gQa, gQb, gQc]
      refine' wpAnyH_take (i := 1) (oi := _) (v := ?_) rfl (by kernel_rfl) (by kernel_rfl) (by kernel_rfl) (fun _ _ _ h => h) (Or.inl ⟨by rfl, ?_⟩) (by assumption) ?_
      rotate_left
      · intro W hSw
        go_simp
        first | done | (with_reducible rfl)
      try simp only [Act.put, sQa, sQb, sQc, gQa, gQb, gQc]
      refine' wpAnyH_take (i := 2) (oi := _) (v := ?_) rfl (by kernel_rfl) (by kernel_rfl) (by kernel_rfl) (fun _ _ _ h => h) (Or.inl ⟨by rfl, ?_⟩) (by assumption) ?_
      rotate_left
      · intro W hSw
        go_simp
        first | done | (with_reducible rfl)
      try simp only [Act.put, sQa, sQb, sQc, gQa, gQb, gQc]
      refine' wpAnyH_take (i := 3) (oi := _) (v := ?_) rfl (by kernel_rfl) (by kernel_rfl) (by kernel_rfl) (fun _ _ _ h => h) (Or.inl ⟨by rfl, ?_⟩) (by assumption) ?_
      rotate_left
      · intro W hSw
        go_simp
        first | done | (with_reducible rfl)
      try simp only [Act.put, sQa, sQb, sQc, gQa, gQb, gQc]
      refine' wpAnyH_take (i := 4) (oi := _) (v := ?_) rfl (by kernel_rfl) (by kernel_rfl) (by kernel_rfl) (fun _ _ _ h => h) (Or.inl ⟨by rfl, ?_⟩) (by assumption) ?_
      rotate_left
      · intro W hSw
        go_simp
        first | done | (with_reducible rfl)
      try simp only [Act.put, sQa, sQb, sQc, gQa, gQb, gQc]
      refine' wpAnyH_take (i := 5) (oi := _) (v := ?_) rfl (by kernel_rfl) (by kernel_rfl) (by kernel_rfl) (fun _ _ _ h => h) (Or.inl ⟨by rfl, ?_⟩) (by assumption) ?_
      rotate_left
      · intro W hSw
        go_simp
        first | done | (with_reducible rfl)
      try simp only [Act.put, sQa, sQb, sQc, gQa, gQb, gQc]
      refine' wpAnyH_take (i := 6) (oi := _) (v := _) rfl (by kernel_rfl) (by kernel_rfl) (by kernel_rfl) (fun _ _ _ h => h) (yieldsIf_load_mid (by rfl) _ _ rfl _ _ rfl _ _ (fun _ h => rangeBel2 h C9.out) hu rfl ixb.out) (by assumption) ?_
      try simp only [Act.put, sQa, sQb, sQc, gQa, gQb, gQc]
      refine' wpAnyH_take (i := 7) (oi := _) (v := _) rfl (by kernel_rfl) (by kernel_rfl) (by kernel_rfl) (fun _ _ _ h => h) (yieldsIf_load_mid (by rfl) _ _ rfl _ _ rfl _ _ (fun _ h => rangeBel2 h A9.out) hu rfl ix0.out) (by assumption) ?_
      try simp only [Act.put, sQa, sQb, sQc, gQa, gQb, gQc]
      refine' wpAnyH_take (i := 8) (oi := _) (v := _) rfl (by kernel_rfl) (by kernel_rfl) (by kernel_rfl) (fun _ _ _ h => h) (yieldsIf_load_mid (by rfl) _ _ rfl _ _ rfl _ _ (fun _ h => rangeBel2 h B9.out) hu rfl ix1.out) (by assumption) ?_
      try simp only [Act.put, sQa, sQb, sQc, gQa, gQb, gQc]
      refine wpAnyH_ready (rs := [9]) (by kernel_rfl) (by simp) ?_
      refine AllReadyH.cons (o := _) rfl (fun K hK => ?_) AllReadyH.nil
      go_simp
      refine (hF.out _ (H9.out.bel hHeld (Nat.lt_of_lt_of_le hlow.out W9.out.size))).mono ?_
      rintro e v9 ⟨rfl, hB⟩
      go_wp2_with fail
      refine hK.out _ _ ?_ (fun hHeld => ?_)
      · exact hHeld.trans (hB.mono hHeld.size)
      clear hK K
      try simp only [Act.put, sQa, sQb, sQc, gQa, gQb, gQc]
      refine' wpAnyH_take (i := 10) (oi := _) (v := ?_) rfl (by kernel_rfl) (by kernel_rfl) (by kernel_rfl) (fun _ _ _ h => h) (Or.inl ⟨by rfl, ?_⟩) (by assumption) ?_
      rotate_left
      · intro W hSw
        go_simp
        first | done | (with_reducible rfl)
      try simp only [Act.put, sQa, sQb, sQc, gQa, gQb, gQc]
      refine' wpAnyH_take (i := 11) (oi := _) (v := ?_) rfl (by kernel_rfl) (by kernel_rfl) (by kernel_rfl) (fun _ _ _ h => h) (Or.inl ⟨by rfl, ?_⟩) (by assumption) ?_
      rotate_left
      · intro W hSw
        go_simp
        first | done | (with_reducible rfl)
      try simp only [Act.put, sQa, sQb, sQc, gQa, gQb, gQc]
      refine' wpAnyH_take (i := 12) (oi := _) (v := ?_) rfl (by kernel_rfl) (by kernel_rfl) (by kernel_rfl) (fun _ _ _ h => h) (Or.inl ⟨by rfl, ?_⟩) (by assumption) ?_
      rotate_left
      · intro W hSw
        go_simp
        first | done | (with_reducible rfl)
      try simp only [Act.put, sQa, sQb, sQc, gQa, gQb, gQc]
      refine wpAnyH_done (by kernel_rfl) ?_ _
      refine NoPanic.normal ?_
      go_wp2
      go_ret
      exact ⟨rfl, W9.out.trans (hHeld.mono W9.out.size)⟩
    · skip
      have n1 : ((ls0.length : Int) != 1) = true := by rw [bne_iff_ne]; omega
      have k1 : ¬ (ls0.length : Int) = 1 := by omega
      have n2 : ((ls0.length : Int) != 2) = true := by rw [bne_iff_ne]; omega
      have k2 : ¬ (ls0.length : Int) = 2 := by omega
      have n4 : ((ls0.length : Int) != 4) = true := by rw [bne_iff_ne]; omega
      have k4 : ¬ (ls0.length : Int) = 4 := by omega
      have n8 : ((ls0.length : Int) != 8) = true := by rw [bne_iff_ne]; omega
      have k8 : ¬ (ls0.length : Int) = 8 := by omega
      have n16 : ((ls0.length : Int) != 16) = false := by rw [hK]; rfl
      replace hK := hid hK
      go_enter Tryd.func7, Tryd.ntmps7
      go_wp2_with fail
      refine (hAl.out _ H0.out).mono ?_
      rintro e w1 ⟨rfl, hb⟩
      have V1 := hid (V0.out.bel hb)
      have U1 := hid (U0.out.bel hb)
      have P1 := hid (P0.out.bel hb)
      have Q1 := hid (Q0.out.bel hb)
      have H1 := hid (H0.out.bel hb hlow.out)
      have W1 := hid (W0.out.trans (hb.mono W0.out.size))
      clear hb
      go_wp2_with fail
      refine (hG.out _ V1.out).mono ?_
      rintro e w2 ⟨rfl, hw⟩
      rw [hw]
      clear hw
      go_wp2_with fail
      refine (hG2.out _ U1.out).mono ?_
      rintro e w2 ⟨rfl, hw⟩
      rw [hw]
      clear hw
      go_wp2_with fail
      refine (hR0.out _ V1.out H1.out).mono ?_
      rintro e w2 ⟨rfl, hb⟩
      have V2 := hid (V1.out.bel hb)
      have U2 := hid (U1.out.bel hb)
      have P2 := hid (P1.out.bel hb)
      have Q2 := hid (Q1.out.bel hb)
      have H2 := hid (H1.out.bel hb (Nat.lt_of_lt_of_le hlow.out W1.out.size))
      have W2 := hid (W1.out.trans (hb.mono W1.out.size))
      clear V1 U1 P1 Q1 H1 W1
      clear hb
      have e2 := hid (heap_alloc_new w2 (.cells z32 29))
      go_wp2_with (first
        | (with_reducible refine wpList_alloc_row rfl 29 rfl z32 info32 ?_)
        | ((with_reducible refine wpList_store_row rfl 29 (.tmp 7) (.tmp 61) rfl _ _ rfl rfl 29 z32 ?_ ?_ ?_ ?_ ?_); exact e2.out; exact sizeDgR x0; exact zDgR x0; exact oneDgR x0; intro w3 hgS hbS hsS; have X3 := hid (xnewP rfl hbS); have A3 := hid (rangeOf (l := x0.1.map bv) hgS); clear hgS hbS hsS; have V3 := hid (V2.out.bel X3.out); have U3 := hid (U2.out.bel X3.out); have P3 := hid (P2.out.bel X3.out); have Q3 := hid (Q2.out.bel X3.out); have H3 := hid (H2.out.bel X3.out (Nat.lt_of_lt_of_le hlow.out W2.out.size)); have W3 := hid (W2.out.trans (X3.out.mono W2.out.size)); clear V2 U2 P2 Q2 H2 W2))
      refine (hR1.out _ U3.out H3.out).mono ?_
      rintro e w4 ⟨rfl, hb⟩
      have V4 := hid (V3.out.bel hb)
      have U4 := hid (U3.out.bel hb)
      have P4 := hid (P3.out.bel hb)
      have Q4 := hid (Q3.out.bel hb)
      have H4 := hid (H3.out.bel hb (Nat.lt_of_lt_of_le hlow.out W3.out.size))
      have W4 := hid (W3.out.trans (hb.mono W3.out.size))
      have A4 := hid (rangeBel2 hb A3.out)
      clear V3 U3 P3 Q3 H3 W3 A3
      clear hb
      have e4 := hid (heap_alloc_new w4 (.cells z32 29))
      go_wp2_with (first
        | (with_reducible refine wpList_alloc_row rfl 29 rfl z32 info32 ?_)
        | ((with_reducible refine wpList_store_row rfl 29 (.tmp 9) (.tmp 66) rfl _ _ rfl rfl 29 z32 ?_ ?_ ?_ ?_ ?_); exact e4.out; exact sizeDgR x1; exact zDgR x1; exact oneDgR x1; intro w5 hgS hbS hsS; have X5 := hid (xnewP rfl hbS); have B5 := hid (rangeOf (l := x1.1.map bv) hgS); clear hgS hbS hsS; have V5 := hid (V4.out.bel X5.out); have U5 := hid (U4.out.bel X5.out); have P5 := hid (P4.out.bel X5.out); have Q5 := hid (Q4.out.bel X5.out); have H5 := hid (H4.out.bel X5.out (Nat.lt_of_lt_of_le hlow.out W4.out.size)); have W5 := hid (W4.out.trans (X5.out.mono W4.out.size)); have A5 := hid (rangeBel2 X5.out A4.out); clear V4 U4 P4 Q4 H4 W4 A4)
        | (refine wpList_build0 slotSlX rfl rfl ?_)
        | (at_builtin; refine wpList_appR slotSlX rfl (.tmp 69) (.tmp 70) rfl (fun b => b < w.heap.size) w5.heap.size (some ⟨w5.heap.size, 0, none⟩) a0 0 ls0.length 0 cap0 [] ls0 rfl rfl rfl rfl (rowO_build0 w5 _ (Nat.le_refl _) (by have := W5.out.size; omega)) (P5.out.alloc _).src (fun b hb => by have := W5.out.size; rw [World.size_alloc]; omega) (by have := hlen2.out; simp; omega) (by simp) ?_; intro ad6 ca6 w6 ho6 hb6; have X6 := hid ((ext_alloc w5 (.cells #[] 33)).trans hb6); have O6 := hid ho6; have Q6 := hid (Q5.out.bel X6.out); clear ho6 hb6)
        | (at_builtin; refine wpList_appR slotSlX rfl (.tmp 71) (.tmp 72) rfl (fun b => b < w.heap.size) w5.heap.size ad6 a1 ls0.length ls1.length ca6 cap1 ls0 ls1 rfl rfl rfl rfl O6.out Q6.out.src (fun b hb => by have := W5.out.size; have := X6.out.size; omega) (by have := hlen2.out; omega) X6.out.size ?_; intro ad7 ca7 w7 ho7 hb7; have X7 := hid (X6.out.trans hb7); have D7 := hid ho7.row.rds; have d7 := ho7.cap; rw [List.length_append] at d7; replace d7 := hid d7; clear ho7 hb7; have V7 := hid (V5.out.bel X7.out); have U7 := hid (U5.out.bel X7.out); have P7 := hid (P5.out.bel X7.out); have Q7 := hid (Q5.out.bel X7.out); have H7 := hid (H5.out.bel X7.out (Nat.lt_of_lt_of_le hlow.out W5.out.size)); have W7 := hid (W5.out.trans (X7.out.mono W5.out.size)); have A7 := hid (rangeBel2 X7.out A5.out); have B7 := hid (rangeBel2 X7.out B5.out); clear V5 U5 P5 Q5 H5 W5 A5 B5))
      refine (hRb.out ad7 ca7 _ D7.out d7.out.1 d7.out.2 H7.out).mono ?_
      rintro e w8 ⟨rfl, hb⟩
      have V8 := hid (V7.out.bel hb)
      have U8 := hid (U7.out.bel hb)
      have P8 := hid (P7.out.bel hb)
      have Q8 := hid (Q7.out.bel hb)
      have H8 := hid (H7.out.bel hb (Nat.lt_of_lt_of_le hlow.out W7.out.size))
      have W8 := hid (W7.out.trans (hb.mono W7.out.size))
      have A8 := hid (rangeBel2 hb A7.out)
      have B8 := hid (rangeBel2 hb B7.out)
      clear V7 U7 P7 Q7 H7 W7 A7 B7
      clear hb D7
      have e8 := hid (heap_alloc_new w8 (.cells z32 29))
      go_wp2_with (first
        | (with_reducible refine wpList_alloc_row rfl 29 rfl z32 info32 ?_)
        | ((with_reducible refine wpList_store_row rfl 29 (.tmp 11) (.tmp 75) rfl _ _ rfl rfl 29 z32 ?_ ?_ ?_ ?_ ?_); exact e8.out; exact sizeDgR xb; exact zDgR xb; exact oneDgR xb; intro w9 hgS hbS hsS; have X9 := hid (xnewP rfl hbS); have C9 := hid (rangeOf (l := xb.1.map bv) hgS); clear hgS hbS hsS; have V9 := hid (V8.out.bel X9.out); have U9 := hid (U8.out.bel X9.out); have P9 := hid (P8.out.bel X9.out); have Q9 := hid (Q8.out.bel X9.out); have H9 := hid (H8.out.bel X9.out (Nat.lt_of_lt_of_le hlow.out W8.out.size)); have W9 := hid (W8.out.trans (X9.out.mono W8.out.size)); have A9 := hid (rangeBel2 X9.out A8.out); have B9 := hid (rangeBel2 X9.out B8.out); clear V8 U8 P8 Q8 H8 W8 A8 B8))
      refine wp_region_noPanic ?_
      refine wp_region_held_drew (S := fun w' => Below w9.heap.size w9 w') (by kernel_rfl) ?_ (fun hHeld => ?_)
      · exact bel_drew w9
      refine' wpAnyH_take (i := 0) (oi := _) (v := ?_) rfl (by kernel_rfl) (by kernel_rfl) (by kernel_rfl) (fun _ _ _ h => h) (Or.inl ⟨by rfl, ?_⟩) (by assumption) ?_
      rotate_left
      · intro W hSw
        go_simp
        first | done | (with_reducible rfl)
      try simp only [Act.put, sQa, sQb, sQc, gQa, gQb, gQc]
      refine' wpAnyH_take (i := 1) (oi := _) (v := ?_) rfl (by kernel_rfl) (by kernel_rfl) (by kernel_rfl) (fun _ _ _ h => h) (Or.inl ⟨by rfl, ?_⟩) (by assumption) ?_
      rotate_left
      · intro W hSw
        go_simp
        first | done | (with_reducible rfl)
      try simp only [Act.put, sQa, sQb, sQc, gQa, gQb, gQc]
      refine' wpAnyH_take (i := 2) (oi := _) (v := ?_) rfl (by kernel_rfl) (by kernel_rfl) (by kernel_rfl) (fun _ _ _ h => h) (Or.inl ⟨by rfl, ?_⟩) (by assumption) ?_
      rotate_left
      · intro W hSw
        go_simp
        first | done | (with_reducible rfl)
      try simp only [Act.put, sQa, sQb, sQc, gQa, gQb, gQc]
      refine' wpAnyH_take (i := 3) (oi := _) (v := ?_) rfl (by kernel_rfl) (by kernel_rfl) (by kernel_rfl) (fun _ _ _ h => h) (Or.inl ⟨by rfl, ?_⟩) (by assumption) ?_
      rotate_left
      · intro W hSw
        go_simp
        first | done | (with_reducible rfl)
      try simp only [Act.put, sQa, sQb, sQc, gQa, gQb, gQc]
      refine' wpAnyH_take (i := 4) (oi := _) (v := ?_) rfl (by kernel_rfl) (by kernel_rfl) (by kernel_rfl) (fun _ _ _ h => h) (Or.inl ⟨by rfl, ?_⟩) (by assumption) ?_
      rotate_left
      · intro W hSw
        go_simp
        first | done | (with_reducible rfl)
      try simp only [Act.put, sQa, sQb, sQc, gQa, gQb, gQc]
      refine' wpAnyH_take (i := 5) (oi := _) (v := ?_) rfl (by kernel_rfl) (by kernel_rfl) (by kernel_rfl) (fun _ _ _ h => h) (Or.inl ⟨by rfl, ?_⟩) (by assumption) ?_
      rotate_left
      · intro W hSw
        go_simp
        first | done | (with_reducible rfl)
      try simp only [Act.put, sQa, sQb, sQc, gQa, gQb, gQc]
      refine' wpAnyH_take (i := 6) (oi := _) (v := _) rfl (by kernel_rfl) (by kernel_rfl) (by kernel_rfl) (fun _ _ _ h => h) (yieldsIf_load_mid (by rfl) _ _ rfl _ _ rfl _ _ (fun _ h => rangeBel2 h C9.out) hu rfl ixb.out) (by assumption) ?_
      try simp only [Act.put, sQa, sQb, sQc, gQa, gQb, gQc]
      refine' wpAnyH_take (i := 7) (oi := _) (v := _) rfl (by kernel_rfl) (by kernel_rfl) (by kernel_rfl) (fun _ _ _ h => h) (yieldsIf_load_mid (by rfl) _ _ rfl _ _ rfl _ _ (fun _ h => rangeBel2 h A9.out) hu rfl ix0.out) (by assumption) ?_
      try simp only [Act.put, sQa, sQb, sQc, gQa, gQb, gQc]
      refine' wpAnyH_take (i := 8) (oi := _) (v := _) rfl (by kernel_rfl) (by kernel_rfl) (by kernel_rfl) (fun _ _ _ h => h) (yieldsIf_load_mid (by rfl) _ _ rfl _ _ rfl _ _ (fun _ h => rangeBel2 h B9.out) hu rfl ix1.out) (by assumption) ?_
      try simp only [Act.put, sQa, sQb, sQc, gQa, gQb, gQc]
      refine wpAnyH_ready (rs := [9]) (by kernel_rfl) (by simp) ?_
      refine AllReadyH.cons (o := _) rfl (fun K hK => ?_) AllReadyH.nil
      go_simp
      refine (hF.out _ (H9.out.bel hHeld (Nat.lt_of_lt_of_le hlow.out W9.out.size))).mono ?_
      rintro e v9 ⟨rfl, hB⟩
      go_wp2_with fail
      refine hK.out _ _ ?_ (fun hHeld => ?_)
      · exact hHeld.trans (hB.mono hHeld.size)
      clear hK K
      try simp only [Act.put, sQa, sQb, sQc, gQa, gQb, gQc]
      refine' wpAnyH_take (i := 10) (oi := _) (v := ?_) rfl (by kernel_rfl) (by kernel_rfl) (by kernel_rfl) (fun _ _ _ h => h) (Or.inl ⟨by rfl, ?_⟩) (by assumption) ?_
      rotate_left
      · intro W hSw
        go_simp
        first | done | (with_reducible rfl)
      try simp only [Act.put, sQa, sQb, sQc, gQa, gQb, gQc]
      refine' wpAnyH_take (i := 11) (oi := _) (v := ?_) rfl (by kernel_rfl) (by kernel_rfl) (by kernel_rfl) (fun _ _ _ h => h) (Or.inl ⟨by rfl, ?_⟩) (by assumption) ?_
      rotate_left
      · intro W hSw
        go_simp
        first | done | (with_reducible rfl)
      try simp only [Act.put, sQa, sQb, sQc, gQa, gQb, gQc]
      refine' wpAnyH_take (i := 12) (oi := _) (v := ?_) rfl (by kernel_rfl) (by kernel_rfl) (by kernel_rfl) (fun _ _ _ h => h) (Or.inl ⟨by rfl, ?_⟩) (by assumption) ?_
      rotate_left
      · intro W hSw
        go_simp
        first | done | (with_reducible rfl)
      try simp only [Act.put, sQa, sQb, sQc, gQa, gQb, gQc]
      refine wpAnyH_done (by kernel_rfl) ?_ _
      refine NoPanic.normal ?_
      go_wp2
      go_ret
      exact ⟨rfl, W9.out.trans (hHeld.mono W9.out.size)⟩
  clear hF
  have hpf : (p && q) = false := by
    cases p <;> cases q <;> first | rfl | exact absurd ⟨rfl, rfl⟩ hpq
  rw [hpf] at hRb
  simp only [Bool.false_eq_true, if_false] at hRb
  generalize (if p = true then rootR ls0 else z0R) = x0 at *
  generalize (if q = true then rootR ls1 else z0R) = x1 at *
  generalize z0R = xb at *
  cases p
  case false =>
    simp only [Bool.false_eq_true, if_false] at hR0
    replace hR0 := hid hR0
    replace hRb := hid hRb
    generalize (if q = true then (0 : Int) else 8) = er at *
    replace hR1 := hid hR1
    clear hpf hpq
    rcases hn with hK | hK | hK | hK | hK
    · skip
      have n1 : ((ls0.length : Int) != 1) = false := by rw [hK]; rfl
      replace hK := hid hK
      go_enter Tryd.func7, Tryd.ntmps7
      go_wp2_with fail
      refine (hAl.out _ H0.out).mono ?_
      rintro e w1 ⟨rfl, hb⟩
      have V1 := hid (V0.out.bel hb)
      have U1 := hid (U0.out.bel hb)
      have P1 := hid (P0.out.bel hb)
      have Q1 := hid (Q0.out.bel hb)
      have H1 := hid (H0.out.bel hb hlow.out)
      have W1 := hid (W0.out.trans (hb.mono W0.out.size))
      clear hb
      go_wp2_with fail
      refine (hG.out _ V1.out).mono ?_
      rintro e w2 ⟨rfl, hw⟩
      rw [hw]
      clear hw
      go_wp2_with fail
      refine (hG2.out _ U1.out).mono ?_
      rintro e w2 ⟨rfl, hw⟩
      rw [hw]
      clear hw
      go_wp2_with fail
      refine (hR0.out _ V1.out H1.out).mono ?_
      rintro e w2 ⟨rfl, hb⟩
      have V2 := hid (V1.out.bel hb)
      have U2 := hid (U1.out.bel hb)
      have P2 := hid (P1.out.bel hb)
      have Q2 := hid (Q1.out.bel hb)
      have H2 := hid (H1.out.bel hb (Nat.lt_of_lt_of_le hlow.out W1.out.size))
      have W2 := hid (W1.out.trans (hb.mono W1.out.size))
      clear V1 U1 P1 Q1 H1 W1
      clear hb
      have e2 := hid (heap_alloc_new w2 (.cells z32 29))
      go_wp2_with (first
        | (with_reducible refine wpList_alloc_row rfl 29 rfl z32 info32 ?_)
        | ((with_reducible refine wpList_store_row rfl 29 (.tmp 7) (.tmp 61) rfl _ _ rfl rfl 29 z32 ?_ ?_ ?_ ?_ ?_); exact e2.out; exact sizeDgR x0; exact zDgR x0; exact oneDgR x0; intro w3 hgS hbS hsS; have X3 := hid (xnewP rfl hbS); have A3 := hid (rangeOf (l := x0.1.map bv) hgS); clear hgS hbS hsS; have V3 := hid (V2.out.bel X3.out); have U3 := hid (U2.out.bel X3.out); have P3 := hid (P2.out.bel X3.out); have Q3 := hid (Q2.out.bel X3.out); have H3 := hid (H2.out.bel X3.out (Nat.lt_of_lt_of_le hlow.out W2.out.size)); have W3 := hid (W2.out.trans (X3.out.mono W2.out.size)); clear V2 U2 P2 Q2 H2 W2))
      refine (hR1.out _ U3.out H3.out).mono ?_
      rintro e w4 ⟨rfl, hb⟩
      have V4 := hid (V3.out.bel hb)
      have U4 := hid (U3.out.bel hb)
      have P4 := hid (P3.out.bel hb)
      have Q4 := hid (Q3.out.bel hb)
      have H4 := hid (H3.out.bel hb (Nat.lt_of_lt_of_le hlow.out W3.out.size))
      have W4 := hid (W3.out.trans (hb.mono W3.out.size))
      have A4 := hid (rangeBel2 hb A3.out)
      clear V3 U3 P3 Q3 H3 W3 A3
      clear hb
      have e4 := hid (heap_alloc_new w4 (.cells z32 29))
      go_wp2_with (first
        | (with_reducible refine wpList_alloc_row rfl 29 rfl z32 info32 ?_)
        | ((with_reducible refine wpList_store_row rfl 29 (.tmp 9) (.tmp 66) rfl _ _ rfl rfl 29 z32 ?_ ?_ ?_ ?_ ?_); exact e4.out; exact sizeDgR x1; exact zDgR x1; exact oneDgR x1; intro w5 hgS hbS hsS; have X5 := hid (xnewP rfl hbS); have B5 := hid (rangeOf (l := x1.1.map bv) hgS); clear hgS hbS hsS; have V5 := hid (V4.out.bel X5.out); have U5 := hid (U4.out.bel X5.out); have P5 := hid (P4.out.bel X5.out); have Q5 := hid (Q4.out.bel X5.out); have H5 := hid (H4.out.bel X5.out (Nat.lt_of_lt_of_le hlow.out W4.out.size)); have W5 := hid (W4.out.trans (X5.out.mono W4.out.size)); have A5 := hid (rangeBel2 X5.out A4.out); clear V4 U4 P4 Q4 H4 W4 A4)
        | (refine wpList_build0 slotSlX rfl rfl ?_)
        | (at_builtin; refine wpList_appR slotSlX rfl (.tmp 69) (.tmp 70) rfl (fun b => b < w.heap.size) w5.heap.size (some ⟨w5.heap.size, 0, none⟩) a0 0 ls0.length 0 cap0 [] ls0 rfl rfl rfl rfl (rowO_build0 w5 _ (Nat.le_refl _) (by have := W5.out.size; omega)) (P5.out.alloc _).src (fun b hb => by have := W5.out.size; rw [World.size_alloc]; omega) (by have := hlen2.out; simp; omega) (by simp) ?_; intro ad6 ca6 w6 ho6 hb6; have X6 := hid ((ext_alloc w5 (.cells #[] 33)).trans hb6); have O6 := hid ho6; have Q6 := hid (Q5.out.bel X6.out); clear ho6 hb6)
        | (at_builtin; refine wpList_appR slotSlX rfl (.tmp 71) (.tmp 72) rfl (fun b => b < w.heap.size) w5.heap.size ad6 a1 ls0.length ls1.length ca6 cap1 ls0 ls1 rfl rfl rfl rfl O6.out Q6.out.src (fun b hb => by have := W5.out.size; have := X6.out.size; omega) (by have := hlen2.out; omega) X6.out.size ?_; intro ad7 ca7 w7 ho7 hb7; have X7 := hid (X6.out.trans hb7); have D7 := hid ho7.row.rds; have d7 := ho7.cap; rw [List.length_append] at d7; replace d7 := hid d7; clear ho7 hb7; have V7 := hid (V5.out.bel X7.out); have U7 := hid (U5.out.bel X7.out); have P7 := hid (P5.out.bel X7.out); have Q7 := hid (Q5.out.bel X7.out); have H7 := hid (H5.out.bel X7.out (Nat.lt_of_lt_of_le hlow.out W5.out.size)); have W7 := hid (W5.out.trans (X7.out.mono W5.out.size)); have A7 := hid (rangeBel2 X7.out A5.out); have B7 := hid (rangeBel2 X7.out B5.out); clear V5 U5 P5 Q5 H5 W5 A5 B5))
      refine (hRb.out ad7 ca7 _ D7.out d7.out.1 d7.out.2 H7.out).mono ?_
      rintro e w8 ⟨rfl, hb⟩
      have V8 := hid (V7.out.bel hb)
      have U8 := hid (U7.out.bel hb)
      have P8 := hid (P7.out.bel hb)
      have Q8 := hid (Q7.out.bel hb)
      have H8 := hid (H7.out.bel hb (Nat.lt_of_lt_of_le hlow.out W7.out.size))
      have W8 := hid (W7.out.trans (hb.mono W7.out.size))
      have A8 := hid (rangeBel2 hb A7.out)
      have B8 := hid (rangeBel2 hb B7.out)
      clear V7 U7 P7 Q7 H7 W7 A7 B7
      clear hb D7
      have e8 := hid (heap_alloc_new w8 (.cells z32 29))
      go_wp2_with (first
        | (with_reducible refine wpList_alloc_row rfl 29 rfl z32 info32 ?_)
        | ((with_reducible refine wpList_store_row rfl 29 (.tmp 11) (.tmp 75) rfl _ _ rfl rfl 29 z32 ?_ ?_ ?_ ?_ ?_); exact e8.out; exact sizeDgR xb; exact zDgR xb; exact oneDgR xb; intro w9 hgS hbS hsS; have X9 := hid (xnewP rfl hbS); have C9 := hid (rangeOf (l := xb.1.map bv) hgS); clear hgS hbS hsS; have V9 := hid (V8.out.bel X9.out); have U9 := hid (U8.out.bel X9.out); have P9 := hid (P8.out.bel X9.out); have Q9 := hid (Q8.out.bel X9.out); have H9 := hid (H8.out.bel X9.out (Nat.lt_of_lt_of_le hlow.out W8.out.size)); have W9 := hid (W8.out.trans (X9.out.mono W8.out.size)); have A9 := hid (rangeBel2 X9.out A8.out); have B9 := hid (rangeBel2 X9.out B8.out); clear V8 U8 P8 Q8 H8 W8 A8 B8))
      go_ret
      exact ⟨rfl, W9.out⟩
    · skip
      have n1 : ((ls0.length : Int) != 1) = true := by rw [bne_iff_ne]; omega
      have k1 : ¬ (ls0.length : Int) = 1 := by omega
      have n2 : ((ls0.length : Int) != 2) = false := by rw [hK]; rfl
      replace hK := hid hK
      go_enter Tryd.func7, Tryd.ntmps7
      go_wp2_with fail
      refine (hAl.out _ H0.out).mono ?_
      rintro e w1 ⟨rfl, hb⟩
      have V1 := hid (V0.out.bel hb)
      have U1 := hid (U0.out.bel hb)
      have P1 := hid (P0.out.bel hb)
      have Q1 := hid (Q0.out.bel hb)
      have H1 := hid (H0.out.bel hb hlow.out)
      have W1 := hid (W0.out.trans (hb.mono W0.out.size))
      clear hb
      go_wp2_with fail
      refine (hG.out _ V1.out).mono ?_
      rintro e w2 ⟨rfl, hw⟩
      rw [hw]
      clear hw
      go_wp2_with fail
      refine (hG2.out _ U1.out).mono ?_
      rintro e w2 ⟨rfl, hw⟩
      rw [hw]
      clear hw
      go_wp2_with fail
      refine (hR0.out _ V1.out H1.out).mono ?_
      rintro e w2 ⟨rfl, hb⟩
      have V2 := hid (V1.out.bel hb)
      have U2 := hid (U1.out.bel hb)
      have P2 := hid (P1.out.bel hb)
      have Q2 := hid (Q1.out.bel hb)
      have H2 := hid (H1.out.bel hb (Nat.lt_of_lt_of_le hlow.out W1.out.size))
      have W2 := hid (W1.out.trans (hb.mono W1.out.size))
      clear V1 U1 P1 Q1 H1 W1
      clear hb
      have e2 := hid (heap_alloc_new w2 (.cells z32 29))
      go_wp2_with (first
        | (with_reducible refine wpList_alloc_row rfl 29 rfl z32 info32 ?_)
        | ((with_reducible refine wpList_store_row rfl 29 (.tmp 7) (.tmp 61) rfl _ _ rfl rfl 29 z32 ?_ ?_ ?_ ?_ ?_); exact e2.out; exact sizeDgR x0; exact zDgR x0; exact oneDgR x0; intro w3 hgS hbS hsS; have X3 := hid (xnewP rfl hbS); have A3 := hid (rangeOf (l := x0.1.map bv) hgS); clear hgS hbS hsS; have V3 := hid (V2.out.bel X3.out); have U3 := hid (U2.out.bel X3.out); have P3 := hid (P2.out.bel X3.out); have Q3 := hid (Q2.out.bel X3.out); have H3 := hid (H2.out.bel X3.out (Nat.lt_of_lt_of_le hlow.out W2.out.size)); have W3 := hid (W2.out.trans (X3.out.mono W2.out.size)); clear V2 U2 P2 Q2 H2 W2))
      refine (hR1.out _ U3.out H3.out).mono ?_
      rintro e w4 ⟨rfl, hb⟩
      have V4 := hid (V3.out.bel hb)
      have U4 := hid (U3.out.bel hb)
      have P4 := hid (P3.out.bel hb)
      have Q4 := hid (Q3.out.bel hb)
      have H4 := hid (H3.out.bel hb (Nat.lt_of_lt_of_le hlow.out W3.out.size))
      have W4 := hid (W3.out.trans (hb.mono W3.out.size))
      have A4 := hid (rangeBel2 hb A3.out)
      clear V3 U3 P3 Q3 H3 W3 A3
      clear hb
      have e4 := hid (heap_alloc_new w4 (.cells z32 29))
      go_wp2_with (first
        | (with_reducible refine wpList_alloc_row rfl 29 rfl z32 info32 ?_)
        | ((with_reducible refine wpList_store_row rfl 29 (.tmp 9) (.tmp 66) rfl _ _ rfl rfl 29 z32 ?_ ?_ ?_ ?_ ?_); exact e4.out; exact sizeDgR x1; exact zDgR x1; exact oneDgR x1; intro w5 hgS hbS hsS; have X5 := hid (xnewP rfl hbS); have B5 := hid (rangeOf (l := x1.1.map bv) hgS); clear hgS hbS hsS; have V5 := hid (V4.out.bel X5.out); have U5 := hid (U4.out.bel X5.out); have P5 := hid (P4.out.bel X5.out); have Q5 := hid (Q4.out.bel X5.out); have H5 := hid (H4.out.bel X5.out (Nat.lt_of_lt_of_le hlow.out W4.out.size)); have W5 := hid (W4.out.trans (X5.out.mono W4.out.size)); have A5 := hid (rangeBel2 X5.out A4.out); clear V4 U4 P4 Q4 H4 W4 A4)
        | (refine wpList_build0 slotSlX rfl rfl ?_)
        | (at_builtin; refine wpList_appR slotSlX rfl (.tmp 69) (.tmp 70) rfl (fun b => b < w.heap.size) w5.heap.size (some ⟨w5.heap.size, 0, none⟩) a0 0 ls0.length 0 cap0 [] ls0 rfl rfl rfl rfl (rowO_build0 w5 _ (Nat.le_refl _) (by have := W5.out.size; omega)) (P5.out.alloc _).src (fun b hb => by have := W5.out.size; rw [World.size_alloc]; omega) (by have := hlen2.out; simp; omega) (by simp) ?_; intro ad6 ca6 w6 ho6 hb6; have X6 := hid ((ext_alloc w5 (.cells #[] 33)).trans hb6); have O6 := hid ho6; have Q6 := hid (Q5.out.bel X6.out); clear ho6 hb6)
        | (at_builtin; refine wpList_appR slotSlX rfl (.tmp 71) (.tmp 72) rfl (fun b => b < w.heap.size) w5.heap.size ad6 a1 ls0.length ls1.length ca6 cap1 ls0 ls1 rfl rfl rfl rfl O6.out Q6.out.src (fun b hb => by have := W5.out.size; have := X6.out.size; omega) (by have := hlen2.out; omega) X6.out.size ?_; intro ad7 ca7 w7 ho7 hb7; have X7 := hid (X6.out.trans hb7); have D7 := hid ho7.row.rds; have d7 := ho7.cap; rw [List.length_append] at d7; replace d7 := hid d7; clear ho7 hb7; have V7 := hid (V5.out.bel X7.out); have U7 := hid (U5.out.bel X7.out); have P7 := hid (P5.out.bel X7.out); have Q7 := hid (Q5.out.bel X7.out); have H7 := hid (H5.out.bel X7.out (Nat.lt_of_lt_of_le hlow.out W5.out.size)); have W7 := hid (W5.out.trans (X7.out.mono W5.out.size)); have A7 := hid (rangeBel2 X7.out A5.out); have B7 := hid (rangeBel2 X7.out B5.out); clear V5 U5 P5 Q5 H5 W5 A5 B5))
      refine (hRb.out ad7 ca7 _ D7.out d7.out.1 d7.out.2 H7.out).mono ?_
      rintro e w8 ⟨rfl, hb⟩
      have V8 := hid (V7.out.bel hb)
      have U8 := hid (U7.out.bel hb)
      have P8 := hid (P7.out.bel hb)
      have Q8 := hid (Q7.out.bel hb)
      have H8 := hid (H7.out.bel hb (Nat.lt_of_lt_of_le hlow.out W7.out.size))
      have W8 := hid (W7.out.trans (hb.mono W7.out.size))
      have A8 := hid (rangeBel2 hb A7.out)
      have B8 := hid (rangeBel2 hb B7.out)
      clear V7 U7 P7 Q7 H7 W7 A7 B7
      clear hb D7
      have e8 := hid (heap_alloc_new w8 (.cells z32 29))
      go_wp2_with (first
        | (with_reducible refine wpList_alloc_row rfl 29 rfl z32 info32 ?_)
        | ((with_reducible refine wpList_store_row rfl 29 (.tmp 11) (.tmp 75) rfl _ _ rfl rfl 29 z32 ?_ ?_ ?_ ?_ ?_); exact e8.out; exact sizeDgR xb; exact zDgR xb; exact oneDgR xb; intro w9 hgS hbS hsS; have X9 := hid (xnewP rfl hbS); have C9 := hid (rangeOf (l := xb.1.map bv) hgS); clear hgS hbS hsS; have V9 := hid (V8.out.bel X9.out); have U9 := hid (U8.out.bel X9.out); have P9 := hid (P8.out.bel X9.out); have Q9 := hid (Q8.out.bel X9.out); have H9 := hid (H8.out.bel X9.out (Nat.lt_of_lt_of_le hlow.out W8.out.size)); have W9 := hid (W8.out.trans (X9.out.mono W8.out.size)); have A9 := hid (rangeBel2 X9.out A8.out); have B9 := hid (rangeBel2 X9.out B8.out); clear V8 U8 P8 Q8 H8 W8 A8 B8))
      go_ret
      exact ⟨rfl, W9.out⟩
    · skip
      have n1 : ((ls0.length : Int) != 1) = true := by rw [bne_iff_ne]; omega
      have k1 : ¬ (ls0.length : Int) = 1 := by omega
      have n2 : ((ls0.length : Int) != 2) = true := by rw [bne_iff_ne]; omega
      have k2 : ¬ (ls0.length : Int) = 2 := by omega
      have n4 : ((ls0.length : Int) != 4) = false := by rw [hK]; rfl
      replace hK := hid hK
      go_enter Tryd.func7, Tryd.ntmps7
      go_wp2_with fail
      refine (hAl.out _ H0.out).mono ?_
      rintro e w1 ⟨rfl, hb⟩
      have V1 := hid (V0.out.bel hb)
      have U1 := hid (U0.out.bel hb)
      have P1 := hid (P0.out.bel hb)
      have Q1 := hid (Q0.out.bel hb)
      have H1 := hid (H0.out.bel hb hlow.out)
      have W1 := hid (W0.out.trans (hb.mono W0.out.size))
      clear hb
      go_wp2_with fail
      refine (hG.out _ V1.out).mono ?_
      rintro e w2 ⟨rfl, hw⟩
      rw [hw]
      clear hw
      go_wp2_with fail
      refine (hG2.out _ U1.out).mono ?_
      rintro e w2 ⟨rfl, hw⟩
      rw [hw]
      clear hw
      go_wp2_with fail
      refine (hR0.out _ V1.out H1.out).mono ?_
      rintro e w2 ⟨rfl, hb⟩
      have V2 := hid (V1.out.bel hb)
      have U2 := hid (U1.out.bel hb)
      have P2 := hid (P1.out.bel hb)
      have Q2 := hid (Q1.out.bel hb)
      have H2 := hid (H1.out.bel hb (Nat.lt_of_lt_of_le hlow.out W1.out.size))
      have W2 := hid (W1.out.trans (hb.mono W1.out.size))
      clear V1 U1 P1 Q1 H1 W1
      clear hb
      have e2 := hid (heap_alloc_new w2 (.cells z32 29))
      go_wp2_with (first
        | (with_reducible refine wpList_alloc_row rfl 29 rfl z32 info32 ?_)
        | ((with_reducible refine wpList_store_row rfl 29 (.tmp 7) (.tmp 61) rfl _ _ rfl rfl 29 z32 ?_ ?_ ?_ ?_ ?_); exact e2.out; exact sizeDgR x0; exact zDgR x0; exact oneDgR x0; intro w3 hgS hbS hsS; have X3 := hid (xnewP rfl hbS); have A3 := hid (rangeOf (l := x0.1.map bv) hgS); clear hgS hbS hsS; have V3 := hid (V2.out.bel X3.out); have U3 := hid (U2.out.bel X3.out); have P3 := hid (P2.out.bel X3.out); have Q3 := hid (Q2.out.bel X3.out); have H3 := hid (H2.out.bel X3.out (Nat.lt_of_lt_of_le hlow.out W2.out.size)); have W3 := hid (W2.out.trans (X3.out.mono W2.out.size)); clear V2 U2 P2 Q2 H2 W2))
      refine (hR1.out _ U3.out H3.out).mono ?_
      rintro e w4 ⟨rfl, hb⟩
      have V4 := hid (V3.out.bel hb)
      have U4 := hid (U3.out.bel hb)
      have P4 := hid (P3.out.bel hb)
      have Q4 := hid (Q3.out.bel hb)
      have H4 := hid (H3.out.bel hb (Nat.lt_of_lt_of_le hlow.out W3.out.size))
      have W4 := hid (W3.out.trans (hb.mono W3.out.size))
      have A4 := hid (rangeBel2 hb A3.out)
      clear V3 U3 P3 Q3 H3 W3 A3
      clear hb
      have e4 := hid (heap_alloc_new w4 (.cells z32 29))
      go_wp2_with (first
        | (with_reducible refine wpList_alloc_row rfl 29 rfl z32 info32 ?_)
        | ((with_reducible refine wpList_store_row rfl 29 (.tmp 9) (.tmp 66) rfl _ _ rfl rfl 29 z32 ?_ ?_ ?_ ?_ ?_); exact e4.out; exact sizeDgR x1; exact zDgR x1; exact oneDgR x1; intro w5 hgS hbS hsS; have X5 := hid (xnewP rfl hbS); have B5 := hid (rangeOf (l := x1.1.map bv) hgS); clear hgS hbS hsS; have V5 := hid (V4.out.bel X5.out); have U5 := hid (U4.out.bel X5.out); have P5 := hid (P4.out.bel X5.out); have Q5 := hid (Q4.out.bel X5.out); have H5 := hid (H4.out.bel X5.out (Nat.lt_of_lt_of_le hlow.out W4.out.size)); have W5 := hid (W4.out.trans (X5.out.mono W4.out.size)); have A5 := hid (rangeBel2 X5.out A4.out); clear V4 U4 P4 Q4 H4 W4 A4)
        | (refine wpList_build0 slotSlX rfl rfl ?_)
        | (at_builtin; refine wpList_appR slotSlX rfl (.tmp 69) (.tmp 70) rfl (fun b => b < w.heap.size) w5.heap.size (some ⟨w5.heap.size, 0, none⟩) a0 0 ls0.length 0 cap0 [] ls0 rfl rfl rfl rfl (rowO_build0 w5 _ (Nat.le_refl _) (by have := W5.out.size; omega)) (P5.out.alloc _).src (fun b hb => by have := W5.out.size; rw [World.size_alloc]; omega) (by have := hlen2.out; simp; omega) (by simp) ?_; intro ad6 ca6 w6 ho6 hb6; have X6 := hid ((ext_alloc w5 (.cells #[] 33)).trans hb6); have O6 := hid ho6; have Q6 := hid (Q5.out.bel X6.out); clear ho6 hb6)
        | (at_builtin; refine wpList_appR slotSlX rfl (.tmp 71) (.tmp 72) rfl (fun b => b < w.heap.size) w5.heap.size ad6 a1 ls0.length ls1.length ca6 cap1 ls0 ls1 rfl rfl rfl rfl O6.out Q6.out.src (fun b hb => by have := W5.out.size; have := X6.out.size; omega) (by have := hlen2.out; omega) X6.out.size ?_; intro ad7 ca7 w7 ho7 hb7; have X7 := hid (X6.out.trans hb7); have D7 := hid ho7.row.rds; have d7 := ho7.cap; rw [List.length_append] at d7; replace d7 := hid d7; clear ho7 hb7; have V7 := hid (V5.out.bel X7.out); have U7 := hid (U5.out.bel X7.out); have P7 := hid (P5.out.bel X7.out); have Q7 := hid (Q5.out.bel X7.out); have H7 := hid (H5.out.bel X7.out (Nat.lt_of_lt_of_le hlow.out W5.out.size)); have W7 := hid (W5.out.trans (X7.out.mono W5.out.size)); have A7 := hid (rangeBel2 X7.out A5.out); have B7 := hid (rangeBel2 X7.out B5.out); clear V5 U5 P5 Q5 H5 W5 A5 B5))
      refine (hRb.out ad7 ca7 _ D7.out d7.out.1 d7.out.2 H7.out).mono ?_
      rintro e w8 ⟨rfl, hb⟩
      have V8 := hid (V7.out.bel hb)
      have U8 := hid (U7.out.bel hb)
      have P8 := hid (P7.out.bel hb)
      have Q8 := hid (Q7.out.bel hb)
      have H8 := hid (H7.out.bel hb (Nat.lt_of_lt_of_le hlow.out W7.out.size))
      have W8 := hid (W7.out.trans (hb.mono W7.out.size))
      have A8 := hid (rangeBel2 hb A7.out)
      have B8 := hid (rangeBel2 hb B7.out)
      clear V7 U7 P7 Q7 H7 W7 A7 B7
      clear hb D7
      have e8 := hid (heap_alloc_new w8 (.cells z32 29))
      go_wp2_with (first
        | (with_reducible refine wpList_alloc_row rfl 29 rfl z32 info32 ?_)
        | ((with_reducible refine wpList_store_row rfl 29 (.tmp 11) (.tmp 75) rfl _ _ rfl rfl 29 z32 ?_ ?_ ?_ ?_ ?_); exact e8.out; exact sizeDgR xb; exact zDgR xb; exact oneDgR xb; intro w9 hgS hbS hsS; have X9 := hid (xnewP rfl hbS); have C9 := hid (rangeOf (l := xb.1.map bv) hgS); clear hgS hbS hsS; have V9 := hid (V8.out.bel X9.out); have U9 := hid (U8.out.bel X9.out); have P9 := hid (P8.out.bel X9.out); have Q9 := hid (Q8.out.bel X9.out); have H9 := hid (H8.out.bel X9.out (Nat.lt_of_lt_of_le hlow.out W8.out.size)); have W9 := hid (W8.out.trans (X9.out.mono W8.out.size)); have A9 := hid (rangeBel2 X9.out A8.out); have B9 := hid (rangeBel2 X9.out B8.out); clear V8 U8 P8 Q8 H8 W8 A8 B8))
      go_ret
      exact ⟨rfl, W9.out⟩
    · skip
      have n1 : ((ls0.length : Int) != 1) = true := by rw [bne_iff_ne]; omega
      have k1 : ¬ (ls0.length : Int) = 1 := by omega
      have n2 : ((ls0.length : Int) != 2) = true := by rw [bne_iff_ne]; omega
      have k2 : ¬ (ls0.length : Int) = 2 := by omega
      have n4 : ((ls0.length : Int) != 4) = true := by rw [bne_iff_ne]; omega
      have k4 : ¬ (ls0.length : Int) = 4 := by omega
      have n8 : ((ls0.length : Int) != 8) = false := by rw [hK]; rfl
      replace hK := hid hK
      go_enter Tryd.func7, Tryd.ntmps7
      go_wp2_with fail
      refine (hAl.out _ H0.out).mono ?_
      rintro e w1 ⟨rfl, hb⟩
      have V1 := hid (V0.out.bel hb)
      have U1 := hid (U0.out.bel hb)
      have P1 := hid (P0.out.bel hb)
      have Q1 := hid (Q0.out.bel hb)
      have H1 := hid (H0.out.bel hb hlow.out)
      have W1 := hid (W0.out.trans (hb.mono W0.out.size))
      clear hb
      go_wp2_with fail
      refine (hG.out _ V1.out).mono ?_
      rintro e w2 ⟨rfl, hw⟩
      rw [hw]
      clear hw
      go_wp2_with fail
      refine (hG2.out _ U1.out).mono ?_
      rintro e w2 ⟨rfl, hw⟩
      rw [hw]
      clear hw
      go_wp2_with fail
      refine (hR0.out _ V1.out H1.out).mono ?_
      rintro e w2 ⟨rfl, hb⟩
      have V2 := hid (V1.out.bel hb)
      have U2 := hid (U1.out.bel hb)
      have P2 := hid (P1.out.bel hb)
      have Q2 := hid (Q1.out.bel hb)
      have H2 := hid (H1.out.bel hb (Nat.lt_of_lt_of_le hlow.out W1.out.size))
      have W2 := hid (W1.out.trans (hb.mono W1.out.size))
      clear V1 U1 P1 Q1 H1 W1
      clear hb
      have e2 := hid (heap_alloc_new w2 (.cells z32 29))
      go_wp2_with (first
        | (with_reducible refine wpList_alloc_row rfl 29 rfl z32 info32 ?_)
        | ((with_reducible refine wpList_store_row rfl 29 (.tmp 7) (.tmp 61) rfl _ _ rfl rfl 29 z32 ?_ ?_ ?_ ?_ ?_); exact e2.out; exact sizeDgR x0; exact zDgR x0; exact oneDgR x0; intro w3 hgS hbS hsS; have X3 := hid (xnewP rfl hbS); have A3 := hid (rangeOf (l := x0.1.map bv) hgS); clear hgS hbS hsS; have V3 := hid (V2.out.bel X3.out); have U3 := hid (U2.out.bel X3.out); have P3 := hid (P2.out.bel X3.out); have Q3 := hid (Q2.out.bel X3.out); have H3 := hid (H2.out.bel X3.out (Nat.lt_of_lt_of_le hlow.out W2.out.size)); have W3 := hid (W2.out.trans (X3.out.mono W2.out.size)); clear V2 U2 P2 Q2 H2 W2))
      refine (hR1.out _ U3.out H3.out).mono ?_
      rintro e w4 ⟨rfl, hb⟩
      have V4 := hid (V3.out.bel hb)
      have U4 := hid (U3.out.bel hb)
      have P4 := hid (P3.out.bel hb)
      have Q4 := hid (Q3.out.bel hb)
      have H4 := hid (H3.out.bel hb (Nat.lt_of_lt_of_le hlow.out W3.out.size))
      have W4 := hid (W3.out.trans (hb.mono W3.out.size))
      have A4 := hid (rangeBel2 hb A3.out)
      clear V3 U3 P3 Q3 H3 W3 A3
      clear hb
      have e4 := hid (heap_alloc_new w4 (.cells z32 29))
      go_wp2_with (first
        | (with_reducible refine wpList_alloc_row rfl 29 rfl z32 info32 ?_)
        | ((with_reducible refine wpList_store_row rfl 29 (.tmp 9) (.tmp 66) rfl _ _ rfl rfl 29 z32 ?_ ?_ ?_ ?_ ?_); exact e4.out; exact sizeDgR x1; exact zDgR x1; exact oneDgR x1; intro w5 hgS hbS hsS; have X5 := hid (xnewP rfl hbS); have B5 := hid (rangeOf (l := x1.1.map bv) hgS); clear hgS hbS hsS; have V5 := hid (V4.out.bel X5.out); have U5 := hid (U4.out.bel X5.out); have P5 := hid (P4.out.bel X5.out); have Q5 := hid (Q4.out.bel X5.out); have H5 := hid (H4.out.bel X5.out (Nat.lt_of_lt_of_le hlow.out W4.out.size)); have W5 := hid (W4.out.trans (X5.out.mono W4.out.size)); have A5 := hid (rangeBel2 X5.out A4.out); clear V4 U4 P4 Q4 H4 W4 A4)
        | (refine wpList_build0 slotSlX rfl rfl ?_)
        | (at_builtin; refine wpList_appR slotSlX rfl (.tmp 69) (.tmp 70) rfl (fun b => b < w.heap.size) w5.heap.size (some ⟨w5.heap.size, 0, none⟩) a0 0 ls0.length 0 cap0 [] ls0 rfl rfl rfl rfl (rowO_build0 w5 _ (Nat.le_refl _) (by have := W5.out.size; omega)) (P5.out.alloc _).src (fun b hb => by have := W5.out.size; rw [World.size_alloc]; omega) (by have := hlen2.out; simp; omega) (by simp) ?_; intro ad6 ca6 w6 ho6 hb6; have X6 := hid ((ext_alloc w5 (.cells #[] 33)).trans hb6); have O6 := hid ho6; have Q6 := hid (Q5.out.bel X6.out); clear ho6 hb6)
        | (at_builtin; refine wpList_appR slotSlX rfl (.tmp 71) (.tmp 72) rfl (fun b => b < w.heap.size) w5.heap.size ad6 a1 ls0.length ls1.length ca6 cap1 ls0 ls1 rfl rfl rfl rfl O6.out Q6.out.src (fun b hb => by have := W5.out.size; have := X6.out.size; omega) (by have := hlen2.out; omega) X6.out.size ?_; intro ad7 ca7 w7 ho7 hb7; have X7 := hid (X6.out.trans hb7); have D7 := hid ho7.row.rds; have d7 := ho7.cap; rw [List.length_append] at d7; replace d7 := hid d7; clear ho7 hb7; have V7 := hid (V5.out.bel X7.out); have U7 := hid (U5.out.bel X7.out); have P7 := hid (P5.out.bel X7.out); have Q7 := hid (Q5.out.bel X7.out); have H7 := hid (H5.out.bel X7.out (Nat.lt_of_lt_of_le hlow.out W5.out.size)); have W7 := hid (W5.out.trans (X7.out.mono W5.out.size)); have A7 := hid (rangeBel2 X7.out A5.out); have B7 := hid (rangeBel2 X7.out B5.out); clear V5 U5 P5 Q5 H5 W5 A5 B5))
      refine (hRb.out ad7 ca7 _ D7.out d7.out.1 d7.out.2 H7.out).mono ?_
      rintro e w8 ⟨rfl, hb⟩
      have V8 := hid (V7.out.bel hb)
      have U8 := hid (U7.out.bel hb)
      have P8 := hid (P7.out.bel hb)
      have Q8 := hid (Q7.out.bel hb)
      have H8 := hid (H7.out.bel hb (Nat.lt_of_lt_of_le hlow.out W7.out.size))
      have W8 := hid (W7.out.trans (hb.mono W7.out.size))
      have A8 := hid (rangeBel2 hb A7.out)
      have B8 := hid (rangeBel2 hb B7.out)
      clear V7 U7 P7 Q7 H7 W7 A7 B7
      clear hb D7
      have e8 := hid (heap_alloc_new w8 (.cells z32 29))
      go_wp2_with (first
        | (with_reducible refine wpList_alloc_row rfl 29 rfl z32 info32 ?_)
        | ((with_reducible refine wpList_store_row rfl 29 (.tmp 11) (.tmp 75) rfl _ _ rfl rfl 29 z32 ?_ ?_ ?_ ?_ ?_); exact e8.out; exact sizeDgR xb; exact zDgR xb; exact oneDgR xb; intro w9 hgS hbS hsS; have X9 := hid (xnewP rfl hbS); have C9 := hid (rangeOf (l := xb.1.map bv) hgS); clear hgS hbS hsS; have V9 := hid (V8.out.bel X9.out); have U9 := hid (U8.out.bel X9.out); have P9 := hid (P8.out.bel X9.out); have Q9 := hid (Q8.out.bel X9.out); have H9 := hid (H8.out.bel X9.out (Nat.lt_of_lt_of_le hlow.out W8.out.size)); have W9 := hid (W8.out.trans (X9.out.mono W8.out.size)); have A9 := hid (rangeBel2 X9.out A8.out); have B9 := hid (rangeBel2 X9.out B8.out); clear V8 U8 P8 Q8 H8 W8 A8 B8))
      go_ret
      exact ⟨rfl, W9.out⟩
    · skip
      have n1 : ((ls0.length : Int) != 1) = true := by rw [bne_iff_ne]; omega
      have k1 : ¬ (ls0.length : Int) = 1 := by omega
      have n2 : ((ls0.length : Int) != 2) = true := by rw [bne_iff_ne]; omega
      have k2 : ¬ (ls0.length : Int) = 2 := by omega
      have n4 : ((ls0.length : Int) != 4) = true := by rw [bne_iff_ne]; omega
      have k4 : ¬ (ls0.length : Int) = 4 := by omega
      have n8 : ((ls0.length : Int) != 8) = true := by rw [bne_iff_ne]; omega
      have k8 : ¬ (ls0.length : Int) = 8 := by omega
      have n16 : ((ls0.length : Int) != 16) = false := by rw [hK]; rfl
      replace hK := hid hK
      go_enter Tryd.func7, Tryd.ntmps7
      go_wp2_with fail
      refine (hAl.out _ H0.out).mono ?_
      rintro e w1 ⟨rfl, hb⟩
      have V1 := hid (V0.out.bel hb)
      have U1 := hid (U0.out.bel hb)
      have P1 := hid (P0.out.bel hb)
      have Q1 := hid (Q0.out.bel hb)
      have H1 := hid (H0.out.bel hb hlow.out)
      have W1 := hid (W0.out.trans (hb.mono W0.out.size))
      clear hb
      go_wp2_with fail
      refine (hG.out _ V1.out).mono ?_
      rintro e w2 ⟨rfl, hw⟩
      rw [hw]
      clear hw
      go_wp2_with fail
      refine (hG2.out _ U1.out).mono ?_
      rintro e w2 ⟨rfl, hw⟩
      rw [hw]
      clear hw
      go_wp2_with fail
      refine (hR0.out _ V1.out H1.out).mono ?_
      rintro e w2 ⟨rfl, hb⟩
      have V2 := hid (V1.out.bel hb)
      have U2 := hid (U1.out.bel hb)
      have P2 := hid (P1.out.bel hb)
      have Q2 := hid (Q1.out.bel hb)
      have H2 := hid (H1.out.bel hb (Nat.lt_of_lt_of_le hlow.out W1.out.size))
      have W2 := hid (W1.out.trans (hb.mono W1.out.size))
      clear V1 U1 P1 Q1 H1 W1
      clear hb
      have e2 := hid (heap_alloc_new w2 (.cells z32 29))
      go_wp2_with (first
        | (with_reducible refine wpList_alloc_row rfl 29 rfl z32 info32 ?_)
        | ((with_reducible refine wpList_store_row rfl 29 (.tmp 7) (.tmp 61) rfl _ _ rfl rfl 29 z32 ?_ ?_ ?_ ?_ ?_); exact e2.out; exact sizeDgR x0; exact zDgR x0; exact oneDgR x0; intro w3 hgS hbS hsS; have X3 := hid (xnewP rfl hbS); have A3 := hid (rangeOf (l := x0.1.map bv) hgS); clear hgS hbS hsS; have V3 := hid (V2.out.bel X3.out); have U3 := hid (U2.out.bel X3.out); have P3 := hid (P2.out.bel X3.out); have Q3 := hid (Q2.out.bel X3.out); have H3 := hid (H2.out.bel X3.out (Nat.lt_of_lt_of_le hlow.out W2.out.size)); have W3 := hid (W2.out.trans (X3.out.mono W2.out.size)); clear V2 U2 P2 Q2 H2 W2))
      refine (hR1.out _ U3.out H3.out).mono ?_
      rintro e w4 ⟨rfl, hb⟩
      have V4 := hid (V3.out.bel hb)
      have U4 := hid (U3.out.bel hb)
      have P4 := hid (P3.out.bel hb)
      have Q4 := hid (Q3.out.bel hb)
      have H4 := hid (H3.out.bel hb (Nat.lt_of_lt_of_le hlow.out W3.out.size))
      have W4 := hid (W3.out.trans (hb.mono W3.out.size))
      have A4 := hid (rangeBel2 hb A3.out)
      clear V3 U3 P3 Q3 H3 W3 A3
      clear hb
      have e4 := hid (heap_alloc_new w4 (.cells z32 29))
      go_wp2_with (first
        | (with_reducible refine wpList_alloc_row rfl 29 rfl z32 info32 ?_)
        | ((with_reducible refine wpList_store_row rfl 29 (.tmp 9) (.tmp 66) rfl _ _ rfl rfl 29 z32 ?_ ?_ ?_ ?_ ?_); exact e4.out; exact sizeDgR x1; exact zDgR x1; exact oneDgR x1; intro w5 hgS hbS hsS; have X5 := hid (xnewP rfl hbS); have B5 := hid (rangeOf (l := x1.1.map bv) hgS); clear hgS hbS hsS; have V5 := hid (V4.out.bel X5.out); have U5 := hid (U4.out.bel X5.out); have P5 := hid (P4.out.bel X5.out); have Q5 := hid (Q4.out.bel X5.out); have H5 := hid (H4.out.bel X5.out (Nat.lt_of_lt_of_le hlow.out W4.out.size)); have W5 := hid (W4.out.trans (X5.out.mono W4.out.size)); have A5 := hid (rangeBel2 X5.out A4.out); clear V4 U4 P4 Q4 H4 W4 A4)
        | (refine wpList_build0 slotSlX rfl rfl ?_)
        | (at_builtin; refine wpList_appR slotSlX rfl (.tmp 69) (.tmp 70) rfl (fun b => b < w.heap.size) w5.heap.size (some ⟨w5.heap.size, 0, none⟩) a0 0 ls0.length 0 cap0 [] ls0 rfl rfl rfl rfl (rowO_build0 w5 _ (Nat.le_refl _) (by have := W5.out.size; omega)) (P5.out.alloc _).src (fun b hb => by have := W5.out.size; rw [World.size_alloc]; omega) (by have := hlen2.out; simp; omega) (by simp) ?_; intro ad6 ca6 w6 ho6 hb6; have X6 := hid ((ext_alloc w5 (.cells #[] 33)).trans hb6); have O6 := hid ho6; have Q6 := hid (Q5.out.bel X6.out); clear ho6 hb6)
        | (at_builtin; refine wpList_appR slotSlX rfl (.tmp 71) (.tmp 72) rfl (fun b => b < w.heap.size) w5.heap.size ad6 a1 ls0.length ls1.length ca6 cap1 ls0 ls1 rfl rfl rfl rfl O6.out Q6.out.src (fun b hb => by have := W5.out.size; have := X6.out.size; omega) (by have := hlen2.out; omega) X6.out.size ?_; intro ad7 ca7 w7 ho7 hb7; have X7 := hid (X6.out.trans hb7); have D7 := hid ho7.row.rds; have d7 := ho7.cap; rw [List.length_append] at d7; replace d7 := hid d7; clear ho7 hb7; have V7 := hid (V5.out.bel X7.out); have U7 := hid (U5.out.bel X7.out); have P7 := hid (P5.out.bel X7.out); have Q7 := hid (Q5.out.bel X7.out); have H7 := hid (H5.out.bel X7.out (Nat.lt_of_lt_of_le hlow.out W5.out.size)); have W7 := hid (W5.out.trans (X7.out.mono W5.out.size)); have A7 := hid (rangeBel2 X7.out A5.out); have B7 := hid (rangeBel2 X7.out B5.out); clear V5 U5 P5 Q5 H5 W5 A5 B5))
      refine (hRb.out ad7 ca7 _ D7.out d7.out.1 d7.out.2 H7.out).mono ?_
      rintro e w8 ⟨rfl, hb⟩
      have V8 := hid (V7.out.bel hb)
      have U8 := hid (U7.out.bel hb)
      have P8 := hid (P7.out.bel hb)
      have Q8 := hid (Q7.out.bel hb)
      have H8 := hid (H7.out.bel hb (Nat.lt_of_lt_of_le hlow.out W7.out.size))
      have W8 := hid (W7.out.trans (hb.mono W7.out.size))
      have A8 := hid (rangeBel2 hb A7.out)
      have B8 := hid (rangeBel2 hb B7.out)
      clear V7 U7 P7 Q7 H7 W7 A7 B7
      clear hb D7
      have e8 := hid (heap_alloc_new w8 (.cells z32 29))
      go_wp2_with (first
        | (with_reducible refine wpList_alloc_row rfl 29 rfl z32 info32 ?_)
        | ((with_reducible refine wpList_store_row rfl 29 (.tmp 11) (.tmp 75) rfl _ _ rfl rfl 29 z32 ?_ ?_ ?_ ?_ ?_); exact e8.out; exact sizeDgR xb; exact zDgR xb; exact oneDgR xb; intro w9 hgS hbS hsS; have X9 := hid (xnewP rfl hbS); have C9 := hid (rangeOf (l := xb.1.map bv) hgS); clear hgS hbS hsS; have V9 := hid (V8.out.bel X9.out); have U9 := hid (U8.out.bel X9.out); have P9 := hid (P8.out.bel X9.out); have Q9 := hid (Q8.out.bel X9.out); have H9 := hid (H8.out.bel X9.out (Nat.lt_of_lt_of_le hlow.out W8.out.size)); have W9 := hid (W8.out.trans (X9.out.mono W8.out.size)); have A9 := hid (rangeBel2 X9.out A8.out); have B9 := hid (rangeBel2 X9.out B8.out); clear V8 U8 P8 Q8 H8 W8 A8 B8))
      go_ret
      exact ⟨rfl, W9.out⟩
  cases q
  case true => exact absurd ⟨rfl, rfl⟩ hpq
  simp only [Bool.false_eq_true, if_false, if_true] at hR0 hR1
  replace hR0 := hid hR0
  replace hR1 := hid hR1
  replace hRb := hid hRb
  clear hpf hpq
  rcases hn with hK | hK | hK | hK | hK
  · skip
    have n1 : ((ls0.length : Int) != 1) = false := by rw [hK]; rfl
    replace hK := hid hK
    go_enter Tryd.func7, Tryd.ntmps7
    go_wp2_with fail
    refine (hAl.out _ H0.out).mono ?_
    rintro e w1 ⟨rfl, hb⟩
    have V1 := hid (V0.out.bel hb)
    have U1 := hid (U0.out.bel hb)
    have P1 := hid (P0.out.bel hb)
    have Q1 := hid (Q0.out.bel hb)
    have H1 := hid (H0.out.bel hb hlow.out)
    have W1 := hid (W0.out.trans (hb.mono W0.out.size))
    clear hb
    go_wp2_with fail
    refine (hG.out _ V1.out).mono ?_
    rintro e w2 ⟨rfl, hw⟩
    rw [hw]
    clear hw
    go_wp2_with fail
    refine (hG2.out _ U1.out).mono ?_
    rintro e w2 ⟨rfl, hw⟩
    rw [hw]
    clear hw
    go_wp2_with fail
    refine (hR0.out _ V1.out H1.out).mono ?_
    rintro e w2 ⟨rfl, hb⟩
    have V2 := hid (V1.out.bel hb)
    have U2 := hid (U1.out.bel hb)
    have P2 := hid (P1.out.bel hb)
    have Q2 := hid (Q1.out.bel hb)
    have H2 := hid (H1.out.bel hb (Nat.lt_of_lt_of_le hlow.out W1.out.size))
    have W2 := hid (W1.out.trans (hb.mono W1.out.size))
    clear V1 U1 P1 Q1 H1 W1
    clear hb
    have e2 := hid (heap_alloc_new w2 (.cells z32 29))
    go_wp2_with (first
      | (with_reducible refine wpList_alloc_row rfl 29 rfl z32 info32 ?_)
      | ((with_reducible refine wpList_store_row rfl 29 (.tmp 7) (.tmp 61) rfl _ _ rfl rfl 29 z32 ?_ ?_ ?_ ?_ ?_); exact e2.out; exact sizeDgR x0; exact zDgR x0; exact oneDgR x0; intro w3 hgS hbS hsS; have X3 := hid (xnewP rfl hbS); have A3 := hid (rangeOf (l := x0.1.map bv) hgS); clear hgS hbS hsS; have V3 := hid (V2.out.bel X3.out); have U3 := hid (U2.out.bel X3.out); have P3 := hid (P2.out.bel X3.out); have Q3 := hid (Q2.out.bel X3.out); have H3 := hid (H2.out.bel X3.out (Nat.lt_of_lt_of_le hlow.out W2.out.size)); have W3 := hid (W2.out.trans (X3.out.mono W2.out.size)); clear V2 U2 P2 Q2 H2 W2))
    refine (hR1.out _ U3.out H3.out).mono ?_
    rintro e w4 ⟨rfl, hb⟩
    have V4 := hid (V3.out.bel hb)
    have U4 := hid (U3.out.bel hb)
    have P4 := hid (P3.out.bel hb)
    have Q4 := hid (Q3.out.bel hb)
    have H4 := hid (H3.out.bel hb (Nat.lt_of_lt_of_le hlow.out W3.out.size))
    have W4 := hid (W3.out.trans (hb.mono W3.out.size))
    have A4 := hid (rangeBel2 hb A3.out)
    clear V3 U3 P3 Q3 H3 W3 A3
    clear hb
    have e4 := hid (heap_alloc_new w4 (.cells z32 29))
    go_wp2_with (first
      | (with_reducible refine wpList_alloc_row rfl 29 rfl z32 info32 ?_)
      | ((with_reducible refine wpList_store_row rfl 29 (.tmp 9) (.tmp 66) rfl _ _ rfl rfl 29 z32 ?_ ?_ ?_ ?_ ?_); exact e4.out; exact sizeDgR x1; exact zDgR x1; exact oneDgR x1; intro w5 hgS hbS hsS; have X5 := hid (xnewP rfl hbS); have B5 := hid (rangeOf (l := x1.1.map bv) hgS); clear hgS hbS hsS; have V5 := hid (V4.out.bel X5.out); have U5 := hid (U4.out.bel X5.out); have P5 := hid (P4.out.bel X5.out); have Q5 := hid (Q4.out.bel X5.out); have H5 := hid (H4.out.bel X5.out (Nat.lt_of_lt_of_le hlow.out W4.out.size)); have W5 := hid (W4.out.trans (X5.out.mono W4.out.size)); have A5 := hid (rangeBel2 X5.out A4.out); clear V4 U4 P4 Q4 H4 W4 A4)
      | (refine wpList_build0 slotSlX rfl rfl ?_)
      | (at_builtin; refine wpList_appR slotSlX rfl (.tmp 69) (.tmp 70) rfl (fun b => b < w.heap.size) w5.heap.size (some ⟨w5.heap.size, 0, none⟩) a0 0 ls0.length 0 cap0 [] ls0 rfl rfl rfl rfl (rowO_build0 w5 _ (Nat.le_refl _) (by have := W5.out.size; omega)) (P5.out.alloc _).src (fun b hb => by have := W5.out.size; rw [World.size_alloc]; omega) (by have := hlen2.out; simp; omega) (by simp) ?_; intro ad6 ca6 w6 ho6 hb6; have X6 := hid ((ext_alloc w5 (.cells #[] 33)).trans hb6); have O6 := hid ho6; have Q6 := hid (Q5.out.bel X6.out); clear ho6 hb6)
      | (at_builtin; refine wpList_appR slotSlX rfl (.tmp 71) (.tmp 72) rfl (fun b => b < w.heap.size) w5.heap.size ad6 a1 ls0.length ls1.length ca6 cap1 ls0 ls1 rfl rfl rfl rfl O6.out Q6.out.src (fun b hb => by have := W5.out.size; have := X6.out.size; omega) (by have := hlen2.out; omega) X6.out.size ?_; intro ad7 ca7 w7 ho7 hb7; have X7 := hid (X6.out.trans hb7); have D7 := hid ho7.row.rds; have d7 := ho7.cap; rw [List.length_append] at d7; replace d7 := hid d7; clear ho7 hb7; have V7 := hid (V5.out.bel X7.out); have U7 := hid (U5.out.bel X7.out); have P7 := hid (P5.out.bel X7.out); have Q7 := hid (Q5.out.bel X7.out); have H7 := hid (H5.out.bel X7.out (Nat.lt_of_lt_of_le hlow.out W5.out.size)); have W7 := hid (W5.out.trans (X7.out.mono W5.out.size)); have A7 := hid (rangeBel2 X7.out A5.out); have B7 := hid (rangeBel2 X7.out B5.out); clear V5 U5 P5 Q5 H5 W5 A5 B5))
    refine (hRb.out ad7 ca7 _ D7.out d7.out.1 d7.out.2 H7.out).mono ?_
    rintro e w8 ⟨rfl, hb⟩
    have V8 := hid (V7.out.bel hb)
    have U8 := hid (U7.out.bel hb)
    have P8 := hid (P7.out.bel hb)
    have Q8 := hid (Q7.out.bel hb)
    have H8 := hid (H7.out.bel hb (Nat.lt_of_lt_of_le hlow.out W7.out.size))
    have W8 := hid (W7.out.trans (hb.mono W7.out.size))
    have A8 := hid (rangeBel2 hb A7.out)
    have B8 := hid (rangeBel2 hb B7.out)
    clear V7 U7 P7 Q7 H7 W7 A7 B7
    clear hb D7
    have e8 := hid (heap_alloc_new w8 (.cells z32 29))
    go_wp2_with (first
      | (with_reducible refine wpList_alloc_row rfl 29 rfl z32 info32 ?_)
      | ((with_reducible refine wpList_store_row rfl 29 (.tmp 11) (.tmp 75) rfl _ _ rfl rfl 29 z32 ?_ ?_ ?_ ?_ ?_); exact e8.out; exact sizeDgR xb; exact zDgR xb; exact oneDgR xb; intro w9 hgS hbS hsS; have X9 := hid (xnewP rfl hbS); have C9 := hid (rangeOf (l := xb.1.map bv) hgS); clear hgS hbS hsS; have V9 := hid (V8.out.bel X9.out); have U9 := hid (U8.out.bel X9.out); have P9 := hid (P8.out.bel X9.out); have Q9 := hid (Q8.out.bel X9.out); have H9 := hid (H8.out.bel X9.out (Nat.lt_of_lt_of_le hlow.out W8.out.size)); have W9 := hid (W8.out.trans (X9.out.mono W8.out.size)); have A9 := hid (rangeBel2 X9.out A8.out); have B9 := hid (rangeBel2 X9.out B8.out); clear V8 U8 P8 Q8 H8 W8 A8 B8))
    go_ret
    exact ⟨rfl, W9.out⟩
  · skip
    have n1 : ((ls0.length : Int) != 1) = true := by rw [bne_iff_ne]; omega
    have k1 : ¬ (ls0.length : Int) = 1 := by omega
    have n2 : ((ls0.length : Int) != 2) = false := by rw [hK]; rfl
    replace hK := hid hK
    go_enter Tryd.func7, Tryd.ntmps7
    go_wp2_with fail
    refine (hAl.out _ H0.out).mono ?_
    rintro e w1 ⟨rfl, hb⟩
    have V1 := hid (V0.out.bel hb)
    have U1 := hid (U0.out.bel hb)
    have P1 := hid (P0.out.bel hb)
    have Q1 := hid (Q0.out.bel hb)
    have H1 := hid (H0.out.bel hb hlow.out)
    have W1 := hid (W0.out.trans (hb.mono W0.out.size))
    clear hb
    go_wp2_with fail
    refine (hG.out _ V1.out).mono ?_
    rintro e w2 ⟨rfl, hw⟩
    rw [hw]
    clear hw
    go_wp2_with fail
    refine (hG2.out _ U1.out).mono ?_
    rintro e w2 ⟨rfl, hw⟩
    rw [hw]
    clear hw
    go_wp2_with fail
    refine (hR0.out _ V1.out H1.out).mono ?_
    rintro e w2 ⟨rfl, hb⟩
    have V2 := hid (V1.out.bel hb)
    have U2 := hid (U1.out.bel hb)
    have P2 := hid (P1.out.bel hb)
    have Q2 := hid (Q1.out.bel hb)
    have H2 := hid (H1.out.bel hb (Nat.lt_of_lt_of_le hlow.out W1.out.size))
    have W2 := hid (W1.out.trans (hb.mono W1.out.size))
    clear V1 U1 P1 Q1 H1 W1
    clear hb
    have e2 := hid (heap_alloc_new w2 (.cells z32 29))
    go_wp2_with (first
      | (with_reducible refine wpList_alloc_row rfl 29 rfl z32 info32 ?_)
      | ((with_reducible refine wpList_store_row rfl 29 (.tmp 7) (.tmp 61) rfl _ _ rfl rfl 29 z32 ?_ ?_ ?_ ?_ ?_); exact e2.out; exact sizeDgR x0; exact zDgR x0; exact oneDgR x0; intro w3 hgS hbS hsS; have X3 := hid (xnewP rfl hbS); have A3 := hid (rangeOf (l := x0.1.map bv) hgS); clear hgS hbS hsS; have V3 := hid (V2.out.bel X3.out); have U3 := hid (U2.out.bel X3.out); have P3 := hid (P2.out.bel X3.out); have Q3 := hid (Q2.out.bel X3.out); have H3 := hid (H2.out.bel X3.out (Nat.lt_of_lt_of_le hlow.out W2.out.size)); have W3 := hid (W2.out.trans (X3.out.mono W2.out.size)); clear V2 U2 P2 Q2 H2 W2))
    refine (hR1.out _ U3.out H3.out).mono ?_
    rintro e w4 ⟨rfl, hb⟩
    have V4 := hid (V3.out.bel hb)
    have U4 := hid (U3.out.bel hb)
    have P4 := hid (P3.out.bel hb)
    have Q4 := hid (Q3.out.bel hb)
    have H4 := hid (H3.out.bel hb (Nat.lt_of_lt_of_le hlow.out W3.out.size))
    have W4 := hid (W3.out.trans (hb.mono W3.out.size))
    have A4 := hid (rangeBel2 hb A3.out)
    clear V3 U3 P3 Q3 H3 W3 A3
    clear hb
    have e4 := hid (heap_alloc_new w4 (.cells z32 29))
    go_wp2_with (first
      | (with_reducible refine wpList_alloc_row rfl 29 rfl z32 info32 ?_)
      | ((with_reducible refine wpList_store_row rfl 29 (.tmp 9) (.tmp 66) rfl _ _ rfl rfl 29 z32 ?_ ?_ ?_ ?_ ?_); exact e4.out; exact sizeDgR x1; exact zDgR x1; exact oneDgR x1; intro w5 hgS hbS hsS; have X5 := hid (xnewP rfl hbS); have B5 := hid (rangeOf (l := x1.1.map bv) hgS); clear hgS hbS hsS; have V5 := hid (V4.out.bel X5.out); have U5 := hid (U4.out.bel X5.out); have P5 := hid (P4.out.bel X5.out); have Q5 := hid (Q4.out.bel X5.out); have H5 := hid (H4.out.bel X5.out (Nat.lt_of_lt_of_le hlow.out W4.out.size)); have W5 := hid (W4.out.trans (X5.out.mono W4.out.size)); have A5 := hid (rangeBel2 X5.out A4.out); clear V4 U4 P4 Q4 H4 W4 A4)
      | (refine wpList_build0 slotSlX rfl rfl ?_)
      | (at_builtin; refine wpList_appR slotSlX rfl (.tmp 69) (.tmp 70) rfl (fun b => b < w.heap.size) w5.heap.size (some ⟨w5.heap.size, 0, none⟩) a0 0 ls0.length 0 cap0 [] ls0 rfl rfl rfl rfl (rowO_build0 w5 _ (Nat.le_refl _) (by have := W5.out.size; omega)) (P5.out.alloc _).src (fun b hb => by have := W5.out.size; rw [World.size_alloc]; omega) (by have := hlen2.out; simp; omega) (by simp) ?_; intro ad6 ca6 w6 ho6 hb6; have X6 := hid ((ext_alloc w5 (.cells #[] 33)).trans hb6); have O6 := hid ho6; have Q6 := hid (Q5.out.bel X6.out); clear ho6 hb6)
      | (at_builtin; refine wpList_appR slotSlX rfl (.tmp 71) (.tmp 72) rfl (fun b => b < w.heap.size) w5.heap.size ad6 a1 ls0.length ls1.length ca6 cap1 ls0 ls1 rfl rfl rfl rfl O6.out Q6.out.src (fun b hb => by have := W5.out.size; have := X6.out.size; omega) (by have := hlen2.out; omega) X6.out.size ?_; intro ad7 ca7 w7 ho7 hb7; have X7 := hid (X6.out.trans hb7); have D7 := hid ho7.row.rds; have d7 := ho7.cap; rw [List.length_append] at d7; replace d7 := hid d7; clear ho7 hb7; have V7 := hid (V5.out.bel X7.out); have U7 := hid (U5.out.bel X7.out); have P7 := hid (P5.out.bel X7.out); have Q7 := hid (Q5.out.bel X7.out); have H7 := hid (H5.out.bel X7.out (Nat.lt_of_lt_of_le hlow.out W5.out.size)); have W7 := hid (W5.out.trans (X7.out.mono W5.out.size)); have A7 := hid (rangeBel2 X7.out A5.out); have B7 := hid (rangeBel2 X7.out B5.out); clear V5 U5 P5 Q5 H5 W5 A5 B5))
    refine (hRb.out ad7 ca7 _ D7.out d7.out.1 d7.out.2 H7.out).mono ?_
    rintro e w8 ⟨rfl, hb⟩
    have V8 := hid (V7.out.bel hb)
    have U8 := hid (U7.out.bel hb)
    have P8 := hid (P7.out.bel hb)
    have Q8 := hid (Q7.out.bel hb)
    have H8 := hid (H7.out.bel hb (Nat.lt_of_lt_of_le hlow.out W7.out.size))
    have W8 := hid (W7.out.trans (hb.mono W7.out.size))
    have A8 := hid (rangeBel2 hb A7.out)
    have B8 := hid (rangeBel2 hb B7.out)
    clear V7 U7 P7 Q7 H7 W7 A7 B7
    clear hb D7
    have e8 := hid (heap_alloc_new w8 (.cells z32 29))
    go_wp2_with (first
      | (with_reducible refine wpList_alloc_row rfl 29 rfl z32 info32 ?_)
      | ((with_reducible refine wpList_store_row rfl 29 (.tmp 11) (.tmp 75) rfl _ _ rfl rfl 29 z32 ?_ ?_ ?_ ?_ ?_); exact e8.out; exact sizeDgR xb; exact zDgR xb; exact oneDgR xb; intro w9 hgS hbS hsS; have X9 := hid (xnewP rfl hbS); have C9 := hid (rangeOf (l := xb.1.map bv) hgS); clear hgS hbS hsS; have V9 := hid (V8.out.bel X9.out); have U9 := hid (U8.out.bel X9.out); have P9 := hid (P8.out.bel X9.out); have Q9 := hid (Q8.out.bel X9.out); have H9 := hid (H8.out.bel X9.out (Nat.lt_of_lt_of_le hlow.out W8.out.size)); have W9 := hid (W8.out.trans (X9.out.mono W8.out.size)); have A9 := hid (rangeBel2 X9.out A8.out); have B9 := hid (rangeBel2 X9.out B8.out); clear V8 U8 P8 Q8 H8 W8 A8 B8))
    go_ret
    exact ⟨rfl, W9.out⟩
  · skip
    have n1 : ((ls0.length : Int) != 1) = true := by rw [bne_iff_ne]; omega
    have k1 : ¬ (ls0.length : Int) = 1 := by omega
    have n2 : ((ls0.length : Int) != 2) = true := by rw [bne_iff_ne]; omega
    have k2 : ¬ (ls0.length : Int) = 2 := by omega
    have n4 : ((ls0.length : Int) != 4) = false := by rw [hK]; rfl
    replace hK := hid hK
    go_enter Tryd.func7, Tryd.ntmps7
    go_wp2_with fail
    refine (hAl.out _ H0.out).mono ?_
    rintro e w1 ⟨rfl, hb⟩
    have V1 := hid (V0.out.bel hb)
    have U1 := hid (U0.out.bel hb)
    have P1 := hid (P0.out.bel hb)
    have Q1 := hid (Q0.out.bel hb)
    have H1 := hid (H0.out.bel hb hlow.out)
    have W1 := hid (W0.out.trans (hb.mono W0.out.size))
    clear hb
    go_wp2_with fail
    refine (hG.out _ V1.out).mono ?_
    rintro e w2 ⟨rfl, hw⟩
    rw [hw]
    clear hw
    go_wp2_with fail
    refine (hG2.out _ U1.out).mono ?_
    rintro e w2 ⟨rfl, hw⟩
    rw [hw]
    clear hw
    go_wp2_with fail
    refine (hR0.out _ V1.out H1.out).mono ?_
    rintro e w2 ⟨rfl, hb⟩
    have V2 := hid (V1.out.bel hb)
    have U2 := hid (U1.out.bel hb)
    have P2 := hid (P1.out.bel hb)
    have Q2 := hid (Q1.out.bel hb)
    have H2 := hid (H1.out.bel hb (Nat.lt_of_lt_of_le hlow.out W1.out.size))
    have W2 := hid (W1.out.trans (hb.mono W1.out.size))
    clear V1 U1 P1 Q1 H1 W1
    clear hb
    have e2 := hid (heap_alloc_new w2 (.cells z32 29))
    go_wp2_with (first
      | (with_reducible refine wpList_alloc_row rfl 29 rfl z32 info32 ?_)
      | ((with_reducible refine wpList_store_row rfl 29 (.tmp 7) (.tmp 61) rfl _ _ rfl rfl 29 z32 ?_ ?_ ?_ ?_ ?_); exact e2.out; exact sizeDgR x0; exact zDgR x0; exact oneDgR x0; intro w3 hgS hbS hsS; have X3 := hid (xnewP rfl hbS); have A3 := hid (rangeOf (l := x0.1.map bv) hgS); clear hgS hbS hsS; have V3 := hid (V2.out.bel X3.out); have U3 := hid (U2.out.bel X3.out); have P3 := hid (P2.out.bel X3.out); have Q3 := hid (Q2.out.bel X3.out); have H3 := hid (H2.out.bel X3.out (Nat.lt_of_lt_of_le hlow.out W2.out.size)); have W3 := hid (W2.out.trans (X3.out.mono W2.out.size)); clear V2 U2 P2 Q2 H2 W2))
    refine (hR1.out _ U3.out H3.out).mono ?_
    rintro e w4 ⟨rfl, hb⟩
    have V4 := hid (V3.out.bel hb)
    have U4 := hid (U3.out.bel hb)
    have P4 := hid (P3.out.bel hb)
    have Q4 := hid (Q3.out.bel hb)
    have H4 := hid (H3.out.bel hb (Nat.lt_of_lt_of_le hlow.out W3.out.size))
    have W4 := hid (W3.out.trans (hb.mono W3.out.size))
    have A4 := hid (rangeBel2 hb A3.out)
    clear V3 U3 P3 Q3 H3 W3 A3
    clear hb
    have e4 := hid (heap_alloc_new w4 (.cells z32 29))
    go_wp2_with (first
      | (with_reducible refine wpList_alloc_row rfl 29 rfl z32 info32 ?_)
      | ((with_reducible refine wpList_store_row rfl 29 (.tmp 9) (.tmp 66) rfl _ _ rfl rfl 29 z32 ?_ ?_ ?_ ?_ ?_); exact e4.out; exact sizeDgR x1; exact zDgR x1; exact oneDgR x1; intro w5 hgS hbS hsS; have X5 := hid (xnewP rfl hbS); have B5 := hid (rangeOf (l := x1.1.map bv) hgS); clear hgS hbS hsS; have V5 := hid (V4.out.bel X5.out); have U5 := hid (U4.out.bel X5.out); have P5 := hid (P4.out.bel X5.out); have Q5 := hid (Q4.out.bel X5.out); have H5 := hid (H4.out.bel X5.out (Nat.lt_of_lt_of_le hlow.out W4.out.size)); have W5 := hid (W4.out.trans (X5.out.mono W4.out.size)); have A5 := hid (rangeBel2 X5.out A4.out); clear V4 U4 P4 Q4 H4 W4 A4)
      | (refine wpList_build0 slotSlX rfl rfl ?_)
      | (at_builtin; refine wpList_appR slotSlX rfl (.tmp 69) (.tmp 70) rfl (fun b => b < w.heap.size) w5.heap.size (some ⟨w5.heap.size, 0, none⟩) a0 0 ls0.length 0 cap0 [] ls0 rfl rfl rfl rfl (rowO_build0 w5 _ (Nat.le_refl _) (by have := W5.out.size; omega)) (P5.out.alloc _).src (fun b hb => by have := W5.out.size; rw [World.size_alloc]; omega) (by have := hlen2.out; simp; omega) (by simp) ?_; intro ad6 ca6 w6 ho6 hb6; have X6 := hid ((ext_alloc w5 (.cells #[] 33)).trans hb6); have O6 := hid ho6; have Q6 := hid (Q5.out.bel X6.out); clear ho6 hb6)
      | (at_builtin; refine wpList_appR slotSlX rfl (.tmp 71) (.tmp 72) rfl (fun b => b < w.heap.size) w5.heap.size ad6 a1 ls0.length ls1.length ca6 cap1 ls0 ls1 rfl rfl rfl rfl O6.out Q6.out.src (fun b hb => by have := W5.out.size; have := X6.out.size; omega) (by have := hlen2.out; omega) X6.out.size ?_; intro ad7 ca7 w7 ho7 hb7; have X7 := hid (X6.out.trans hb7); have D7 := hid ho7.row.rds; have d7 := ho7.cap; rw [List.length_append] at d7; replace d7 := hid d7; clear ho7 hb7; have V7 := hid (V5.out.bel X7.out); have U7 := hid (U5.out.bel X7.out); have P7 := hid (P5.out.bel X7.out); have Q7 := hid (Q5.out.bel X7.out); have H7 := hid (H5.out.bel X7.out (Nat.lt_of_lt_of_le hlow.out W5.out.size)); have W7 := hid (W5.out.trans (X7.out.mono W5.out.size)); have A7 := hid (rangeBel2 X7.out A5.out); have B7 := hid (rangeBel2 X7.out B5.out); clear V5 U5 P5 Q5 H5 W5 A5 B5))
    refine (hRb.out ad7 ca7 _ D7.out d7.out.1 d7.out.2 H7.out).mono ?_
    rintro e w8 ⟨rfl, hb⟩
    have V8 := hid (V7.out.bel hb)
    have U8 := hid (U7.out.bel hb)
    have P8 := hid (P7.out.bel hb)
    have Q8 := hid (Q7.out.bel hb)
    have H8 := hid (H7.out.bel hb (Nat.lt_of_lt_of_le hlow.out W7.out.size))
    have W8 := hid (W7.out.trans (hb.mono W7.out.size))
    have A8 := hid (rangeBel2 hb A7.out)
    have B8 := hid (rangeBel2 hb B7.out)
    clear V7 U7 P7 Q7 H7 W7 A7 B7
    clear hb D7
    have e8 := hid (heap_alloc_new w8 (.cells z32 29))
    go_wp2_with (first
      | (with_reducible refine wpList_alloc_row rfl 29 rfl z32 info32 ?_)
      | ((with_reducible refine wpList_store_row rfl 29 (.tmp 11) (.tmp 75) rfl _ _ rfl rfl 29 z32 ?_ ?_ ?_ ?_ ?_); exact e8.out; exact sizeDgR xb; exact zDgR xb; exact oneDgR xb; intro w9 hgS hbS hsS; have X9 := hid (xnewP rfl hbS); have C9 := hid (rangeOf (l := xb.1.map bv) hgS); clear hgS hbS hsS; have V9 := hid (V8.out.bel X9.out); have U9 := hid (U8.out.bel X9.out); have P9 := hid (P8.out.bel X9.out); have Q9 := hid (Q8.out.bel X9.out); have H9 := hid (H8.out.bel X9.out (Nat.lt_of_lt_of_le hlow.out W8.out.size)); have W9 := hid (W8.out.trans (X9.out.mono W8.out.size)); have A9 := hid (rangeBel2 X9.out A8.out); have B9 := hid (rangeBel2 X9.out B8.out); clear V8 U8 P8 Q8 H8 W8 A8 B8))
    go_ret
    exact ⟨rfl, W9.out⟩
  · skip
    have n1 : ((ls0.length : Int) != 1) = true := by rw [bne_iff_ne]; omega
    have k1 : ¬ (ls0.length : Int) = 1 := by omega
    have n2 : ((ls0.length : Int) != 2) = true := by rw [bne_iff_ne]; omega
    have k2 : ¬ (ls0.length : Int) = 2 := by omega
    have n4 : ((ls0.length : Int) != 4) = true := by rw [bne_iff_ne]; omega
    have k4 : ¬ (ls0.length : Int) = 4 := by omega
    have n8 : ((ls0.length : Int) != 8) = false := by rw [hK]; rfl
    replace hK := hid hK
    go_enter Tryd.func7, Tryd.ntmps7
    go_wp2_with fail
    refine (hAl.out _ H0.out).mono ?_
    rintro e w1 ⟨rfl, hb⟩
    have V1 := hid (V0.out.bel hb)
    have U1 := hid (U0.out.bel hb)
    have P1 := hid (P0.out.bel hb)
    have Q1 := hid (Q0.out.bel hb)
    have H1 := hid (H0.out.bel hb hlow.out)
    have W1 := hid (W0.out.trans (hb.mono W0.out.size))
    clear hb
    go_wp2_with fail
    refine (hG.out _ V1.out).mono ?_
    rintro e w2 ⟨rfl, hw⟩
    rw [hw]
    clear hw
    go_wp2_with fail
    refine (hG2.out _ U1.out).mono ?_
    rintro e w2 ⟨rfl, hw⟩
    rw [hw]
    clear hw
    go_wp2_with fail
    refine (hR0.out _ V1.out H1.out).mono ?_
    rintro e w2 ⟨rfl, hb⟩
    have V2 := hid (V1.out.bel hb)
    have U2 := hid (U1.out.bel hb)
    have P2 := hid (P1.out.bel hb)
    have Q2 := hid (Q1.out.bel hb)
    have H2 := hid (H1.out.bel hb (Nat.lt_of_lt_of_le hlow.out W1.out.size))
    have W2 := hid (W1.out.trans (hb.mono W1.out.size))
    clear V1 U1 P1 Q1 H1 W1
    clear hb
    have e2 := hid (heap_alloc_new w2 (.cells z32 29))
    go_wp2_with (first
      | (with_reducible refine wpList_alloc_row rfl 29 rfl z32 info32 ?_)
      | ((with_reducible refine wpList_store_row rfl 29 (.tmp 7) (.tmp 61) rfl _ _ rfl rfl 29 z32 ?_ ?_ ?_ ?_ ?_); exact e2.out; exact sizeDgR x0; exact zDgR x0; exact oneDgR x0; intro w3 hgS hbS hsS; have X3 := hid (xnewP rfl hbS); have A3 := hid (rangeOf (l := x0.1.map bv) hgS); clear hgS hbS hsS; have V3 := hid (V2.out.bel X3.out); have U3 := hid (U2.out.bel X3.out); have P3 := hid (P2.out.bel X3.out); have Q3 := hid (Q2.out.bel X3.out); have H3 := hid (H2.out.bel X3.out (Nat.lt_of_lt_of_le hlow.out W2.out.size)); have W3 := hid (W2.out.trans (X3.out.mono W2.out.size)); clear V2 U2 P2 Q2 H2 W2))
    refine (hR1.out _ U3.out H3.out).mono ?_
    rintro e w4 ⟨rfl, hb⟩
    have V4 := hid (V3.out.bel hb)
    have U4 := hid (U3.out.bel hb)
    have P4 := hid (P3.out.bel hb)
    have Q4 := hid (Q3.out.bel hb)
    have H4 := hid (H3.out.bel hb (Nat.lt_of_lt_of_le hlow.out W3.out.size))
    have W4 := hid (W3.out.trans (hb.mono W3.out.size))
    have A4 := hid (rangeBel2 hb A3.out)
    clear V3 U3 P3 Q3 H3 W3 A3
    clear hb
    have e4 := hid (heap_alloc_new w4 (.cells z32 29))
    go_wp2_with (first
      | (with_reducible refine wpList_alloc_row rfl 29 rfl z32 info32 ?_)
      | ((with_reducible refine wpList_store_row rfl 29 (.tmp 9) (.tmp 66) rfl _ _ rfl rfl 29 z32 ?_ ?_ ?_ ?_ ?_); exact e4.out; exact sizeDgR x1; exact zDgR x1; exact oneDgR x1; intro w5 hgS hbS hsS; have X5 := hid (xnewP rfl hbS); have B5 := hid (rangeOf (l := x1.1.map bv) hgS); clear hgS hbS hsS; have V5 := hid (V4.out.bel X5.out); have U5 := hid (U4.out.bel X5.out); have P5 := hid (P4.out.bel X5.out); have Q5 := hid (Q4.out.bel X5.out); have H5 := hid (H4.out.bel X5.out (Nat.lt_of_lt_of_le hlow.out W4.out.size)); have W5 := hid (W4.out.trans (X5.out.mono W4.out.size)); have A5 := hid (rangeBel2 X5.out A4.out); clear V4 U4 P4 Q4 H4 W4 A4)
      | (refine wpList_build0 slotSlX rfl rfl ?_)
      | (at_builtin; refine wpList_appR slotSlX rfl (.tmp 69) (.tmp 70) rfl (fun b => b < w.heap.size) w5.heap.size (some ⟨w5.heap.size, 0, none⟩) a0 0 ls0.length 0 cap0 [] ls0 rfl rfl rfl rfl (rowO_build0 w5 _ (Nat.le_refl _) (by have := W5.out.size; omega)) (P5.out.alloc _).src (fun b hb => by have := W5.out.size; rw [World.size_alloc]; omega) (by have := hlen2.out; simp; omega) (by simp) ?_; intro ad6 ca6 w6 ho6 hb6; have X6 := hid ((ext_alloc w5 (.cells #[] 33)).trans hb6); have O6 := hid ho6; have Q6 := hid (Q5.out.bel X6.out); clear ho6 hb6)
      | (at_builtin; refine wpList_appR slotSlX rfl (.tmp 71) (.tmp 72) rfl (fun b => b < w.heap.size) w5.heap.size ad6 a1 ls0.length ls1.length ca6 cap1 ls0 ls1 rfl rfl rfl rfl O6.out Q6.out.src (fun b hb => by have := W5.out.size; have := X6.out.size; omega) (by have := hlen2.out; omega) X6.out.size ?_; intro ad7 ca7 w7 ho7 hb7; have X7 := hid (X6.out.trans hb7); have D7 := hid ho7.row.rds; have d7 := ho7.cap; rw [List.length_append] at d7; replace d7 := hid d7; clear ho7 hb7; have V7 := hid (V5.out.bel X7.out); have U7 := hid (U5.out.bel X7.out); have P7 := hid (P5.out.bel X7.out); have Q7 := hid (Q5.out.bel X7.out); have H7 := hid (H5.out.bel X7.out (Nat.lt_of_lt_of_le hlow.out W5.out.size)); have W7 := hid (W5.out.trans (X7.out.mono W5.out.size)); have A7 := hid (rangeBel2 X7.out A5.out); have B7 := hid (rangeBel2 X7.out B5.out); clear V5 U5 P5 Q5 H5 W5 A5 B5))
    refine (hRb.out ad7 ca7 _ D7.out d7.out.1 d7.out.2 H7.out).mono ?_
    rintro e w8 ⟨rfl, hb⟩
    have V8 := hid (V7.out.bel hb)
    have U8 := hid (U7.out.bel hb)
    have P8 := hid (P7.out.bel hb)
    have Q8 := hid (Q7.out.bel hb)
    have H8 := hid (H7.out.bel hb (Nat.lt_of_lt_of_le hlow.out W7.out.size))
    have W8 := hid (W7.out.trans (hb.mono W7.out.size))
    have A8 := hid (rangeBel2 hb A7.out)
    have B8 := hid (rangeBel2 hb B7.out)
    clear V7 U7 P7 Q7 H7 W7 A7 B7
    clear hb D7
    have e8 := hid (heap_alloc_new w8 (.cells z32 29))
    go_wp2_with (first
      | (with_reducible refine wpList_alloc_row rfl 29 rfl z32 info32 ?_)
      | ((with_reducible refine wpList_store_row rfl 29 (.tmp 11) (.tmp 75) rfl _ _ rfl rfl 29 z32 ?_ ?_ ?_ ?_ ?_); exact e8.out; exact sizeDgR xb; exact zDgR xb; exact oneDgR xb; intro w9 hgS hbS hsS; have X9 := hid (xnewP rfl hbS); have C9 := hid (rangeOf (l := xb.1.map bv) hgS); clear hgS hbS hsS; have V9 := hid (V8.out.bel X9.out); have U9 := hid (U8.out.bel X9.out); have P9 := hid (P8.out.bel X9.out); have Q9 := hid (Q8.out.bel X9.out); have H9 := hid (H8.out.bel X9.out (Nat.lt_of_lt_of_le hlow.out W8.out.size)); have W9 := hid (W8.out.trans (X9.out.mono W8.out.size)); have A9 := hid (rangeBel2 X9.out A8.out); have B9 := hid (rangeBel2 X9.out B8.out); clear V8 U8 P8 Q8 H8 W8 A8 B8))
    go_ret
    exact ⟨rfl, W9.out⟩
  · skip
    have n1 : ((ls0.length : Int) != 1) = true := by rw [bne_iff_ne]; omega
    have k1 : ¬ (ls0.length : Int) = 1 := by omega
    have n2 : ((ls0.length : Int) != 2) = true := by rw [bne_iff_ne]; omega
    have k2 : ¬ (ls0.length : Int) = 2 := by omega
    have n4 : ((ls0.length : Int) != 4) = true := by rw [bne_iff_ne]; omega
    have k4 : ¬ (ls0.length : Int) = 4 := by omega
    have n8 : ((ls0.length : Int) != 8) = true := by rw [bne_iff_ne]; omega
    have k8 : ¬ (ls0.length : Int) = 8 := by omega
    have n16 : ((ls0.length : Int) != 16) = false := by rw [hK]; rfl
    replace hK := hid hK
    go_enter Tryd.func7, Tryd.ntmps7
    go_wp2_with fail
    refine (hAl.out _ H0.out).mono ?_
    rintro e w1 ⟨rfl, hb⟩
    have V1 := hid (V0.out.bel hb)
    have U1 := hid (U0.out.bel hb)
    have P1 := hid (P0.out.bel hb)
    have Q1 := hid (Q0.out.bel hb)
    have H1 := hid (H0.out.bel hb hlow.out)
    have W1 := hid (W0.out.trans (hb.mono W0.out.size))
    clear hb
    go_wp2_with fail
    refine (hG.out _ V1.out).mono ?_
    rintro e w2 ⟨rfl, hw⟩
    rw [hw]
    clear hw
    go_wp2_with fail
    refine (hG2.out _ U1.out).mono ?_
    rintro e w2 ⟨rfl, hw⟩
    rw [hw]
    clear hw
    go_wp2_with fail
    refine (hR0.out _ V1.out H1.out).mono ?_
    rintro e w2 ⟨rfl, hb⟩
    have V2 := hid (V1.out.bel hb)
    have U2 := hid (U1.out.bel hb)
    have P2 := hid (P1.out.bel hb)
    have Q2 := hid (Q1.out.bel hb)
    have H2 := hid (H1.out.bel hb (Nat.lt_of_lt_of_le hlow.out W1.out.size))
    have W2 := hid (W1.out.trans (hb.mono W1.out.size))
    clear V1 U1 P1 Q1 H1 W1
    clear hb
    have e2 := hid (heap_alloc_new w2 (.cells z32 29))
    go_wp2_with (first
      | (with_reducible refine wpList_alloc_row rfl 29 rfl z32 info32 ?_)
      | ((with_reducible refine wpList_store_row rfl 29 (.tmp 7) (.tmp 61) rfl _ _ rfl rfl 29 z32 ?_ ?_ ?_ ?_ ?_); exact e2.out; exact sizeDgR x0; exact zDgR x0; exact oneDgR x0; intro w3 hgS hbS hsS; have X3 := hid (xnewP rfl hbS); have A3 := hid (rangeOf (l := x0.1.map bv) hgS); clear hgS hbS hsS; have V3 := hid (V2.out.bel X3.out); have U3 := hid (U2.out.bel X3.out); have P3 := hid (P2.out.bel X3.out); have Q3 := hid (Q2.out.bel X3.out); have H3 := hid (H2.out.bel X3.out (Nat.lt_of_lt_of_le hlow.out W2.out.size)); have W3 := hid (W2.out.trans (X3.out.mono W2.out.size)); clear V2 U2 P2 Q2 H2 W2))
    refine (hR1.out _ U3.out H3.out).mono ?_
    rintro e w4 ⟨rfl, hb⟩
    have V4 := hid (V3.out.bel hb)
    have U4 := hid (U3.out.bel hb)
    have P4 := hid (P3.out.bel hb)
    have Q4 := hid (Q3.out.bel hb)
    have H4 := hid (H3.out.bel hb (Nat.lt_of_lt_of_le hlow.out W3.out.size))
    have W4 := hid (W3.out.trans (hb.mono W3.out.size))
    have A4 := hid (rangeBel2 hb A3.out)
    clear V3 U3 P3 Q3 H3 W3 A3
    clear hb
    have e4 := hid (heap_alloc_new w4 (.cells z32 29))
    go_wp2_with (first
      | (with_reducible refine wpList_alloc_row rfl 29 rfl z32 info32 ?_)
      | ((with_reducible refine wpList_store_row rfl 29 (.tmp 9) (.tmp 66) rfl _ _ rfl rfl 29 z32 ?_ ?_ ?_ ?_ ?_); exact e4.out; exact sizeDgR x1; exact zDgR x1; exact oneDgR x1; intro w5 hgS hbS hsS; have X5 := hid (xnewP rfl hbS); have B5 := hid (rangeOf (l := x1.1.map bv) hgS); clear hgS hbS hsS; have V5 := hid (V4.out.bel X5.out); have U5 := hid (U4.out.bel X5.out); have P5 := hid (P4.out.bel X5.out); have Q5 := hid (Q4.out.bel X5.out); have H5 := hid (H4.out.bel X5.out (Nat.lt_of_lt_of_le hlow.out W4.out.size)); have W5 := hid (W4.out.trans (X5.out.mono W4.out.size)); have A5 := hid (rangeBel2 X5.out A4.out); clear V4 U4 P4 Q4 H4 W4 A4)
      | (refine wpList_build0 slotSlX rfl rfl ?_)
      | (at_builtin; refine wpList_appR slotSlX rfl (.tmp 69) (.tmp 70) rfl (fun b => b < w.heap.size) w5.heap.size (some ⟨w5.heap.size, 0, none⟩) a0 0 ls0.length 0 cap0 [] ls0 rfl rfl rfl rfl (rowO_build0 w5 _ (Nat.le_refl _) (by have := W5.out.size; omega)) (P5.out.alloc _).src (fun b hb => by have := W5.out.size; rw [World.size_alloc]; omega) (by have := hlen2.out; simp; omega) (by simp) ?_; intro ad6 ca6 w6 ho6 hb6; have X6 := hid ((ext_alloc w5 (.cells #[] 33)).trans hb6); have O6 := hid ho6; have Q6 := hid (Q5.out.bel X6.out); clear ho6 hb6)
      | (at_builtin; refine wpList_appR slotSlX rfl (.tmp 71) (.tmp 72) rfl (fun b => b < w.heap.size) w5.heap.size ad6 a1 ls0.length ls1.length ca6 cap1 ls0 ls1 rfl rfl rfl rfl O6.out Q6.out.src (fun b hb => by have := W5.out.size; have := X6.out.size; omega) (by have := hlen2.out; omega) X6.out.size ?_; intro ad7 ca7 w7 ho7 hb7; have X7 := hid (X6.out.trans hb7); have D7 := hid ho7.row.rds; have d7 := ho7.cap; rw [List.length_append] at d7; replace d7 := hid d7; clear ho7 hb7; have V7 := hid (V5.out.bel X7.out); have U7 := hid (U5.out.bel X7.out); have P7 := hid (P5.out.bel X7.out); have Q7 := hid (Q5.out.bel X7.out); have H7 := hid (H5.out.bel X7.out (Nat.lt_of_lt_of_le hlow.out W5.out.size)); have W7 := hid (W5.out.trans (X7.out.mono W5.out.size)); have A7 := hid (rangeBel2 X7.out A5.out); have B7 := hid (rangeBel2 X7.out B5.out); clear V5 U5 P5 Q5 H5 W5 A5 B5))
    refine (hRb.out ad7 ca7 _ D7.out d7.out.1 d7.out.2 H7.out).mono ?_
    rintro e w8 ⟨rfl, hb⟩
    have V8 := hid (V7.out.bel hb)
    have U8 := hid (U7.out.bel hb)
    have P8 := hid (P7.out.bel hb)
    have Q8 := hid (Q7.out.bel hb)
    have H8 := hid (H7.out.bel hb (Nat.lt_of_lt_of_le hlow.out W7.out.size))
    have W8 := hid (W7.out.trans (hb.mono W7.out.size))
    have A8 := hid (rangeBel2 hb A7.out)
    have B8 := hid (rangeBel2 hb B7.out)
    clear V7 U7 P7 Q7 H7 W7 A7 B7
    clear hb D7
    have e8 := hid (heap_alloc_new w8 (.cells z32 29))
    go_wp2_with (first
      | (with_reducible refine wpList_alloc_row rfl 29 rfl z32 info32 ?_)
      | ((with_reducible refine wpList_store_row rfl 29 (.tmp 11) (.tmp 75) rfl _ _ rfl rfl 29 z32 ?_ ?_ ?_ ?_ ?_); exact e8.out; exact sizeDgR xb; exact zDgR xb; exact oneDgR xb; intro w9 hgS hbS hsS; have X9 := hid (xnewP rfl hbS); have C9 := hid (rangeOf (l := xb.1.map bv) hgS); clear hgS hbS hsS; have V9 := hid (V8.out.bel X9.out); have U9 := hid (U8.out.bel X9.out); have P9 := hid (P8.out.bel X9.out); have Q9 := hid (Q8.out.bel X9.out); have H9 := hid (H8.out.bel X9.out (Nat.lt_of_lt_of_le hlow.out W8.out.size)); have W9 := hid (W8.out.trans (X9.out.mono W8.out.size)); have A9 := hid (rangeBel2 X9.out A8.out); have B9 := hid (rangeBel2 X9.out B8.out); clear V8 U8 P8 Q8 H8 W8 A8 B8))
    go_ret
    exact ⟨rfl, W9.out⟩

/-! ### WHAT THE WALK GIVES, FOR EVERY ARGUMENT AND EVERY WORLD THAT HOLDS THE TABLE -/
set_option maxRecDepth 100000 in
theorem contract (H : Type) (enc : TypeId × Value → H) (W : World) (base : Nat) (args : Array Value) (ds gs : List (DataW H)) (before : List MemPlace)
    (hval0 : ∀ (j : Nat) t v, Tryd.f7.params[j]? = some t → args[j]? = some v → Value.okWide Tryd.prog W .any base t v)
    (hW : DataW.Whole enc Tryd.prog Tryd.f7.params.toList Rows.rowsJoinSpec.vars false W args.toList ds gs before) (hL : laidMetH Tryd.prog Rows.rowsJoinRow.laid W) :
    Calls Tryd.prog 7 args W fun e W' => ∃ v, e = .returned v ∧ Rows.rowsJoinSpec.post enc Tryd.prog Tryd.f7 false true false false W args v W' := by
  have hval : ∀ (j : Nat) t v, Tryd.f7.params[j]? = some t → args[j]? = some v → Value.okWide Tryd.prog W .any base t v := hval0
  have hW' := hW
  obtain ⟨p, q, hA0, hV, rfl, hfz, hnd⟩ := hW
  have hA : DataW.TrodAll enc Tryd.prog W 0 (fun _ => true) true Tryd.f7.params.toList args.toList ds p := hA0
  rw [Tryd.params7] at hA hval
  obtain ⟨v0, vs0, d0, ds0, p0, q0, hargs, rfl, rfl, h0, r0⟩ := trodAll_cons hA
  obtain ⟨v1, vs1, d1, ds1, p1, q1, rfl, rfl, rfl, h1, r1⟩ := trodAll_cons r0
  obtain ⟨rfl, rfl, rfl⟩ := trodAll_nil r1
  obtain rfl : args = #[v0, v1] := by cases args; simp_all
  obtain ⟨rfl, rfl⟩ := trodVars_none hV
  obtain ⟨a0, len0, cap0, rfl⟩ := okWide_slice Tryd.underlying26 (hval 0 26 v0 rfl rfl)
  have k0 := h0
  have lt0 : ∀ x ∈ p0, x.block < W.heap.size := by obtain ⟨m, hm⟩ := k0; exact DataW.trod_lt m _ _ _ hm
  obtain ⟨ls0, w0⟩ : ∃ ls : List (List UInt8), len0 = ls.length ∧ Rds W a0 ls ∧ ls.length ≤ cap0 ∧ cap0 ≤ maxLen := by
    obtain ⟨fuel, hf⟩ := h0
    exact open_rows Tryd.underlying26 Tryd.underlying33 Tryd.underlying5 (by kernel_rfl) (by kernel_rfl) hf
  obtain ⟨a1, len1, cap1, rfl⟩ := okWide_slice Tryd.underlying26 (hval 1 26 v1 rfl rfl)
  have k1 := h1
  have lt1 : ∀ x ∈ p1, x.block < W.heap.size := by obtain ⟨m, hm⟩ := k1; exact DataW.trod_lt m _ _ _ hm
  obtain ⟨ls1, w1⟩ : ∃ ls : List (List UInt8), len1 = ls.length ∧ Rds W a1 ls ∧ ls.length ≤ cap1 ∧ cap1 ≤ maxLen := by
    obtain ⟨fuel, hf⟩ := h1
    exact open_rows Tryd.underlying26 Tryd.underlying33 Tryd.underlying5 (by kernel_rfl) (by kernel_rfl) hf
  clear hA0 hval0
  refine (walk a0 len0 cap0 ls0 a1 len1 cap1 ls1 W w0 w1 (tab_of hL)).mono fun e W' ⟨he, bel⟩ => ?_
  subst he
  exact ⟨_, rfl, _, _, _, [], _, [], hW', trodAll_mk1 (shut_bool Tryd.underlying4 _), (trodAll_cons_mk (Below.trod laidOut (by kernel_rfl) (of_decide_eq_true (by kernel_rfl)) k0 bel lt0) (trodAll_cons_mk (Below.trod laidOut (by kernel_rfl) (of_decide_eq_true (by kernel_rfl)) k1 bel lt1) trodAll_mk0)), rfl, bel.frame _, fun h => by cases h⟩

theorem laid_met (os : Os) : laidMet Tryd.prog Rows.rowsJoinRow.laid ((laidWorld os).forCall (fun _ _ => 0) ⟨#[], #[.slice none 0 0, .slice none 0 0], []⟩).memory :=
  laidMet_of_run' 8 (by kernel_rfl) (by kernel_rfl)
theorem reads (os : Os) {H : Type} (enc : TypeId × Value → H) : ∃ places, DataW.whole enc Tryd.prog ((laidWorld os).forCall (fun _ _ => 0) ⟨#[], #[.slice none 0 0, .slice none 0 0], []⟩).memory Tryd.f7.params.toList Rows.rowsJoinSpec.vars false (#[.slice none 0 0, .slice none 0 0] : Array Value).toList 8 = some ([.nil, .nil], [], places) :=
  ⟨[], by kernel_rfl⟩
set_option maxRecDepth 100000 in
theorem lifted (os : Os) (started : os.Started) (H : Type) (enc : TypeId × Value → H) (F : Stop.Interp) :
    ReturnsInHanded {} Tryd.checked os 7 .any ((OpenSpec.ofChange Rows.rowsJoinSpec).preRow enc Tryd.prog Tryd.f7 Rows.rowsJoinRow.domain false Rows.rowsJoinRow.laid) (((OpenSpec.ofChange Rows.rowsJoinSpec).at F).post enc Tryd.prog Tryd.f7 false true false false) := by
  obtain ⟨places, hx⟩ := reads os enc
  refine returnsInHanded_of_row (C := Tryd.checked) (s := OpenSpec.ofChange Rows.rowsJoinSpec) own started (by kernel_rfl) Tryd.func7
    (witness_row_at (enc := enc) (C := Tryd.checked) false (laidWorld os) #[.slice none 0 0, .slice none 0 0] rfl (by kernel_rfl) (by kernel_rfl) (by kernel_rfl)
      (OpenSpec.preRow_of_cond 8 hx (by kernel_rfl) (fun k hk => by cases hk) (by kernel_rfl) (laid_met os))) ?_
  intro W base args ds gs before hval hW _ _ _ hL _ _
  exact contract H enc W base args ds gs before hval hW hL
theorem said : Rows.RowsJoinSaid :=
  OpenClaim.holds_of_cond 7 Tryd.f7 rfl rfl rfl rfl rfl rfl rfl ⟨rfl, rfl, rfl, rfl, rfl⟩ rfl rfl rfl rfl rfl (by kernel_rfl) Tryd.func7 (by kernel_rfl)
    (of_decide_eq_true (by kernel_rfl)) (by unfold Func.isWrapper; first | (rw [if_pos (by decide +kernel)]; kernel_rfl) | (rw [if_neg (by decide +kernel)]; exact ⟨rfl, rfl⟩))
    (fun os started H enc _ F => by rw [OpenClaim.pre_eq_preRow]; exact lifted os started H enc F)
set_option maxRecDepth 100000 in
/-- No parameter wants a stand-in; the program's own looks are off: what the card asks. -/
theorem plain (f : FuncId) (fn : Func) (hf : Tryd.pinned.checked.prog.funcNamed "beadroll/beadrolllaw13.RowsJoin" = some f) (hfn : Tryd.pinned.checked.prog.funcs[f]? = some fn) :
    false = Tryd.pinned.checked.prog.looks [] ∧ ∀ (j : Nat) t, fn.params[j]? = some t → Tryd.pinned.checked.prog.wantsStandIn t = false := by
  obtain rfl : f = 7 := Option.some.inj ((show Tryd.prog.funcNamed "beadroll/beadrolllaw13.RowsJoin" = some 7 by kernel_rfl).symm.trans hf) |>.symm
  obtain rfl : fn = Tryd.f7 := (Option.some.inj (Tryd.func7.symm.trans hfn)).symm
  refine ⟨by kernel_rfl, fun j t ht => ?_⟩
  rw [Tryd.params7] at ht
  have hm := Array.mem_of_getElem? ht
  simp only [List.mem_toArray, List.mem_cons, List.not_mem_nil, or_false] at hm
  rcases hm with rfl | rfl
  all_goals first | exact (show Tryd.prog.wantsStandIn 26 = false by kernel_rfl)
set_option maxRecDepth 100000 in
/-- ████ THE CARD ████ -/
theorem proved : Rows.RowsJoinCardSaid :=
  Claim7.holds_tied_plain_at .later [] _ _ _ _ said (fun _ h => by cases h) (by kernel_rfl) (fun _ h => by cases h) rowsJoin_row_tie rfl ⟨rfl, rfl⟩ (by kernel_rfl) rfl plain (by kernel_rfl)
#print axioms proved
end Go.Proofs.YtgmlmkhiflnhdaaDoor.rowsJoin
