/-
  The chapter's examples of layer 10, plain; slices of one slice of bytes laid where an order is drawn.
-/
import Derived.Test.YtcifncmfjlbhjaaDoorAcS
import Derived.Test.YtcifncmfjlbhjaaDoorAcK
namespace Go.Proofs.YtcifncmfjlbhjaaDoor
open Go.RowKit
set_option linter.unusedVariables false
set_option maxRecDepth 100000

theorem slotSls : Slot Tryd.prog Nat 61 28 (.slice none 0 0) 24 where
  under := Tryd.underlying61
  info := by kernel_rfl
  zero := rfl
  pos := by decide
theorem step_sl1 {w : World} {ops : Array Oper} {o : Oper} {a : Act} {K : Act → World → Prop} {Q : Exit → Act → World → Prop} {X : Prop} (hw : Region.wanted o (yielded ops a.tmps) = true)
    (x : Operand) (hop : o.op = .buildSlice 61 1 #[(0, x)]) (A : Option Addr) (c n : Nat) (l : List UInt8) (hx : a.eval x = .slice A n c) (hn : n = l.length) (h : Rd w A l) (h1 : l.length ≤ c) (h2 : c ≤ maxLen)
    (hK : ∀ g w', Rds w' (some ⟨g, 0, none⟩) [l] → Below w.heap.size w w' → K (a.put o.dst (.slice (some ⟨g, 0, none⟩) 1 1)) w') : if Region.wanted o (yielded ops a.tmps) = true then Oper.wp Tryd.prog o a w K Q else X := by
  rw [if_pos hw]
  subst hn
  exact wp_buildOne slotSls (by decide) x hop [.slice A l.length c] (by rw [hx]; rfl) rfl (hK _ _ (rds_one w A c l 28 h ⟨h1, h2⟩) (ext_alloc w _))
theorem of3R_any (p : Dg) (g : Nat) (w : World) (h : Rds w (some ⟨g, 0, none⟩) [p.1]) (hT : Tab w) :
    Calls Tryd.prog 10 #[.int .u8 3, .slice (some ⟨g, 0, none⟩) 1 1] w fun e w' => e = .returned (.agg ((keyD p).1.map bv).toArray) ∧ Below w.heap.size w w' :=
  TOf_any 3 (some ⟨g, 0, none⟩) 1 1 [p.1] w h rfl (by simp) (by unfold tagB partB; simp [p.2, be_length]) hT
def acM : Ac := ⟨0, 18446744073709551615⟩
theorem acM_ok : acM.ok := ⟨by decide, by decide⟩
theorem k12 : dfst 2 ≠ dfst 1 := by decide +kernel
theorem nil_mayN : mayT ⟨[], 0⟩ = true := by decide +kernel
theorem nil_all : allT ⟨[], 0⟩ = [] := by decide +kernel
theorem nil_mayA : mayA ⟨[], 0⟩ = true := by unfold mayA; rw [nil_mayN, nil_all]; rfl
theorem nil_get (k : Dg) : getA ⟨[], 0⟩ k = ac0 := by
  unfold getA
  rw [if_pos nil_mayA, nil_all]
  exact inA_none rfl
theorem nil_set (k : Dg) : setT ⟨[], 0⟩ k ac0 = ⟨[], 0⟩ := by
  unfold setT
  rw [if_pos nil_mayA, if_pos rfl, nil_all]
  rfl
theorem nil_setE (k : Dg) (a : Ac) : setE ⟨[], 0⟩ k a = 0 := by
  rw [setE_small k (by simp), if_pos nil_mayA]
def nmA : Tr := setT ⟨[], 0⟩ (dfst 1) acM
def nmB : Tr := setT nmA (dfst 2) acM
theorem nmA_f : mayA nmA = true ∧ nmA.ns.length ≤ 257 := by
  obtain ⟨h1, -, -, h4⟩ := setT_spec (k := dfst 1) acM_ok nil_mayA (by simp)
  exact ⟨h1, Nat.le_trans h4 (by simp)⟩
theorem nmB_f : mayA nmB = true ∧ nmB.ns.length ≤ 514 := by
  obtain ⟨h1, -, -, h4⟩ := setT_spec (k := dfst 2) acM_ok nmA_f.1 (Nat.le_trans nmA_f.2 (by decide))
  exact ⟨h1, Nat.le_trans h4 (by have := nmA_f.2; omega)⟩
theorem nmB_e : setE nmA (dfst 2) acM = 0 := by
  rw [setE_small _ (Nat.le_trans nmA_f.2 (by decide)), if_pos nmA_f.1]
theorem nmB_tot : totP (allT nmB) = 36893488147419103230 := by
  have e1 : totP (allT nmA) + (getA ⟨[], 0⟩ (dfst 1)).b = totP (allT ⟨[], 0⟩) + acM.b := total_turns acM_ok nil_mayA (by simp)
  have e2 : totP (allT nmB) + (getA nmA (dfst 2)).b = totP (allT nmA) + acM.b := total_turns acM_ok nmA_f.1 (Nat.le_trans nmA_f.2 (by decide))
  have e3 : getA nmA (dfst 2) = getA ⟨[], 0⟩ (dfst 2) := (back (t := ⟨[], 0⟩) (k := dfst 1) (o := dfst 2) acM_ok nil_mayA (by simp)).2.1 k12
  rw [nil_get, nil_all] at e1
  rw [e3, nil_get] at e2
  have z1 : ac0.b = 0 := rfl
  have z2 : acM.b = 18446744073709551615 := rfl
  have z3 : totP [] = 0 := rfl
  omega
theorem nmB_t : totH (allT nmB) = 1 ∧ totL (allT nmB) = 18446744073709551614 := by
  unfold totH totL
  rw [nmB_tot]
  exact ⟨rfl, rfl⟩
theorem zer_e (n : Nat) (e : Int) (h : acE (List.replicate n 0) = e) (he : e ≠ 0) : acE (List.replicate n 0) = e ∧ acOf (List.replicate n 0) = ac0 := ⟨h, acOf_no (by rw [h]; exact he)⟩
theorem zer15 : acE (List.replicate 15 0) = 10 ∧ acOf (List.replicate 15 0) = ac0 := zer_e 15 10 (by decide +kernel) (by decide)
theorem zer17 : acE (List.replicate 17 0) = 11 ∧ acOf (List.replicate 17 0) = ac0 := zer_e 17 11 (by decide +kernel) (by decide)
theorem zer16 : acE (List.replicate 16 0) = 8 ∧ acOf (List.replicate 16 0) = ac0 := zer_e 16 8 (by decide +kernel) (by decide)
end Go.Proofs.YtcifncmfjlbhjaaDoor
