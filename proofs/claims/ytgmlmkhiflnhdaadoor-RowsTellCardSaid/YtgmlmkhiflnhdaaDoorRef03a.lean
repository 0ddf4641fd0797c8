/-
  The document's answers for layer 3: are parts more than statements go through? are two lists of parts the same?
-/
import Derived.Test.YtgmlmkhiflnhdaaDoorBits
import Derived.StillTailTactics
namespace Go.Proofs.YtgmlmkhiflnhdaaDoor
open Go.RowKit
set_option linter.unusedVariables false
set_option maxRecDepth 100000

def great (ls : List (List UInt8)) : Bool := decide (8 < ls.length) || ls.any fun l => decide (300 < l.length)
theorem great_no {ls : List (List UInt8)} (h : great ls = false) : ls.length ≤ 8 ∧ ∀ (j : Nat) (l : List UInt8), ls[j]? = some l → l.length ≤ 300 := by
  unfold great at h
  rw [Bool.or_eq_false_iff, decide_eq_false_iff_not, List.any_eq_false] at h
  refine ⟨by omega, fun j l hl => ?_⟩
  have := h.2 l (List.mem_of_getElem? hl)
  simp at this
  omega


theorem Same_q (A1 A2 : Option Addr) (n1 n2 c1 c2 : Nat) (l1 l2 : List UInt8) (w : World) (h1 : Rd w A1 l1) (h2 : Rd w A2 l2) (hn1 : n1 = l1.length) (hn2 : n2 = l2.length) :
    Calls Tryd.prog 33 #[.slice A1 n1 c1, .slice A2 n2 c2] w fun e w' => e = .returned (.bool (decide (l1 = l2))) ∧ w' = w := by
  by_cases h : l1 = l2
  · rw [decide_eq_true h]
    exact (Same_yes A1 A2 n1 n2 c1 c2 l1 l2 w h1 h2 hn1 hn2 h).mono fun _ _ ⟨a, b⟩ => ⟨a, b.symm⟩
  · rw [decide_eq_false h]
    exact (Same_no A1 A2 n1 n2 c1 c2 l1 l2 w h1 h2 hn1 hn2 h).mono fun _ _ ⟨a, b⟩ => ⟨a, b.symm⟩

theorem SameL_any (A1 A2 : Option Addr) (n1 n2 c1 c2 : Nat) (ls ms : List (List UInt8)) (w : World) (h1 : Rds w A1 ls) (h2 : Rds w A2 ms) (hn1 : n1 = ls.length) (hn2 : n2 = ms.length) (hc1 : ls.length ≤ 9223372036854775807) (hc2 : ms.length ≤ 9223372036854775807) :
    Calls Tryd.prog 20 #[.slice A1 n1 c1, .slice A2 n2 c2] w fun r w' => r = .returned (.bool (decide (ls = ms))) ∧ Below w.heap.size w w' := by
  subst hn1 hn2
  by_cases hl : ls.length = ms.length
  · have t1 : ((ls.length : Int) != (ms.length : Int)) = false := by rw [hl]; simp
    rw [← hl]
    have Hl := hid hl
    clear hl
    go_enter Tryd.func20, Tryd.ntmps20
    go_wp2
    go_loopw [5] (fun v wr => ∃ j : Nat, j ≤ ls.length ∧ v = .int .i64 j ∧ Hid (∀ k : Nat, k < j → ls[k]? = ms[k]?) ∧ Below w.heap.size w wr) (fun v _ => ls.length - (intOf v).toNat)
    case atStart => exact ⟨0, Nat.zero_le _, rfl, fun k hk => absurd hk (by omega), Below.refl _ _⟩
    case round =>
      obtain ⟨j, hj, rfl, hall, hb⟩ := hrel
      by_cases hlt : j < ls.length
      · as_aux_lemma =>
        obtain ⟨b1, o1, rfl, k1⟩ := (h1.bel hb) (by omega)
        obtain ⟨b2, o2, rfl, k2⟩ := (h2.bel hb) (by have := Hl.out; omega)
        obtain ⟨B1, d1, e1, r1, _, _⟩ := k1 j _ (List.getElem?_eq_getElem hlt)
        obtain ⟨B2, d2, e2, r2, _, _⟩ := k2 j _ (List.getElem?_eq_getElem (by have := Hl.out; omega))
        have g1 := hid (List.getElem?_eq_getElem hlt)
        have g2 := hid (List.getElem?_eq_getElem (l := ms) (i := j) (by have := Hl.out; omega))
        generalize ls[j] = x at *
        generalize ms[j] = y at *
        have j1 : (j : Int) < ls.length := by omega
        have H1 := hid h1
        have H2 := hid h2
        replace hb := hid hb
        have q1 := hid r1
        have q2 := hid r2
        clear k1 k2 h1 h2 r1 r2
        by_cases hxy : x = y
        · have hd : decide (x = y) = true := decide_eq_true hxy
          replace hxy := hid hxy
          go_wp2_with fail
          go_quiet ((refine Calls.quiet_of_same (Same_q _ _ _ _ _ _ x y _ ?_ ?_ rfl rfl); exact q1.out; exact q2.out))
          go_wp2_with fail
          go_roundw
          case rel =>
            refine ⟨j + 1, by omega, by go_num, fun k hk => ?_, below_drewN hb.out _⟩
            rcases Nat.lt_or_ge k j with h | h
            · exact hall k h
            · obtain rfl : k = j := by omega
              rw [g1.out, g2.out, hxy.out]
          case measure => simp [intOf]; omega
        · have hd : decide (x = y) = false := decide_eq_false hxy
          have hne : Hid (decide (ls = ms) = false) := by
            show _ = _
            rw [decide_eq_false_iff_not]
            intro he
            rw [he] at g1
            have := g1.out.symm.trans g2.out
            injection this with this
            exact hxy this
          replace hxy := hid hxy
          go_wp2_with fail
          go_quiet ((refine Calls.quiet_of_same (Same_q _ _ _ _ _ _ x y _ ?_ ?_ rfl rfl); exact q1.out; exact q2.out))
          go_wp2_with fail
          go_ret
          rw [hne.out]
          exact ⟨rfl, below_drewN hb.out _⟩
      · as_aux_lemma =>
        have he : Hid (decide (ls = ms) = true) := by
          show _ = _
          rw [decide_eq_true_iff]
          apply List.ext_getElem?
          intro k
          rcases Nat.lt_or_ge k j with h | h
          · exact hall k h
          · rw [List.getElem?_eq_none (by omega), List.getElem?_eq_none (by have := Hl.out; omega)]
        have j2 : (ls.length : Int) ≤ j := by omega
        go_wp2_with fail
        go_ret
        rw [he.out]
        exact ⟨rfl, hb⟩
  · have t1 : ((ls.length : Int) != (ms.length : Int)) = true := by rw [bne_iff_ne]; omega
    have hne : decide (ls = ms) = false := by rw [decide_eq_false_iff_not]; intro he; exact hl (by rw [he])
    rw [hne]
    go_enter Tryd.func20, Tryd.ntmps20
    go_wp2
    go_ret
    exact ⟨rfl, Below.refl _ _⟩
end Go.Proofs.YtgmlmkhiflnhdaaDoor
