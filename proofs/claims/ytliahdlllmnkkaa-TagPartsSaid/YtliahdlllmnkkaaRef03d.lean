/-
  The document's answer for layer 3: kinds and parts of bytes.
-/
import Derived.Test.YtliahdlllmnkkaaTagP
import Derived.Test.YtliahdlllmnkkaaOwnL
import Derived.Test.YtliahdlllmnkkaaRNumber
import Derived.Test.YtliahdlllmnkkaaTwin
namespace Go.Proofs.Ytliahdlllmnkkaa
open Go.RowKit
set_option linter.unusedVariables false

theorem infoSl : (Try.prog.info? 22).map (fun i => (i.zero, i.size, i.bytes)) = some (some (.slice none 0 0), 1, 24) := by kernel_rfl
theorem underSls : Try.prog.underlying 24 = some (.slice 22) := Try.underlying24

/-- Where the reading of b stands: at place p, ps are read. -/
def At (b : List UInt8) (p : Nat) (ps : List (List UInt8)) : Prop := rE (b.drop 1) = rE (b.drop p) ∧ rL (b.drop 1) = ps ++ rL (b.drop p)
theorem At.begin (b : List UInt8) : At b 1 [] := ⟨rfl, rfl⟩
theorem At.stop {b : List UInt8} {p : Nat} {ps : List (List UInt8)} (h : At b p ps) (hp : p < b.length) (hs : stepE (b.drop p) ≠ 0) : tagE b = stepE (b.drop p) ∧ tagK b = 0 ∧ tagL b = [] := by
  have hne : b.drop p ≠ [] := by intro he; have := congrArg List.length he; simp at this; omega
  have h0 : b ≠ [] := by intro he; rw [he] at hp; simp at hp
  have e : tagE b = stepE (b.drop p) := by
    unfold tagE
    rw [if_neg h0, h.1, rE_cons _ hne, if_neg hs]
  refine ⟨e, ?_, ?_⟩
  · unfold tagK; rw [if_neg (by rw [e]; exact hs)]
  · unfold tagL; rw [if_neg (by rw [e]; exact hs)]
theorem At.next {b : List UInt8} {p n : Nat} {ps : List (List UInt8)} (h : At b p ps) (hp : p < b.length) (hs : stepE (b.drop p) = 0) (hn : num ((b.drop p).take 4) = n) : At b (p + 4 + n) (ps ++ [stepP (b.drop p)]) := by
  have hne : b.drop p ≠ [] := by intro he; have := congrArg List.length he; simp at this; omega
  have hr : stepR (b.drop p) = b.drop (p + 4 + n) := by unfold stepR; rw [hn, List.drop_drop]; congr 1; omega
  refine ⟨?_, ?_⟩
  · rw [h.1, rE_cons _ hne, if_pos hs, hr]
  · rw [h.2, rL_cons _ hne, hr]; simp
theorem At.done {b : List UInt8} {ps : List (List UInt8)} (h : At b b.length ps) (h0 : b ≠ []) : tagE b = 0 ∧ tagK b = b.getD 0 0 ∧ tagL b = ps := by
  have h1 := h.1
  have h2 := h.2
  rw [List.drop_of_length_le (Nat.le_refl _), rE_nil] at h1
  rw [List.drop_of_length_le (Nat.le_refl _), rL_nil, List.append_nil] at h2
  have e : tagE b = 0 := by unfold tagE; rw [if_neg h0, h1]
  refine ⟨e, ?_, ?_⟩
  · unfold tagK; rw [if_pos e]
  · unfold tagL; rw [if_pos e, h2]

set_option maxHeartbeats 1000000 in
theorem RParts_any (A : Option Addr) (c n : Nat) (b : List UInt8) (w : World) (hr : Rd w A b) (hn : n = b.length) (hb1 : b.length ≤ 1000000) (hc : b.length ≤ c) (hcm : c ≤ 9223372036854775807) :
    Calls Try.prog 7 #[.slice A n c] w fun r w' => ∃ A' c', r = .returned (.tuple #[.int .u8 ((tagK b).toNat : Int), .slice A' (tagL b).length c', .int .i64 (tagE b)]) ∧ OwnL 22 5 w' w.heap.size A' c' (tagL b) ∧ Below w.heap.size w w' := by
  subst hn
  have K0 : ∀ (w' : World), Below w.heap.size w w' → tagK b = 0 ∧ tagL b = [] → ∃ A' c', Ending.returned (.tuple #[.int .u8 0, .slice none 0 0, .int .i64 (tagE b)]) = Ending.returned (.tuple #[.int .u8 ((tagK b).toNat : Int), .slice A' (tagL b).length c', .int .i64 (tagE b)]) ∧ OwnL 22 5 w' w.heap.size A' c' (tagL b) ∧ Below w.heap.size w w' := by
    intro w' hb ⟨h1, h2⟩
    rw [h1, h2]
    exact ⟨none, 0, rfl, OwnL.nil _ _, hb⟩
  replace K0 := hid K0
  by_cases h0 : b = []
  · subst h0
    have e := K0.out w (Below.refl _ _) ⟨rfl, rfl⟩
    rw [show tagE [] = 10 from rfl] at e ⊢
    replace e := hid e
    go_enter Try.func7, Try.ntmps7
    go_wp2
    go_ret3
    exact e.out
  · have hpos : 0 < b.length := List.length_pos_iff.2 h0
    have hz : ((b.length : Int) == 0) = false := by simpa using (show (b.length : Int) ≠ 0 by omega)
    go_enter Try.func7, Try.ntmps7
    go_wp2
    go_loopw [5, 6] (fun v q wr => ∃ (p : Nat) (ps : List (List UInt8)) (A' : Option Addr) (c' : Nat), p ≤ b.length ∧ 1 ≤ p ∧ q = .int .i64 p ∧ v = .slice A' ps.length c' ∧ ps.length ≤ p ∧ Hid (At b p ps) ∧ OwnL 22 5 wr w.heap.size A' c' ps ∧ Below w.heap.size w wr) (fun _ q _ => b.length - (intOf q).toNat)
    case atStart => exact ⟨1, [], none, 0, by omega, by omega, rfl, rfl, by simp, At.begin b, OwnL.nil _ _, Below.refl _ _⟩
    case round =>
      obtain ⟨p, ps, A', c', hp, hp1, rfl, rfl, hps, hat, ho, hb⟩ := hrel
      have Ho := hid ho
      have Hb := hid hb
      by_cases hlt : p < b.length
      · have hr1 := hr.bel hb
        clear ho hb hr
        have lr : (b.drop p).length = b.length - p := List.length_drop
        by_cases h4 : b.length - p < 4
        · as_aux_lemma =>
          have hs : stepE (b.drop p) = 10 := by unfold stepE; rw [if_pos (by omega)]
          obtain ⟨e1, e2⟩ := hat.stop hlt (by rw [hs]; decide)
          rw [hs] at e1
          have K1 := K0.out wr Hb.out e2
          rw [e1] at K1
          have K2 := hid K1
          have E1 := hid e1
          clear K1 hs e1 e2 lr
          have f1 : (b.length : Int) - (p : Int) < 4 := by omega
          go_wp2_with fail
          go_ret3
          rw [E1.out]
          exact K2.out
        · have hcp : ¬ c = p := by omega
          have r4 := hr1.cut p (p + 4) c (by omega) (by omega) (by omega)
          rw [if_neg hcp, show p + 4 - p = 4 by omega] at r4
          have l4 : ((b.drop p).take 4).length = 4 := by rw [List.length_take]; omega
          obtain ⟨m, hm⟩ : ∃ m, m = num ((b.drop p).take 4) := ⟨_, rfl⟩
          have hm32 : m < 4294967296 := by
            have h := num_lt ((b.drop p).take 4)
            rw [l4, ← hm] at h
            omega
          have R4 := hid r4
          have L4 := hid l4
          have Hm := hid hm
          clear r4 l4
          have f1 : ¬ ((b.length : Int) - (p : Int) < 4) := by omega
          by_cases h5 : 4096 < m
          · as_aux_lemma =>
            have hs : stepE (b.drop p) = 4 := by unfold stepE; rw [if_neg (by omega), if_pos (by rw [← hm]; exact h5)]
            obtain ⟨e1, e2⟩ := hat.stop hlt (by rw [hs]; decide)
            rw [hs] at e1
            have K1 := K0.out wr Hb.out e2
            rw [e1] at K1
            have K2 := hid K1
            have E1 := hid e1
            clear K1 hs e1 e2 lr hm
            go_wp2_with fail
            refine (Number_is _ _ _ _ _ R4.out L4.out.symm (by have := L4.out; omega) (m : Int) (by rw [Hm.out])).mono ?_
            rintro e w2 ⟨rfl, rfl⟩
            go_wp2_with fail
            go_ret3
            rw [E1.out]
            exact K2.out
          · by_cases h6 : b.length - (p + 4) < m
            · as_aux_lemma =>
              have hs : stepE (b.drop p) = 10 := by unfold stepE; rw [if_neg (by omega), if_neg (by rw [← hm]; exact h5), if_pos (by rw [← hm, lr]; omega)]
              obtain ⟨e1, e2⟩ := hat.stop hlt (by rw [hs]; decide)
              rw [hs] at e1
              have K1 := K0.out wr Hb.out e2
              rw [e1] at K1
              have K2 := hid K1
              have E1 := hid e1
              clear K1 hs e1 e2 lr hm
              go_wp2_with fail
              refine (Number_is _ _ _ _ _ R4.out L4.out.symm (by have := L4.out; omega) (m : Int) (by rw [Hm.out])).mono ?_
              rintro e w2 ⟨rfl, rfl⟩
              go_wp2_with fail
              go_ret3
              rw [E1.out]
              exact K2.out
            · have hs : stepE (b.drop p) = 0 := by unfold stepE; rw [if_neg (by omega), if_neg (by rw [← hm]; exact h5), if_neg (by rw [← hm, lr]; omega)]
              have hnx := hid (hat.next hlt hs hm.symm)
              have hpt : stepP (b.drop p) = (b.drop (p + 4)).take m := by unfold stepP; rw [← hm, List.drop_drop]
              rw [hpt] at hnx
              have rx := hr1.cut (p + 4) (p + 4 + m) c (by omega) (by omega) (by omega)
              rw [show p + 4 + m - (p + 4) = m by omega] at rx
              have lx : ((b.drop (p + 4)).take m).length = m := by rw [List.length_take, List.length_drop]; omega
              generalize (b.drop (p + 4)).take m = x at *
              have Rx := hid rx
              have Lx := hid lx
              clear rx lx hs lr hm hpt
              by_cases h7 : c = p + 4
              · as_aux_lemma =>
                rw [if_pos h7] at Rx
                subst h7
                go_wp2_with fail
                refine (Number_is _ _ _ _ _ R4.out L4.out.symm (by have := L4.out; omega) (m : Int) (by rw [Hm.out])).mono ?_
                rintro e w2 ⟨rfl, rfl⟩
                go_wp2_with fail
                refine (Twin_any _ _ _ x _ ?_ Lx.out.symm (by have := Lx.out; omega)).mono ?_
                · exact Rx.out
                rintro e w3 ⟨A3, c3, rfl, ho3, hb3⟩
                have Ho3 := hid (ho3.base Hb.out.size)
                have Hx := hid (Ho.out.bel hb3)
                have B3 := hid (Hb.out.trans (hb3.mono Hb.out.size))
                have c3x := hid ho3.cap
                clear ho3 hb3
                go_wp2_with (first
                  | (at_builtin; refine wpList_appL underSls infoSl (by decide) rfl (.tmp 37) (.tmp 46) rfl w.heap.size A' A3 _ c' c3 1 w3.heap.size ps x rfl rfl rfl (Hx.out.alloc _) (Ho3.out.alloc _) (by rw [cell_of_row _ w3.heap.size 0 _ _ (0, 0) (heap_alloc_new w3 _)]; rfl) (by omega) (by have := B3.out.size; simp; omega) ?_; intro A4 c4 w4 ho4 hb4; have Ho4 := hid ho4; have B4 := hid (((B3.out.alloc B3.out.size _)).trans hb4); clear ho4 hb4))
                go_roundw
                case rel => exact ⟨p + 4 + m, ps ++ [x], A4, c4, by omega, by omega, by go_num, by simp, by simp; omega, hnx, Ho4.out, B4.out⟩
                case measure => simp [intOf]; omega
              · as_aux_lemma =>
                rw [if_neg h7] at Rx
                go_wp2_with fail
                refine (Number_is _ _ _ _ _ R4.out L4.out.symm (by have := L4.out; omega) (m : Int) (by rw [Hm.out])).mono ?_
                rintro e w2 ⟨rfl, rfl⟩
                go_wp2_with fail
                refine (Twin_any _ _ _ x _ ?_ Lx.out.symm (by have := Lx.out; omega)).mono ?_
                · exact Rx.out
                rintro e w3 ⟨A3, c3, rfl, ho3, hb3⟩
                have Ho3 := hid (ho3.base Hb.out.size)
                have Hx := hid (Ho.out.bel hb3)
                have B3 := hid (Hb.out.trans (hb3.mono Hb.out.size))
                have c3x := hid ho3.cap
                clear ho3 hb3
                go_wp2_with (first
                  | (at_builtin; refine wpList_appL underSls infoSl (by decide) rfl (.tmp 37) (.tmp 46) rfl w.heap.size A' A3 _ c' c3 1 w3.heap.size ps x rfl rfl rfl (Hx.out.alloc _) (Ho3.out.alloc _) (by rw [cell_of_row _ w3.heap.size 0 _ _ (0, 0) (heap_alloc_new w3 _)]; rfl) (by omega) (by have := B3.out.size; simp; omega) ?_; intro A4 c4 w4 ho4 hb4; have Ho4 := hid ho4; have B4 := hid (((B3.out.alloc B3.out.size _)).trans hb4); clear ho4 hb4))
                go_roundw
                case rel => exact ⟨p + 4 + m, ps ++ [x], A4, c4, by omega, by omega, by go_num, by simp, by simp; omega, hnx, Ho4.out, B4.out⟩
                case measure => simp [intOf]; omega
      · as_aux_lemma =>
        obtain rfl : p = b.length := by omega
        obtain ⟨e1, e2, e3⟩ := hat.out.done h0
        obtain ⟨b0, o0, rfl, hcell⟩ := (hr.bel hb) hpos
        have hc0 := hcell 0 _ (List.getElem?_eq_getElem hpos)
        rw [Nat.add_zero] at hc0
        have eg : b.getD 0 0 = b[0] := by rw [List.getD_eq_getElem?_getD, List.getElem?_eq_getElem hpos]; rfl
        rw [← eg, ← e2] at hc0
        unfold bv at hc0
        have E1 := hid e1
        have E3 := hid e3
        have hbpos : (0 : Int) < b.length := by omega
        clear hcell e1 e2 e3 eg ho hb hr K0 hat
        go_wp2_with fail
        go_ret3
        rw [E1.out, E3.out]
        exact ⟨_, _, rfl, Ho.out, Hb.out⟩
end Go.Proofs.Ytliahdlllmnkkaa
