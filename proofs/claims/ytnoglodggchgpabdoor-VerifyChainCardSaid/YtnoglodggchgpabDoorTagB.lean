/-
  Contracts of the landed package tag: each's two closures, Parts.
-/
import Derived.RangeFuncNested
import Derived.RangeFuncBox
import Derived.RangeFuncBound
import Derived.RangeFuncCalls
import Derived.RangeFuncLeaves
import Derived.Shelf.Abstract
import Derived.Shelf.RegionOpen
import Derived.OwnWalkIn
import Derived.Laws.EntriesVeiled
import Derived.TacticsInMore
import Derived.LoopNIn
import Derived.LoopIn
import Derived.Test.YtnoglodggchgpabDoorNumTake
import Derived.Test.YtnoglodggchgpabDoorRoad
import Derived.Test.YtnoglodggchgpabDoorTagA
namespace Go.Proofs.YtnoglodggchgpabDoor
open Go.RowKit Go.Shelf
set_option linter.unusedVariables false

/-! ### where a part ends -/
/-- each's first closure: what it tells of the part that begins at 'at'. -/
theorem end_any (g : Nat) (A : Option Addr) (c at_ : Nat) (b : List UInt8) (w : World) (hg : w.cell? ⟨g, 0, none⟩ = some (.slice A b.length c)) (hr : Rd w A b) (hat : at_ < b.length) (hb1 : b.length ≤ 1000000) (hc : b.length ≤ c) (hcm : c ≤ 9223372036854775807) :
    Calls Tryd.prog 30 #[.int .i64 (at_ : Int), .pointer (some ⟨g, 0, none⟩)] w fun r w' =>
      r = .returned (.tuple #[.int .i64 (if stepE (b.drop at_) = 0 then ((at_ + 4 + num ((b.drop at_).take 4) : Nat) : Int) else 0), .int .i64 (stepE (b.drop at_))]) ∧ Below w.heap.size w w' := by
  have hrl : (b.drop at_).length = b.length - at_ := List.length_drop ..
  obtain ⟨e, he⟩ : ∃ e, stepE (b.drop at_) = e := ⟨_, rfl⟩
  have hc1 : c ≠ at_ := by omega
  by_cases h4 : at_ + 4 ≤ b.length
  · have hm : min ((at_ : Int) + 4) (b.length : Int) = ((at_ + 4 : Nat) : Int) := by omega
    have hm2 : ((at_ : Int) + 4).toNat - at_ = 4 := by omega
    have hs := hr.cut at_ (at_ + 4) c (by omega) h4 (by omega)
    rw [if_neg hc1, show at_ + 4 - at_ = 4 by omega] at hs
    have hsl : ((b.drop at_).take 4).length = 4 := by rw [List.length_take]; omega
    obtain ⟨nn, hnn⟩ : ∃ nn, num ((b.drop at_).take 4) = nn := ⟨_, rfl⟩
    have hlt := num_lt ((b.drop at_).take 4)
    rw [hsl, hnn] at hlt
    have hE : (if 4096 < nn then (4 : Int) else if b.length - at_ - 4 < nn then 10 else 0) = e := by
      rw [← he]
      unfold stepE
      have h7 : ¬ (b.length - at_ < 4) := by omega
      rw [hnn, hrl, if_neg h7]
    rw [he, hnn]
    have t1 : (takeN ((b.drop at_).take 4) 4 : Int) = (nn : Int) := by
      have : takeE ((b.drop at_).take 4) 4 = 0 := by unfold takeE; rw [if_pos (by omega), if_neg (by omega)]
      unfold takeN
      rw [if_pos this]
      show ((num (((b.drop at_).take 4).take 4) : Nat) : Int) = _
      rw [List.take_take, Nat.min_self, hnn]
    have t2 : takeE ((b.drop at_).take 4) 4 = 0 := by unfold takeE; rw [if_pos (by omega), if_neg (by omega)]
    generalize (b.drop at_).take 4 = s at *
    replace hs := hid hs
    replace hsl := hid hsl
    replace hnn := hid hnn
    clear he
    replace t1 := hid t1
    replace t2 := hid t2
    by_cases h5 : 4096 < nn
    · rw [if_pos h5] at hE
      subst hE
      go_enter Tryd.func30, Tryd.ntmps30
      go_wp2_with (go_at_call 31; refine (Take_is _ _ (c - at_) s 4 _ _ _ _ hs.out hsl.out.symm (by have := hsl.out; omega) (by omega) (by have := hsl.out; omega) t1.out rfl t2.out).mono ?_; rintro e w1 ⟨A1, c1, rfl, ho, hb⟩)
      go_ret2
      exact ⟨rfl, hb⟩
    · rw [if_neg h5] at hE
      by_cases h6 : b.length - at_ - 4 < nn
      · rw [if_pos h6] at hE
        subst hE
        go_enter Tryd.func30, Tryd.ntmps30
        go_wp2_with (go_at_call 31; refine (Take_is _ _ (c - at_) s 4 _ _ _ _ hs.out hsl.out.symm (by have := hsl.out; omega) (by omega) (by have := hsl.out; omega) t1.out rfl t2.out).mono ?_; rintro e w1 ⟨A1, c1, rfl, ho, hb⟩; have hg1 := (hb.cell (p := ⟨g, 0, none⟩) (World.block_lt_of_cell? _ _ hg)).trans hg)
        go_ret2
        exact ⟨rfl, hb⟩
      · rw [if_neg h6] at hE
        subst hE
        go_enter Tryd.func30, Tryd.ntmps30
        go_wp2_with (go_at_call 31; refine (Take_is _ _ (c - at_) s 4 _ _ _ _ hs.out hsl.out.symm (by have := hsl.out; omega) (by omega) (by have := hsl.out; omega) t1.out rfl t2.out).mono ?_; rintro e w1 ⟨A1, c1, rfl, ho, hb⟩; have hg1 := (hb.cell (p := ⟨g, 0, none⟩) (World.block_lt_of_cell? _ _ hg)).trans hg)
        go_ret2
        exact ⟨by simp, hb⟩
  · have hm : min ((at_ : Int) + 4) (b.length : Int) = (b.length : Int) := by omega
    have hm2 : (b.length : Int).toNat - at_ = b.length - at_ := by omega
    have hs := hr.cut at_ b.length c (by omega) (Nat.le_refl _) (by omega)
    rw [if_neg hc1] at hs
    have hE : e = 10 := by
      rw [← he]
      unfold stepE
      rw [if_pos (by omega)]
    subst hE
    rw [he]
    have hsl : ((b.drop at_).take (b.length - at_)).length = b.length - at_ := by rw [List.length_take]; omega
    have t2 : takeE ((b.drop at_).take (b.length - at_)) 4 = 10 := by unfold takeE; rw [if_pos (by omega), if_pos (by omega)]
    have t1 : (takeN ((b.drop at_).take (b.length - at_)) 4 : Int) = 0 := by unfold takeN; rw [if_neg (by rw [t2]; decide)]; rfl
    generalize (b.drop at_).take (b.length - at_) = s at *
    replace hs := hid hs
    replace hsl := hid hsl
    clear he
    replace t1 := hid t1
    replace t2 := hid t2
    go_enter Tryd.func30, Tryd.ntmps30
    go_wp2_with (go_at_call 31; refine (Take_is _ _ (c - at_) s 4 _ _ _ _ hs.out hsl.out.symm (by have := hsl.out; omega) (by omega) (by have := hsl.out; omega) t1.out rfl t2.out).mono ?_; rintro e w1 ⟨A1, c1, rfl, ho, hb⟩)
    go_ret2
    exact ⟨rfl, hb⟩

/-! ### each -/
/-- What the iterator yields: a piece of what is read, or the error. -/
structure Item where
  A : Option Addr
  c : Nat
  l : List UInt8
  e : Int
def Item.encs (x : Item) : Array Value := #[.slice x.A x.l.length x.c, .int .i64 x.e]
/-- An item that may be handed to a body that began in w. -/
def GoodT (w : World) (x : Item) : Prop := Rd w x.A x.l ∧ x.l.length ≤ x.c ∧ x.c ≤ maxLen ∧ x.l.length ≤ 4096
abbrev Items (w : World) : Type := { x : Item // GoodT w x }

theorem each_any (A : Option Addr) (n c : Nat) (w : World) :
    Calls Tryd.prog 20 #[.slice A n c] w fun r w' => r = .returned (.func (.func 32) #[] #[.pointer (some ⟨w.heap.size, 0, none⟩), .pointer (some ⟨w.heap.size + 1, 0, none⟩)]) ∧
      w' = (w.alloc (.cells #[.slice A n c] 24)).alloc (.cells #[.func (.func 30) #[] #[.pointer (some ⟨w.heap.size, 0, none⟩)]] 66) := by
  go_enter Tryd.func20, Tryd.ntmps20
  go_wp2
  go_ret
  exact ⟨rfl, rfl⟩

def AllCame (b : List UInt8) (xs : List Item) : Prop := (rE b = 0 ∧ xs.map Item.l = rL b ∧ ∀ x ∈ xs, x.e = 0) ∨ ∃ x ∈ xs, x.e ≠ 0
def SomeCame (b : List UInt8) (pre : List Item) : Prop := ∃ q x, pre = q ++ [x] ∧ (x.e = 0 ∨ (x.e = rE b ∧ rE b ≠ 0))

set_option maxRecDepth 100000 in
set_option maxHeartbeats 2000000 in
theorem each2_in (n : Nat) (hn : 1 ≤ n) (p q n₀ l : Nat) (A : Option Addr) (c : Nat) (b : List UInt8) (w0 W : World) (hn0 : n₀ = w0.heap.size) (hw0 : Below n₀ w0 W) (hr : Rd w0 A b) (hb1 : b.length ≤ 1000000) (hc : b.length ≤ c) (hcm : c ≤ maxLen)
    (hcb : W.cell? ⟨p, 0, none⟩ = some (.slice A b.length c)) (hcq : W.cell? ⟨q, 0, none⟩ = some (.func (.func 30) #[] #[.pointer (some ⟨p, 0, none⟩)]))
    (J Jx : List (Items w0) → World → Prop) (hJ : AbidesFrom W.heap.size J)
    (hY : ∀ pre x W1, J pre W1 → pre.length < b.length + 1 → YieldAt Fence.wide (n - 1) Tryd.prog l (Item.encs x.1) W1 fun e W' =>
      (e = .returned (.bool true) ∧ J (pre ++ [x]) W' ∧ Keep2 n₀ p q W1 W') ∨ (e = .returned (.bool false) ∧ Jx (pre ++ [x]) W'))
    (h0 : J [] W) :
    CallsIn Fence.wide n Tryd.prog 32 #[.func (.yield l) #[] #[], .pointer (some ⟨p, 0, none⟩), .pointer (some ⟨q, 0, none⟩)] W fun e W' => (∃ v, e = .returned v) ∧
      ((∃ xs, AllCame b (xs.map (·.1)) ∧ J xs W') ∨ (∃ pre, SomeCame b (pre.map (·.1)) ∧ Jx pre W')) := by
  have hpW := World.block_lt_of_cell? _ _ hcb
  have hqW := World.block_lt_of_cell? _ _ hcq
  have hnW : n₀ ≤ W.heap.size := by rw [hn0]; exact hw0.size
  refine callsIn_of_wp Tryd.func32 rfl trivial ?_ rfl
  simp only [Tryd.ntmps32, List.size_toArray, List.length_cons, List.length_nil, Nat.reduceAdd, Nat.reduceSub, Array.replicate_succ, Array.replicate_zero, List.push_toArray, List.append_toArray, List.nil_append, List.cons_append]
  gi_wp2
  gi_loopw [4] (fun i wr => ∃ (at_ : Nat) (pre : List (Items w0)), i = .int .i64 at_ ∧ at_ ≤ b.length ∧ pre.length ≤ at_ ∧ J pre wr ∧ Keep2 n₀ p q W wr ∧ (∀ x ∈ pre, x.1.e = 0) ∧ rE (b.drop at_) = rE b ∧ pre.map (fun x => x.1.l) ++ rL (b.drop at_) = rL b)
    (fun i _ => b.length - (intOf i).toNat)
  case atStart => exact ⟨0, [], rfl, Nat.zero_le _, Nat.le_refl _, h0, Keep2.refl _ _ _ _, by simp, by rw [List.drop_zero], by simp⟩
  case round =>
    obtain ⟨at_, pre, rfl, hat, hpl, hj, hk, he0, hE, hL⟩ := hrel
    have hcb2 := (cell_same hk.2.1).trans hcb
    have hcq2 := (cell_same hk.2.2).trans hcq
    have hsn := hk.1.size
    have hsp := World.block_lt_of_cell? _ _ hcb2
    have hsq := World.block_lt_of_cell? _ _ hcq2
    simp only at hsp hsq
    by_cases hlt : at_ < b.length
    · obtain ⟨bb, o, hA, _⟩ := hr (by omega)
      subst hA
      have hne : b.drop at_ ≠ [] := by
        intro h
        have := congrArg List.length h
        rw [List.length_drop] at this
        simp at this
        omega
      have hEc := rE_cons _ hne
      have hLc := rL_cons _ hne
      rw [hE] at hEc
      rw [hLc] at hL
      clear hE hLc
      gi_wp2_with fail
      refine ⟨trivial, callsIn_wide.2 ((end_any p _ c at_ b wr hcb2 (hr.below (hw0.trans hk.1) (by omega)) hlt hb1 hc (by unfold maxLen at hcm; omega)).mono ?_)⟩
      rintro e w1 ⟨rfl, hb⟩
      have hj1 := hJ pre wr w1 none hj (grown_of_below hb) (by intro r e; cases e)
      have hk1 := hk.trans (Keep2.bel hb (by omega) (by omega) (by omega))
      have hcb1 := (cell_same hk1.2.1).trans hcb
      obtain ⟨e0, hee⟩ : ∃ e0, stepE (b.drop at_) = e0 := ⟨_, rfl⟩
      rw [hee] at hEc ⊢
      by_cases hz : e0 = 0
      · subst hz
        rw [if_pos rfl] at hEc ⊢
        have hrl : (b.drop at_).length = b.length - at_ := List.length_drop ..
        have hR0 : stepR (b.drop at_) = b.drop (at_ + 4 + num ((b.drop at_).take 4)) := by unfold stepR; rw [List.drop_drop, Nat.add_assoc]
        have hP0 : stepP (b.drop at_) = (b.drop (at_ + 4)).take (num ((b.drop at_).take 4)) := by unfold stepP; rw [List.drop_drop]
        obtain ⟨n1, hn1⟩ : ∃ n1, num ((b.drop at_).take 4) = n1 := ⟨_, rfl⟩
        unfold stepE at hee
        rw [hn1, hrl] at hee
        rw [hn1] at hR0 hP0 ⊢
        have h1 : ¬ (b.length - at_ < 4) := by intro h; rw [if_pos h] at hee; cases hee
        rw [if_neg h1] at hee
        have h2 : ¬ 4096 < n1 := by intro h; rw [if_pos h] at hee; cases hee
        rw [if_neg h2] at hee
        have h3 : ¬ (b.length - at_ - 4 < n1) := by intro h; rw [if_pos h] at hee; cases hee
        clear hee hn1 hrl
        have hcut := hr.cut (at_ + 4) (at_ + 4 + n1) c (by omega) (by omega) (by omega)
        rw [show at_ + 4 + n1 - (at_ + 4) = n1 by omega, ← hP0] at hcut
        rw [hR0] at hEc hL
        have hpl1 : (stepP (b.drop at_)).length = n1 := by rw [hP0, List.length_take, List.length_drop]; omega
        generalize stepP (b.drop at_) = x at *
        clear hP0 hR0
        have key : ∀ (A1 : Option Addr), (if c = at_ + 4 then some ⟨bb, o, none⟩ else (some (⟨bb, o, none⟩ : Addr)).map (·.add (at_ + 4))) = A1 → ∃ fn tmps assign body, (Instr.yield l #[.slice A1 n1 (c - (at_ + 4)), .int .i64 0]).run Tryd.prog w1 = .ok (.round l fn tmps assign body) w1 ∧ RoundIn Fence.wide (n - 1) Tryd.prog l fn tmps assign body w1 (fun e W' =>
            ∃ y : Items w0, y.1.l = x ∧ y.1.e = 0 ∧ ((e = .returned (.bool true) ∧ J (pre ++ [y]) W' ∧ Keep2 n₀ p q w1 W') ∨ (e = .returned (.bool false) ∧ Jx (pre ++ [y]) W'))) := by
          intro A1 hA1
          rw [hA1] at hcut
          obtain ⟨fn, tmps, assign, body, hy, hR⟩ := hY pre ⟨⟨A1, c - (at_ + 4), x, 0⟩, hcut, by show x.length ≤ c - (at_ + 4); omega, by show c - (at_ + 4) ≤ maxLen; omega, by show x.length ≤ 4096; omega⟩ w1 hj1 (by omega)
          rw [← hpl1]
          exact ⟨fn, tmps, assign, body, hy, hR.mono fun e W' h => ⟨_, rfl, rfl, h⟩⟩
        clear hcut
        replace hpl1 := hid hpl1
        by_cases hcc : c = at_ + 4
        · subst hcc
          obtain rfl : n1 = 0 := by omega
          obtain ⟨fn, tmps, assign, body, hy, hR⟩ := key (some ⟨bb, o, none⟩) (if_pos rfl)
          rw [Nat.sub_self] at hy
          gi_wp2
          refine hR.mono ?_
          rintro e W3 ⟨y, hy1, hy2, (⟨rfl, hJ3, hk3⟩ | ⟨rfl, hJx3⟩)⟩
          · gi_wp2
            go_roundw
            case rel => exact ⟨at_ + 4, pre ++ [y], by go_num, by omega, by simp; omega, hJ3, hk1.trans hk3, by intro z hz; rcases List.mem_append.1 hz with h | h; exact he0 z h; simp at h; subst h; exact hy2, hEc.symm, by rw [List.map_append, List.append_assoc]; simpa [hy1] using hL⟩
            case measure => simp [intOf]; omega
          · gi_wp2
            refine bodyPost_ret (results_none rfl _ _ _) rfl ?_
            exact ⟨⟨_, rfl⟩, .inr ⟨_, ⟨_, y.1, by rw [List.map_append]; rfl, .inl hy2⟩, hJx3⟩⟩
        · obtain ⟨fn, tmps, assign, body, hy, hR⟩ := key (some ⟨bb, o + (at_ + 4), none⟩) (by rw [if_neg hcc, Option.map_some, Addr.add_lit])
          gi_wp2
          refine hR.mono ?_
          rintro e W3 ⟨y, hy1, hy2, (⟨rfl, hJ3, hk3⟩ | ⟨rfl, hJx3⟩)⟩
          · gi_wp2
            go_roundw
            case rel => exact ⟨at_ + 4 + n1, pre ++ [y], by go_num, by omega, by simp; omega, hJ3, hk1.trans hk3, by intro z hz; rcases List.mem_append.1 hz with h | h; exact he0 z h; simp at h; subst h; exact hy2, hEc.symm, by rw [List.map_append, List.append_assoc]; simpa [hy1] using hL⟩
            case measure => simp [intOf]; omega
          · gi_wp2
            refine bodyPost_ret (results_none rfl _ _ _) rfl ?_
            exact ⟨⟨_, rfl⟩, .inr ⟨_, ⟨_, y.1, by rw [List.map_append]; rfl, .inl hy2⟩, hJx3⟩⟩
      · rw [if_neg hz] at hEc ⊢
        obtain ⟨fn, tmps, assign, body, hy, hR⟩ := hY pre ⟨⟨none, 0, [], e0⟩, Rd.nil _ _, Nat.le_refl _, Nat.zero_le _, by simp⟩ w1 hj1 (by omega)
        dsimp only [Item.encs, List.length_nil] at hy
        gi_wp2
        refine hR.mono ?_
        rintro e W3 (⟨rfl, hJ3, hk3⟩ | ⟨rfl, hJx3⟩)
        · gi_wp2
          refine bodyPost_ret (results_none rfl _ _ _) rfl ?_
          exact ⟨⟨_, rfl⟩, .inl ⟨_, .inr ⟨_, List.mem_map.2 ⟨_, List.mem_append_right _ (List.mem_singleton.2 rfl), rfl⟩, hz⟩, hJ3⟩⟩
        · gi_wp2
          refine bodyPost_ret (results_none rfl _ _ _) rfl ?_
          exact ⟨⟨_, rfl⟩, .inr ⟨_, ⟨_, ⟨none, 0, [], e0⟩, by rw [List.map_append]; rfl, .inr ⟨hEc.symm, by rw [hEc]; exact hz⟩⟩, hJx3⟩⟩
    · obtain rfl : at_ = b.length := by omega
      gi_wp2
      go_end0
      refine ⟨⟨_, rfl⟩, .inl ⟨pre, .inl ⟨?_, ?_, ?_⟩, hj⟩⟩
      · rw [← hE, List.drop_length]; rfl
      · rw [← hL, List.drop_length, rL_nil, List.append_nil, List.map_map]; rfl
      · intro x hx
        obtain ⟨y, hy, rfl⟩ := List.mem_map.1 hx
        exact he0 y hy
end Go.Proofs.YtnoglodggchgpabDoor
