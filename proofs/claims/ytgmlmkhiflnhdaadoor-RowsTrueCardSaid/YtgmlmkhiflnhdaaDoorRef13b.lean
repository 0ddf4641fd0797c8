/-
  The document's answers of layer 13: Root, Beside, Sides.
-/
import Derived.Test.YtgmlmkhiflnhdaaDoorRef13a
import Derived.Test.YtgmlmkhiflnhdaaDoorBits
namespace Go.Proofs.YtgmlmkhiflnhdaaDoor
open Go.RowKit
set_option linter.unusedVariables false
set_option linter.unusedSimpArgs false
set_option maxRecDepth 100000

theorem slotDg13 : Slot Tryd.prog Dg 22 29 (.agg z32) 32 where
  under := Tryd.underlying22
  info := by kernel_rfl
  zero := z32_size
  pos := by decide
/-- A slice of one digest laid, where an order is drawn. -/
theorem step_dg1 {w : World} {ops : Array Oper} {o : Oper} {a : Act} {K : Act → World → Prop} {Q : Exit → Act → World → Prop} {X : Prop} (hw : Region.wanted o (yielded ops a.tmps) = true)
    (x : Operand) (hop : o.op = .buildSlice 22 1 #[(0, x)]) (d : Dg) (hx : a.eval x = .agg (d.1.map bv).toArray)
    (hK : ∀ g w', Src (fun _ => False) w' (some ⟨g, 0, none⟩) [d] → Below w.heap.size w w' → K (a.put o.dst (.slice (some ⟨g, 0, none⟩) 1 1)) w') : if Region.wanted o (yielded ops a.tmps) = true then Oper.wp Tryd.prog o a w K Q else X := by
  rw [if_pos hw]
  exact wp_buildOne slotDg13 (by decide) x hop (d.1.map bv) (by rw [hx]; rfl) (by rw [List.length_map, d.2]; rfl) (hK _ _ (src_alloc (show Enc.rep (fun _ => False) w d (d.1.map bv) from rfl)) (ext_alloc w _))
set_option maxHeartbeats 8000000 in
theorem RBeside_step (A : Option Addr) (c : Nat) (ls : List (List UInt8)) (i : Nat) (w : World) (hi : i < ls.length)
    (ih : ∀ (A : Option Addr) (c : Nat) (ms : List (List UInt8)) (i : Nat) (w : World), ms.length < ls.length → i < ms.length → Rds w A ms → ms.length ≤ c → c ≤ maxLen → (∀ x ∈ ms, x.length ≤ 5000) →
      Calls Tryd.prog 32 #[.slice A ms.length c, .int .i64 (i : Int)] w fun e w' => ∃ A' c', e = .returned (.slice A' (sidesR ms i).length c') ∧ OwnR 29 w' w.heap.size A' c' (sidesR ms i) ∧ Below w.heap.size w w')
    (hr : Rds w A ls) (hc : ls.length ≤ c) (hm : c ≤ maxLen) (hx : ∀ x ∈ ls, x.length ≤ 5000) (hl : ls.length ≤ 1000000) :
    Calls Tryd.prog 32 #[.slice A ls.length c, .int .i64 (i : Int)] w fun e w' => ∃ A' c', e = .returned (.slice A' (sidesR ls i).length c') ∧ OwnR 29 w' w.heap.size A' c' (sidesR ls i) ∧ Below w.heap.size w w' := by
  by_cases h2 : 2 ≤ ls.length
  rotate_left
  · have h1 : ls.length = 1 := by omega
    rw [sidesR_one h2, h1]
    clear ih
    go_enter Tryd.func32, Tryd.ntmps32
    go_wp2
    go_ret
    exact ⟨none, 0, rfl, OwnR.nil _ _, Below.refl _ _⟩
  have f1 := firstN_pos ls.length
  have f2 := firstN_lt h2
  have hF := hid (fun W => RFirst13_any ls.length W h2 hl)
  have ht : (ls.take (firstN ls.length)).length = firstN ls.length := by rw [List.length_take]; omega
  have hd : (ls.drop (firstN ls.length)).length = ls.length - firstN ls.length := List.length_drop
  have su := hid (fun W => run_upto slotSlsR A ls.length c (firstN ls.length) (by omega) W)
  have sf := hid (fun W => run_from slotSlsR A ls.length c (firstN ls.length) (by omega) W)
  have q1 : ((ls.length : Int) == 1) = false := by rw [beq_eq_false_iff_ne]; omega
  by_cases hif : i < firstN ls.length
  · have hS1 := fun W (hW : Rds W A ls) => ih A c (ls.take (firstN ls.length)) i W (by omega) (by omega) (hW.take _) (by omega) hm (fun x h => hx x (List.take_subset _ _ h))
    have hI2 := fun W (hW : Rds W A ls) => ROfR_any _ (cutA A c (firstN ls.length) 1) (c - firstN ls.length) (ls.drop (firstN ls.length)) W (Nat.le_refl _) (hW.cutA _ c (by omega) hc) (by omega) (by omega) (fun x h => hx x (List.drop_subset _ _ h)) (by omega)
    rw [ht] at hS1
    rw [hd] at hI2
    rw [sidesR_left h2 hif]
    have hsl : (sidesR (ls.take (firstN ls.length)) i).length ≤ 1000000 := Nat.le_trans (sidesR_len (ls.take (firstN ls.length)).length _ _ (Nat.le_of_lt Nat.lt_two_pow_self)) (by omega)
    generalize sidesR (ls.take (firstN ls.length)) i = ss at *
    generalize rootR (ls.drop (firstN ls.length)) = d at *
    have q2 : decide ((i : Int) < (firstN ls.length : Int)) = true := decide_eq_true (by omega)
    replace hS1 := hid hS1
    replace hI2 := hid hI2
    replace hr := hid hr
    clear ih hx ht hd
    generalize firstN ls.length = fn at *
    go_enter Tryd.func32, Tryd.ntmps32
    go_wp2_with fail
    refine (hF.out _).mono ?_
    rintro e w1 ⟨rfl, rfl⟩
    go_wp2
    refine wp_region_noPanic ?_
    refine wp_region_held_drew (S := fun w' => Below w1.heap.size w1 w') (by kernel_rfl) ?_ (fun hHeld => ?_)
    · exact bel_drew w1
    refine' wpAnyH_take (i := 0) (oi := _) (v := ?_) rfl (by kernel_rfl) (by kernel_rfl) (by kernel_rfl) (fun _ _ _ h => h) (Or.inl ⟨by rfl, ?_⟩) (by assumption) ?_
    rotate_left
    · intro W hSw
      go_simp
      first | done | (with_reducible rfl)
    try simp only [Act.put, sQa, sQb, sQc, gQa, gQb, gQc]
    refine' wpAnyH_take (i := 1) (oi := _) (v := ?_) rfl (by kernel_rfl) (by kernel_rfl) (by kernel_rfl) (fun _ _ _ h => h) (Or.inl ⟨by rfl, ?_⟩) (by assumption) ?_
    rotate_left
    · intro W hSw
      go_simp
      first | done | (with_reducible rfl)
    try simp only [Act.put, sQa, sQb, sQc, gQa, gQb, gQc]
    refine' wpAnyH_take (i := 2) (oi := _) (v := _) rfl (by kernel_rfl) (by kernel_rfl) (by kernel_rfl) (fun _ _ _ h => h) (yieldsIf_slice (by rfl) _ _ _ _ _ rfl _ _ _ _ _ (su.out) rfl rfl rfl rfl) (by assumption) ?_
    try simp only [Act.put, sQa, sQb, sQc, gQa, gQb, gQc]
    refine' wpAnyH_take (i := 3) (oi := _) (v := ?_) rfl (by kernel_rfl) (by kernel_rfl) (by kernel_rfl) (fun _ _ _ h => h) (Or.inl ⟨by rfl, ?_⟩) (by assumption) ?_
    rotate_left
    · intro W hSw
      go_simp
      first | done | (with_reducible rfl)
    try simp only [Act.put, sQa, sQb, sQc, gQa, gQb, gQc]
    refine' wpAnyH_take (i := 5) (oi := _) (v := ?_) rfl (by kernel_rfl) (by kernel_rfl) (by kernel_rfl) (fun _ _ _ h => h) (Or.inl ⟨by rfl, ?_⟩) (by assumption) ?_
    rotate_left
    · intro W hSw
      go_simp
      first | done | (with_reducible rfl)
    try simp only [Act.put, sQa, sQb, sQc, gQa, gQb, gQc]
    refine' wpAnyH_take (i := 6) (oi := _) (v := ?_) rfl (by kernel_rfl) (by kernel_rfl) (by kernel_rfl) (fun _ _ _ h => h) (Or.inl ⟨by rfl, ?_⟩) (by assumption) ?_
    rotate_left
    · intro W hSw
      go_simp
      first | done | (with_reducible rfl)
    try simp only [Act.put, sQa, sQb, sQc, gQa, gQb, gQc]
    refine' wpAnyH_take (i := 7) (oi := _) (v := _) rfl (by kernel_rfl) (by kernel_rfl) (by kernel_rfl) (fun _ _ _ h => h) (yieldsIf_slice (by rfl) _ _ _ _ _ rfl _ _ _ _ _ (sf.out) rfl rfl rfl rfl) (by assumption) ?_
    try simp only [Act.put, sQa, sQb, sQc, gQa, gQb, gQc]
    refine wpAnyH_ready (rs := [4]) (by kernel_rfl) (by simp) ?_
    refine AllReadyH.cons (o := _) rfl (fun K hK => ?_) AllReadyH.nil
    go_simp
    refine (hS1.out _ (hr.out.bel hHeld)).mono ?_
    rintro e v4 ⟨A4, c4, rfl, o4, hB⟩
    have b4 := hid hHeld.size
    go_wp2_with fail
    refine hK.out _ _ ?_ (fun hHeld => ?_)
    · exact hHeld.trans (hB.mono hHeld.size)
    clear hK K
    try simp only [Act.put, sQa, sQb, sQc, gQa, gQb, gQc]
    refine wpAnyH_ready (rs := [8]) (by kernel_rfl) (by simp) ?_
    refine AllReadyH.cons (o := _) rfl (fun K hK => ?_) AllReadyH.nil
    go_simp
    refine (hI2.out _ (hr.out.bel hHeld)).mono ?_
    rintro e v8 ⟨rfl, hB⟩
    have o8 := o4.bel hB
    go_wp2_with fail
    refine hK.out _ _ ?_ (fun hHeld => ?_)
    · exact hHeld.trans (hB.mono hHeld.size)
    clear hK K
    try simp only [Act.put, sQa, sQb, sQc, gQa, gQb, gQc]
    refine wpAnyH_ready (rs := [9]) (by kernel_rfl) (by simp) ?_
    refine AllReadyH.cons (o := _) rfl (fun K hK => ?_) AllReadyH.nil
    refine step_dg1 (by rfl) (.tmp 23) rfl d rfl ?_
    intro g9 w9 s9 hB
    have o9 := o8.bel hB
    refine hK.out _ _ ?_ (fun hHeld => ?_)
    · exact hHeld.trans (hB.mono hHeld.size)
    clear hK K
    try simp only [Act.put, sQa, sQb, sQc, gQa, gQb, gQc]
    refine wpAnyH_ready (rs := [10]) (by kernel_rfl) (by simp) ?_
    refine AllReadyH.cons (o := _) rfl (fun K hK => ?_) AllReadyH.nil
    refine step_appOwn slotDg13 rfl (.tmp 19) (.tmp 24) rfl w1.drew.heap.size w1.drew.heap.size A4 _ ss.length 1 c4 1 ss [d] (fun _ => False) rfl rfl rfl rfl o9 s9 (fun b hb => hb.elim) (by simp; omega) hHeld.size ?_
    intro A10 c10 w10 o10 hB
    refine hK.out _ _ ?_ (fun hHeld => ?_)
    · exact hHeld.trans hB
    clear hK K
    try simp only [Act.put, sQa, sQb, sQc, gQa, gQb, gQc]
    refine' wpAnyH_take (i := 11) (oi := _) (v := ?_) rfl (by kernel_rfl) (by kernel_rfl) (by kernel_rfl) (fun _ _ _ h => h) (Or.inl ⟨by rfl, ?_⟩) (by assumption) ?_
    rotate_left
    · intro W hSw
      go_simp
      first | done | (with_reducible rfl)
    try simp only [Act.put, sQa, sQb, sQc, gQa, gQb, gQc]
    refine wpAnyH_done (by kernel_rfl) ?_ _
    refine NoPanic.normal ?_
    go_wp2
    go_ret
    exact ⟨A10, c10, by rw [show (ss ++ [d]).length = ss.length + 1 by simp]; rfl, o10, hHeld⟩
  · have hS1 := fun W (hW : Rds W A ls) => ih (cutA A c (firstN ls.length) 1) (c - firstN ls.length) (ls.drop (firstN ls.length)) (i - firstN ls.length) W (by omega) (by omega) (hW.cutA _ c (by omega) hc) (by omega) (by omega) (fun x h => hx x (List.drop_subset _ _ h))
    have hI2 := fun W (hW : Rds W A ls) => ROfR_any _ A c (ls.take (firstN ls.length)) W (Nat.le_refl _) (hW.take _) (by omega) hm (fun x h => hx x (List.take_subset _ _ h)) (by omega)
    rw [ht] at hI2
    rw [hd] at hS1
    rw [sidesR_right h2 hif]
    have hsl : (sidesR (ls.drop (firstN ls.length)) (i - firstN ls.length)).length ≤ 1000000 := Nat.le_trans (sidesR_len (ls.drop (firstN ls.length)).length _ _ (Nat.le_of_lt Nat.lt_two_pow_self)) (by omega)
    generalize sidesR (ls.drop (firstN ls.length)) (i - firstN ls.length) = ss at *
    generalize rootR (ls.take (firstN ls.length)) = d at *
    have q2 : decide ((i : Int) < (firstN ls.length : Int)) = false := decide_eq_false (by omega)
    have hw : IntKind.i64.wrap ((i : Int) - (firstN ls.length : Int)) = ((i - firstN ls.length : Nat) : Int) := by rw [IntWalk.i64_in _ (by omega)]; omega
    replace hS1 := hid hS1
    replace hI2 := hid hI2
    replace hr := hid hr
    clear ih hx ht hd
    generalize firstN ls.length = fn at *
    go_enter Tryd.func32, Tryd.ntmps32
    go_wp2_with fail
    refine (hF.out _).mono ?_
    rintro e w1 ⟨rfl, rfl⟩
    go_wp2
    refine wp_region_noPanic ?_
    refine wp_region_held_drew (S := fun w' => Below w1.heap.size w1 w') (by kernel_rfl) ?_ (fun hHeld => ?_)
    · exact bel_drew w1
    refine' wpAnyH_take (i := 0) (oi := _) (v := ?_) rfl (by kernel_rfl) (by kernel_rfl) (by kernel_rfl) (fun _ _ _ h => h) (Or.inl ⟨by rfl, ?_⟩) (by assumption) ?_
    rotate_left
    · intro W hSw
      go_simp
      first | done | (with_reducible rfl)
    try simp only [Act.put, sQa, sQb, sQc, gQa, gQb, gQc]
    refine' wpAnyH_take (i := 1) (oi := _) (v := ?_) rfl (by kernel_rfl) (by kernel_rfl) (by kernel_rfl) (fun _ _ _ h => h) (Or.inl ⟨by rfl, ?_⟩) (by assumption) ?_
    rotate_left
    · intro W hSw
      go_simp
      first | done | (with_reducible rfl)
    try simp only [Act.put, sQa, sQb, sQc, gQa, gQb, gQc]
    refine' wpAnyH_take (i := 2) (oi := _) (v := _) rfl (by kernel_rfl) (by kernel_rfl) (by kernel_rfl) (fun _ _ _ h => h) (yieldsIf_slice (by rfl) _ _ _ _ _ rfl _ _ _ _ _ (sf.out) rfl rfl rfl rfl) (by assumption) ?_
    try simp only [Act.put, sQa, sQb, sQc, gQa, gQb, gQc]
    refine' wpAnyH_take (i := 3) (oi := _) (v := ?_) rfl (by kernel_rfl) (by kernel_rfl) (by kernel_rfl) (fun _ _ _ h => h) (Or.inl ⟨by rfl, ?_⟩) (by assumption) ?_
    rotate_left
    · intro W hSw
      go_simp
      first | done | (with_reducible rfl)
    try simp only [Act.put, sQa, sQb, sQc, gQa, gQb, gQc]
    refine' wpAnyH_take (i := 4) (oi := _) (v := ?_) rfl (by kernel_rfl) (by kernel_rfl) (by kernel_rfl) (fun _ _ _ h => h) (Or.inl ⟨by rfl, ?_⟩) (by assumption) ?_
    rotate_left
    · intro W hSw
      go_simp
      first | done | (with_reducible rfl)
    try simp only [Act.put, sQa, sQb, sQc, gQa, gQb, gQc]
    refine' wpAnyH_take (i := 5) (oi := _) (v := ?_) rfl (by kernel_rfl) (by kernel_rfl) (by kernel_rfl) (fun _ _ _ h => h) (Or.inl ⟨by rfl, ?_⟩) (by assumption) ?_
    rotate_left
    · intro W hSw
      go_simp
      first | done | (with_reducible rfl)
    try simp only [Act.put, sQa, sQb, sQc, gQa, gQb, gQc]
    refine' wpAnyH_take (i := 7) (oi := _) (v := ?_) rfl (by kernel_rfl) (by kernel_rfl) (by kernel_rfl) (fun _ _ _ h => h) (Or.inl ⟨by rfl, ?_⟩) (by assumption) ?_
    rotate_left
    · intro W hSw
      go_simp
      first | done | (with_reducible rfl)
    try simp only [Act.put, sQa, sQb, sQc, gQa, gQb, gQc]
    refine' wpAnyH_take (i := 8) (oi := _) (v := ?_) rfl (by kernel_rfl) (by kernel_rfl) (by kernel_rfl) (fun _ _ _ h => h) (Or.inl ⟨by rfl, ?_⟩) (by assumption) ?_
    rotate_left
    · intro W hSw
      go_simp
      first | done | (with_reducible rfl)
    try simp only [Act.put, sQa, sQb, sQc, gQa, gQb, gQc]
    refine' wpAnyH_take (i := 9) (oi := _) (v := _) rfl (by kernel_rfl) (by kernel_rfl) (by kernel_rfl) (fun _ _ _ h => h) (yieldsIf_slice (by rfl) _ _ _ _ _ rfl _ _ _ _ _ (su.out) rfl rfl rfl rfl) (by assumption) ?_
    try simp only [Act.put, sQa, sQb, sQc, gQa, gQb, gQc]
    refine wpAnyH_ready (rs := [6]) (by kernel_rfl) (by simp) ?_
    refine AllReadyH.cons (o := _) rfl (fun K hK => ?_) AllReadyH.nil
    go_simp
    refine (hS1.out _ (hr.out.bel hHeld)).mono ?_
    rintro e v4 ⟨A4, c4, rfl, o4, hB⟩
    have b4 := hid hHeld.size
    go_wp2_with fail
    refine hK.out _ _ ?_ (fun hHeld => ?_)
    · exact hHeld.trans (hB.mono hHeld.size)
    clear hK K
    try simp only [Act.put, sQa, sQb, sQc, gQa, gQb, gQc]
    refine wpAnyH_ready (rs := [10]) (by kernel_rfl) (by simp) ?_
    refine AllReadyH.cons (o := _) rfl (fun K hK => ?_) AllReadyH.nil
    go_simp
    refine (hI2.out _ (hr.out.bel hHeld)).mono ?_
    rintro e v8 ⟨rfl, hB⟩
    have o8 := o4.bel hB
    go_wp2_with fail
    refine hK.out _ _ ?_ (fun hHeld => ?_)
    · exact hHeld.trans (hB.mono hHeld.size)
    clear hK K
    try simp only [Act.put, sQa, sQb, sQc, gQa, gQb, gQc]
    refine wpAnyH_ready (rs := [11]) (by kernel_rfl) (by simp) ?_
    refine AllReadyH.cons (o := _) rfl (fun K hK => ?_) AllReadyH.nil
    refine step_dg1 (by rfl) (.tmp 36) rfl d rfl ?_
    intro g9 w9 s9 hB
    have o9 := o8.bel hB
    refine hK.out _ _ ?_ (fun hHeld => ?_)
    · exact hHeld.trans (hB.mono hHeld.size)
    clear hK K
    try simp only [Act.put, sQa, sQb, sQc, gQa, gQb, gQc]
    refine wpAnyH_ready (rs := [12]) (by kernel_rfl) (by simp) ?_
    refine AllReadyH.cons (o := _) rfl (fun K hK => ?_) AllReadyH.nil
    refine step_appOwn slotDg13 rfl (.tmp 32) (.tmp 37) rfl w1.drew.heap.size w1.drew.heap.size A4 _ ss.length 1 c4 1 ss [d] (fun _ => False) rfl rfl rfl rfl o9 s9 (fun b hb => hb.elim) (by simp; omega) hHeld.size ?_
    intro A10 c10 w10 o10 hB
    refine hK.out _ _ ?_ (fun hHeld => ?_)
    · exact hHeld.trans hB
    clear hK K
    try simp only [Act.put, sQa, sQb, sQc, gQa, gQb, gQc]
    refine' wpAnyH_take (i := 13) (oi := _) (v := ?_) rfl (by kernel_rfl) (by kernel_rfl) (by kernel_rfl) (fun _ _ _ h => h) (Or.inl ⟨by rfl, ?_⟩) (by assumption) ?_
    rotate_left
    · intro W hSw
      go_simp
      first | done | (with_reducible rfl)
    try simp only [Act.put, sQa, sQb, sQc, gQa, gQb, gQc]
    refine wpAnyH_done (by kernel_rfl) ?_ _
    refine NoPanic.normal ?_
    go_wp2
    go_ret
    exact ⟨A10, c10, by rw [show (ss ++ [d]).length = ss.length + 1 by simp]; rfl, o10, hHeld⟩
theorem RBeside_any (k : Nat) : ∀ (A : Option Addr) (c : Nat) (ls : List (List UInt8)) (i : Nat) (w : World), ls.length ≤ k → i < ls.length → Rds w A ls → ls.length ≤ c → c ≤ maxLen → (∀ x ∈ ls, x.length ≤ 5000) → ls.length ≤ 1000000 →
    Calls Tryd.prog 32 #[.slice A ls.length c, .int .i64 (i : Int)] w fun e w' => ∃ A' c', e = .returned (.slice A' (sidesR ls i).length c') ∧ OwnR 29 w' w.heap.size A' c' (sidesR ls i) ∧ Below w.heap.size w w' := by
  induction k with
  | zero => exact fun A c ls i w hk hi => by omega
  | succ k ih => exact fun A c ls i w hk hi hr hc hm hx hl => RBeside_step A c ls i w hi (fun A c ms i w h hi hr hc hm hx => ih A c ms i w (by omega) hi hr hc hm hx (by omega)) hr hc hm hx hl
def z0R : Dg := ⟨List.replicate 32 0, rfl⟩
/-- What Root answers. -/
def rootRL (ls : List (List UInt8)) : Dg := if listR ls = true then rootR ls else z0R
/-- What Sides answers: the error, the sides. -/
def sidesE (ls : List (List UInt8)) (i : Int) : Int := if listR ls = true then (if i < 0 ∨ (ls.length : Int) ≤ i then 2 else 0) else 8
def sidesL (ls : List (List UInt8)) (i : Int) : List Dg := if sidesE ls i = 0 then sidesR ls i.toNat else []
theorem res_dg {fn : Func} {p u : Tmp} (h : fn.results = #[.cell p 29, .tmp u]) (tmps : Array Value) (w : World) (g : Nat) (d : Dg) (e1 : tmps.getD p undef = .pointer (some ⟨g, 0, none⟩))
    (hg : w.heap[g]? = some (.cells (d.1.map bv).toArray 29 (0, 0))) : (results fn tmps).run Tryd.prog w = .ok (.tuple #[.agg (d.1.map bv).toArray, tmps.getD u undef]) w := by
  have h2 := run_loadVar_mid (P := Tryd.prog) w g 0 29 (d.1.map bv) _ (rangeOf hg) Tryd.underlying29 rfl (by rw [List.length_map, d.2]; exact size32)
  rw [results_cell_tmp h, e1]
  simp only [asAddr, Sem.run_pure, Result.andThen_ok, h2]
theorem listR_iff {ls : List (List UInt8)} (h : listR ls = true) : ls.length ≤ 256 ∧ ∀ x ∈ ls, x.length ≤ 5000 := by
  unfold listR at h
  simp only [Bool.and_eq_true, decide_eq_true_eq, List.all_eq_true] at h
  exact ⟨h.1, fun x hx => Nat.le_trans (h.2 x hx) (by decide)⟩
theorem built_dgz : Tryd.prog.built 29 [] = some z32 := by kernel_rfl
set_option maxHeartbeats 2000000 in
theorem RRowsRoot_any (A : Option Addr) (c : Nat) (ls : List (List UInt8)) (w : World) (hr : Rds w A ls) (hc : ls.length ≤ c) (hm : c ≤ maxLen) (hl : ls.length ≤ 1000000) (hx : ∀ x ∈ ls, x.length ≤ 1000000) :
    Calls Tryd.prog 18 #[.slice A ls.length c] w fun e w' => e = .returned (.tuple #[.agg ((rootRL ls).1.map bv).toArray, .int .i64 (if listR ls = true then 0 else 8)]) ∧ Below w.heap.size w w' := by
  have h0 := hid (heap_alloc_new w (.cells z32 29))
  have W0 := hid (ext_alloc w (.cells z32 29))
  have hM := RListMay_any A c ls _ (hr.bel W0.out) hl hx
  obtain ⟨m, hmm⟩ : ∃ m, listR ls = m := ⟨_, rfl⟩
  have hL : rootRL ls = if m = true then rootR ls else z0R := by unfold rootRL; rw [hmm]
  rw [hmm] at hM ⊢
  rw [hL]
  cases m with
  | false =>
    simp only [Bool.false_eq_true, if_false]
    have hbz := hid built_dgz
    have oz : z32.all (·.oneCell') = true := bvs_all (List.replicate 32 0)
    replace hM := hid hM
    clear hL hr hx
    go_enter Tryd.func18, Tryd.ntmps18
    go_wp2_with (first
      | (with_reducible refine wpList_alloc_row rfl 29 rfl z32 info32 ?_))
    refine hM.out.mono ?_
    rintro e w1 ⟨rfl, rfl⟩
    go_wp2_with (first
      | ((with_reducible refine wpList_built rfl 29 _ rfl z32 [] ?_ ?_ ?_); exact hbz.out; rfl)
      | ((with_reducible refine wpList_store_row rfl 29 (.tmp 2) (.tmp 7) rfl w.heap.size _ rfl rfl 29 z32 ?_ ?_ ?_ ?_ ?_); exact h0.out; (rw [z32_size]; exact size32); rfl; exact oz; intro w4 hg4 hb4 hs4))
    exact bodyPost_ret (res_dg rfl _ _ w.heap.size z0R rfl hg4) rfl ⟨rfl, W0.out.grown hb4 W0.out.size (fun g e => by injection e with e; omega)⟩
  | true =>
    simp only [if_true]
    obtain ⟨l1, l2⟩ := listR_iff hmm
    have hO := ROfR_any _ A c ls _ (Nat.le_refl _) (hr.bel W0.out) hc hm l2 (by omega)
    generalize rootR ls = d at *
    have z1 : ((d.1.map bv).toArray).size = 32 := by simp [d.2]
    have o1 := bvs_all d.1
    replace hM := hid hM
    replace hO := hid hO
    clear hL hr hx l2
    go_enter Tryd.func18, Tryd.ntmps18
    go_wp2_with (first
      | (with_reducible refine wpList_alloc_row rfl 29 rfl z32 info32 ?_))
    refine hM.out.mono ?_
    rintro e w1 ⟨rfl, rfl⟩
    go_wp2_with fail
    refine hO.out.mono ?_
    rintro e w2 ⟨rfl, hb⟩
    have R2 := hid ((hb.block _ (block_lt h0.out)).trans h0.out)
    have W2 := hid (W0.out.trans (hb.mono W0.out.size))
    clear hb
    go_wp2_with (first
      | ((with_reducible refine wpList_store_row rfl 29 (.tmp 2) (.tmp 9) rfl w.heap.size _ rfl rfl 29 z32 ?_ ?_ ?_ ?_ ?_); exact R2.out; (rw [z1]; exact size32); (rw [z1]; exact z32_size); exact o1; intro w4 hg4 hb4 hs4))
    exact bodyPost_ret (res_dg rfl _ _ w.heap.size d rfl hg4) rfl ⟨rfl, W2.out.grown hb4 W2.out.size (fun g e => by injection e with e; omega)⟩
set_option maxHeartbeats 2000000 in
theorem RRowsSides_any (A : Option Addr) (c : Nat) (ls : List (List UInt8)) (i : Int) (w : World) (hr : Rds w A ls) (hc : ls.length ≤ c) (hm : c ≤ maxLen) (hl : ls.length ≤ 1000000) (hx : ∀ x ∈ ls, x.length ≤ 1000000) :
    Calls Tryd.prog 19 #[.slice A ls.length c, .int .i64 i] w fun e w' => ∃ A' c', e = .returned (.tuple #[.slice A' (sidesL ls i).length c', .int .i64 (sidesE ls i)]) ∧ OwnR 29 w' w.heap.size A' c' (sidesL ls i) ∧ Below w.heap.size w w' := by
  have hM := RListMay_any A c ls w hr hl hx
  obtain ⟨m, hmm⟩ : ∃ m, listR ls = m := ⟨_, rfl⟩
  rw [hmm] at hM
  cases m with
  | false =>
    have eE : sidesE ls i = 8 := by unfold sidesE; rw [hmm]; rfl
    have eL : sidesL ls i = [] := by unfold sidesL; rw [eE]; rfl
    rw [eE, eL]
    replace hM := hid hM
    clear eE eL hr hx
    go_enter Tryd.func19, Tryd.ntmps19
    go_wp2_with fail
    refine hM.out.mono ?_
    rintro e w1 ⟨rfl, rfl⟩
    go_wp2
    go_ret2
    exact ⟨none, 0, rfl, OwnR.nil _ _, Below.refl _ _⟩
  | true =>
    obtain ⟨l1, l2⟩ := listR_iff hmm
    by_cases hi : i < 0
    · have eE : sidesE ls i = 2 := by unfold sidesE; rw [hmm, if_pos rfl, if_pos (.inl hi)]
      have eL : sidesL ls i = [] := by unfold sidesL; rw [eE]; rfl
      rw [eE, eL]
      have q1 : decide (i < 0) = true := decide_eq_true hi
      replace hM := hid hM
      clear eE eL hr hx
      go_enter Tryd.func19, Tryd.ntmps19
      go_wp2_with fail
      refine hM.out.mono ?_
      rintro e w1 ⟨rfl, rfl⟩
      go_wp2
      go_ret2
      exact ⟨none, 0, rfl, OwnR.nil _ _, Below.refl _ _⟩
    have q1 : decide (i < 0) = false := decide_eq_false hi
    by_cases hj : (ls.length : Int) ≤ i
    · have eE : sidesE ls i = 2 := by unfold sidesE; rw [hmm, if_pos rfl, if_pos (.inr hj)]
      have eL : sidesL ls i = [] := by unfold sidesL; rw [eE]; rfl
      rw [eE, eL]
      have q2 : decide ((ls.length : Int) ≤ i) = true := decide_eq_true hj
      replace hM := hid hM
      clear eE eL hr hx
      go_enter Tryd.func19, Tryd.ntmps19
      go_wp2_with fail
      refine hM.out.mono ?_
      rintro e w1 ⟨rfl, rfl⟩
      go_wp2
      go_ret2
      exact ⟨none, 0, rfl, OwnR.nil _ _, Below.refl _ _⟩
    obtain ⟨n, rfl⟩ := Int.eq_ofNat_of_zero_le (show 0 ≤ i by omega)
    have eE : sidesE ls (n : Int) = 0 := by unfold sidesE; rw [hmm, if_pos rfl, if_neg (by omega)]
    have eL : sidesL ls (n : Int) = sidesR ls n := by unfold sidesL; rw [eE]; rfl
    rw [eE, eL]
    have q2 : decide ((ls.length : Int) ≤ (n : Int)) = false := decide_eq_false hj
    have hS := RBeside_any _ A c ls n w (Nat.le_refl _) (by omega) hr hc hm l2 (by omega)
    replace hM := hid hM
    replace hS := hid hS
    generalize sidesR ls n = ss at *
    clear eE eL hr hx l2
    go_enter Tryd.func19, Tryd.ntmps19
    go_wp2_with fail
    refine hM.out.mono ?_
    rintro e w1 ⟨rfl, rfl⟩
    go_wp2_with fail
    refine hS.out.mono ?_
    rintro e w2 ⟨A2, c2, rfl, o2, hb⟩
    go_wp2
    go_ret2
    exact ⟨A2, c2, rfl, o2, hb⟩
end Go.Proofs.YtgmlmkhiflnhdaaDoor
