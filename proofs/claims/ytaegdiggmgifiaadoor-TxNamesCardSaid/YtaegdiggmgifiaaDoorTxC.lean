/-
  Contracts of the landed package tx: Bytes.
-/
import Derived.Test.YtaegdiggmgifiaaDoorTxB
namespace Go.Proofs.YtaegdiggmgifiaaDoor
open Go.RowKit
set_option linter.unusedVariables false
set_option linter.unusedSimpArgs false
set_option maxRecDepth 100000

theorem step_buildDg {w : World} {ops : Array Oper} {o : Oper} {a : Act} {K : Act → World → Prop} {Q : Exit → Act → World → Prop} {X : Prop} (hg : o.guard = none)
    (x : Operand) (hop : o.op = .buildSlice 77 1 #[(0, x)]) (d : Dg) (hx : (a.eval x).cells = (d.1.map bv).toArray)
    (hK : ∀ g w', w.heap.size = g → g + 1 ≤ w'.heap.size → Row (fun b => g ≤ b ∧ b < g + 1) w' (some ⟨g, 0, none⟩) [d] → Below w.heap.size w w' → K (a.put o.dst (.slice (some ⟨g, 0, none⟩) 1 1)) w') : if Region.wanted o (yielded ops a.tmps) = true then Oper.wp Tryd.prog o a w K Q else X :=
  step_buildOne slotDgX (by decide) hg x hop (d.1.map bv) hx (by rw [List.length_map]; exact d.2) (hK _ _ rfl (by rw [World.size_alloc]; exact Nat.le_refl _) (by have := row_dgsX (w := w) [d] 23; simpa using this) (ext_alloc _ _))
set_option maxHeartbeats 2000000 in
theorem PTxBytes_any (x : Tx) (hx : x.ok) (w : World) : Calls Tryd.prog 14 #[.agg (txC x).toArray] w fun e w' => ∃ A c, e = .returned (.slice A 120 c) ∧ Own 5 w' w.heap.size A c (bytesX x) ∧ Below w.heap.size w w' := by
  have hu := Tryd.underlying23
  have hux := Tryd.underlying26
  have B0 := BoxX.new w x 26
  have W0 := hid (ext_alloc w (.cells (txC x).toArray 26))
  have hs0 := hid (show (w.alloc (.cells (txC x).toArray 26)).heap.size = w.heap.size + 1 from World.size_alloc _ _)
  have hBd := hid (fun W => PTxBody_any x hx W)
  have X0 := hid B0.all
  have r0 := hid B0.s
  have jx := hid (sizeTx x)
  have js := hid (sizeDxL x.s)
  have lb := body_len x
  obtain ⟨d, hd⟩ : ∃ d, x.s = d := ⟨_, rfl⟩
  have hz : bytesX x = bodyX x ++ dgsB [d] := by rw [dgsB_one, ← hd]; rfl
  have lz : (bodyX x ++ dgsB [d]).length = 120 := by rw [← hz]; exact bytesX_len x
  have hP := hid (fun g A c (W : World) (w1 : World) (hB : w1.heap.size ≤ W.heap.size) (ho : Own 5 W w1.heap.size A c (bodyX x)) (hr : Row (fun b => g ≤ b ∧ b < g + 1) W (some ⟨g, 0, none⟩) [d]) (hT : g + 1 ≤ W.heap.size) (hz : Zone A g (g + 1)) => PTxPutD_any (fun b => g ≤ b ∧ b < g + 1) w1.heap.size g (g + 1) A (some ⟨g, 0, none⟩) c 1 (bodyX x) [d] W ho hB hr (fun _ h => h) hT hz (by rw [lb]; decide) (by simp))
  rw [lz, lb, show ([d] : List Dg).length = 1 from rfl] at hP
  rw [hd] at r0 js
  rw [hz]
  clear hz lz lb B0 hd
  generalize bodyX x ++ dgsB [d] = z at *
  generalize bodyX x = zb at *
  generalize txC x = cx at *
  go_enter Tryd.func14, Tryd.ntmps14
  go_wp2
  generalize w.alloc (.cells cx.toArray 26) = w1 at *
  refine wp_region_noPanic ?_
  refine wp_region_held_drew (S := fun w' => Below w1.heap.size w1 w') (by kernel_rfl) ?_ (fun hHeld => ?_)
  · exact bel_drew w1
  refine' wpAnyH_take (i := 0) (oi := _) (v := _) rfl (by kernel_rfl) (by kernel_rfl) (by kernel_rfl) (fun _ _ _ h => h) (yieldsIf_load_mid (by rfl) _ _ rfl _ _ rfl _ _ (fun _ h => rangeBel2 h X0.out) hux rfl jx.out) (by assumption) ?_
  try simp only [Act.put, sQa, sQb, sQc, gQa, gQb, gQc]
  refine' wpAnyH_take (i := 2) (oi := _) (v := ?_) rfl (by kernel_rfl) (by kernel_rfl) (by kernel_rfl) (fun _ _ _ h => h) (Or.inl ⟨by rfl, ?_⟩) (by assumption) ?_
  rotate_left
  · intro W hSw
    go_simp
    first | done | (with_reducible rfl)
  try simp only [Act.put, sQa, sQb, sQc, gQa, gQb, gQc]
  refine' wpAnyH_take (i := 3) (oi := _) (v := _) rfl (by kernel_rfl) (by kernel_rfl) (by kernel_rfl) (fun _ _ _ h => h) (yieldsIf_load_mid (by rfl) _ _ rfl _ _ rfl _ _ (fun _ h => rangeBel2 h r0.out) hu rfl js.out) (by assumption) ?_
  try simp only [Act.put, sQa, sQb, sQc, gQa, gQb, gQc]
  refine wpAnyH_ready (rs := [1, 4]) (by kernel_rfl) (by simp) ?_
  refine AllReadyH.cons (o := _) rfl (fun K hK => ?_) ?_
  · skip
    go_simp
    refine (hBd.out _).mono ?_
    rintro e v1 ⟨A2, c2, rfl, oo, hB⟩
    try have zA : Zone A2 g4 (g4 + 1) := fun a ha => .inr (by have := (oo.blk a ha).1; omega)
    try replace r4 := r4.bel hB
    try replace l4 := Nat.le_trans l4 hB.size
    have o2 := oo.base (B' := w1.heap.size) hHeld.size
    go_wp2_with fail
    refine hK.out _ _ ?_ (fun hHeld => ?_)
    · exact hHeld.trans (hB.mono hHeld.size)
    clear hK K
    try simp only [Act.put, sQa, sQb, sQc, gQa, gQb, gQc]
    refine wpAnyH_ready (rs := [4]) (by kernel_rfl) (by simp) ?_
    refine AllReadyH.cons (o := _) rfl (fun K hK => ?_) AllReadyH.nil
    refine step_buildDg rfl (.tmp 6) rfl d rfl ?_
    intro g4 w4 e4 l4 r4 hB
    try have zA : Zone A2 g4 (g4 + 1) := fun a ha => .inl (by have := (o2.blk a ha).2; omega)
    try replace o2 := o2.bel hB
    refine hK.out _ _ ?_ (fun hHeld => ?_)
    · exact hHeld.trans (hB.mono hHeld.size)
    clear hK K
    try simp only [Act.put, sQa, sQb, sQc, gQa, gQb, gQc]
    refine wpAnyH_ready (rs := [5]) (by kernel_rfl) (by simp) ?_
    refine AllReadyH.cons (o := _) rfl (fun K hK => ?_) AllReadyH.nil
    go_simp
    refine (hP.out g4 A2 c2 _ w1 hHeld.size o2 r4 l4 zA).mono ?_
    rintro e v5 ⟨A5, c5, rfl, o5, hB⟩
    go_wp2_with fail
    refine hK.out _ _ ?_ (fun hHeld => ?_)
    · exact hHeld.trans hB
    clear hK K
    try simp only [Act.put, sQa, sQb, sQc, gQa, gQb, gQc]
    refine' wpAnyH_take (i := 6) (oi := _) (v := ?_) rfl (by kernel_rfl) (by kernel_rfl) (by kernel_rfl) (fun _ _ _ h => h) (Or.inl ⟨by rfl, ?_⟩) (by assumption) ?_
    rotate_left
    · intro W hSw
      go_simp
      first | done | (with_reducible rfl)
    try simp only [Act.put, sQa, sQb, sQc, gQa, gQb, gQc]
    refine wpAnyH_done (by kernel_rfl) ?_ _
    refine NoPanic.normal ?_
    go_wp2
    go_ret
    exact ⟨_, _, rfl, o5.base (by rw [hs0.out]; exact Nat.le_succ _), W0.out.trans (hHeld.mono (by rw [hs0.out]; exact Nat.le_succ _))⟩
  refine AllReadyH.cons (o := _) rfl (fun K hK => ?_) ?_
  · skip
    refine step_buildDg rfl (.tmp 6) rfl d rfl ?_
    intro g4 w4 e4 l4 r4 hB
    try have zA : Zone A2 g4 (g4 + 1) := fun a ha => .inl (by have := (o2.blk a ha).2; omega)
    try replace o2 := o2.bel hB
    refine hK.out _ _ ?_ (fun hHeld => ?_)
    · exact hHeld.trans (hB.mono hHeld.size)
    clear hK K
    try simp only [Act.put, sQa, sQb, sQc, gQa, gQb, gQc]
    refine wpAnyH_ready (rs := [1]) (by kernel_rfl) (by simp) ?_
    refine AllReadyH.cons (o := _) rfl (fun K hK => ?_) AllReadyH.nil
    go_simp
    refine (hBd.out _).mono ?_
    rintro e v1 ⟨A2, c2, rfl, oo, hB⟩
    try have zA : Zone A2 g4 (g4 + 1) := fun a ha => .inr (by have := (oo.blk a ha).1; omega)
    try replace r4 := r4.bel hB
    try replace l4 := Nat.le_trans l4 hB.size
    have o2 := oo.base (B' := w1.heap.size) hHeld.size
    go_wp2_with fail
    refine hK.out _ _ ?_ (fun hHeld => ?_)
    · exact hHeld.trans (hB.mono hHeld.size)
    clear hK K
    try simp only [Act.put, sQa, sQb, sQc, gQa, gQb, gQc]
    refine wpAnyH_ready (rs := [5]) (by kernel_rfl) (by simp) ?_
    refine AllReadyH.cons (o := _) rfl (fun K hK => ?_) AllReadyH.nil
    go_simp
    refine (hP.out g4 A2 c2 _ w1 hHeld.size o2 r4 l4 zA).mono ?_
    rintro e v5 ⟨A5, c5, rfl, o5, hB⟩
    go_wp2_with fail
    refine hK.out _ _ ?_ (fun hHeld => ?_)
    · exact hHeld.trans hB
    clear hK K
    try simp only [Act.put, sQa, sQb, sQc, gQa, gQb, gQc]
    refine' wpAnyH_take (i := 6) (oi := _) (v := ?_) rfl (by kernel_rfl) (by kernel_rfl) (by kernel_rfl) (fun _ _ _ h => h) (Or.inl ⟨by rfl, ?_⟩) (by assumption) ?_
    rotate_left
    · intro W hSw
      go_simp
      first | done | (with_reducible rfl)
    try simp only [Act.put, sQa, sQb, sQc, gQa, gQb, gQc]
    refine wpAnyH_done (by kernel_rfl) ?_ _
    refine NoPanic.normal ?_
    go_wp2
    go_ret
    exact ⟨_, _, rfl, o5.base (by rw [hs0.out]; exact Nat.le_succ _), W0.out.trans (hHeld.mono (by rw [hs0.out]; exact Nat.le_succ _))⟩
  exact AllReadyH.nil
end Go.Proofs.YtaegdiggmgifiaaDoor
