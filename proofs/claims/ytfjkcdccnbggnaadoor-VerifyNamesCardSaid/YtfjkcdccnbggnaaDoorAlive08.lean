/-
  Layer 8's law: the chapter's first examples.
-/
import Derived.Test.YtfjkcdccnbggnaaDoorVfX
import Derived.Test.YtfjkcdccnbggnaaDoorRef07b
import Derived.Test.YtfjkcdccnbggnaaDoorPfK
namespace Go.Proofs.YtfjkcdccnbggnaaDoor
open Go.RowKit
set_option linter.unusedVariables false
set_option linter.unusedSimpArgs false
set_option maxRecDepth 100000

theorem slotU8 : Slot Tryd.prog UInt8 24 5 (.int .u8 0) 1 where
  under := Tryd.underlying24
  info := by kernel_rfl
  zero := rfl
  pos := by decide
theorem step_buildOneG {P : Program} {α : Type} [Enc α] {S E : TypeId} {z : Value} {bytes : Nat} (hS : Slot P α S E z bytes) (hsm : Enc.size α ≤ 16777216) {w : World} {ops : Array Oper} {o : Oper} {a : Act} {K : Act → World → Prop} {Q : Exit → Act → World → Prop} {X : Prop} (hw : Region.wanted o (yielded ops a.tmps) = true)
    (x : Operand) (hop : o.op = .buildSlice S 1 #[(0, x)]) (cs : List Value) (hx : (a.eval x).cells = cs.toArray) (hcs : cs.length = Enc.size α)
    (hK : K (a.put o.dst (.slice (some ⟨w.heap.size, 0, none⟩) 1 1)) (w.alloc (.cells cs.toArray E))) : if Region.wanted o (yielded ops a.tmps) = true then Oper.wp P o a w K Q else X := by
  rw [if_pos hw]
  exact wp_buildOne hS hsm x hop cs hx hcs hK
theorem may0 : mayF pf0 = true := by decide +kernel
theorem in0 : inP pf0 = [[0]] := by decide +kernel
theorem root0 : (rootM pf0).1 = sha256 [0] := by
  have : rootM pf0 = rootV pf0 := by unfold rootM; rw [may0]; rfl
  rw [this]
  show sha256 ((inP pf0).headD []) = _
  rw [in0]
  rfl
set_option maxHeartbeats 2000000 in
theorem alive8_any (w : World) (hT : Tab w) : Calls Tryd.prog 38 #[] w fun e w' => e = .returned (.bool true) ∧ Below w.heap.size w w' := by
  have hb0 := hid (show Tryd.prog.built 61 [] = some (pfC pf0 none 0 none 0).toArray by kernel_rfl)
  have hI := fun W hTW => VfInputsE_any pf0 none 0 none 0 (fun _ => False) true W may0 (fun h => absurd h (by decide)) (Nat.le_refl _) (Nat.zero_le _) (Row.nil _ _ _) hTW
  have hR := fun W hTW => VfRoot_any pf0 none 0 none 0 (fun _ => False) true W may0 (fun h => absurd h (by decide)) (Nat.le_refl _) (Nat.zero_le _) (Row.nil _ _ _) hTW
  simp only [↓reduceIte, in0] at hI hR
  have hN := hid (fun W hTW => TNone_any W hTW)
  have hu := Tryd.underlying23
  have hiD := hid (sizeDg (rootM pf0))
  have zd : ((rootM pf0).1.map bv).toArray.size = 32 := by simp [(rootM pf0).2]
  have zo := bvs_all (rootM pf0).1
  have hE : ∀ W, (Op.equalIn 10000 23 (.agg ((rootM pf0).1.map bv).toArray) (.agg ((sha256 [0]).map bv).toArray)).run Tryd.prog W = .ok true W := fun W => by
    rw [← root0]
    exact eqd_is (rootM pf0) (rootM pf0) true (by simp) W
  have hlow := hid hT.low
  have hs8 := slotU8
  replace hI := hid hI
  replace hR := hid hR
  clear hs8
  generalize (pfC pf0 none 0 none 0).toArray = cs at *
  generalize (rootM pf0).1.map bv = dR at *
  generalize (sha256 [0]).map bv = dN at *
  go_enter Tryd.func38, Tryd.ntmps38
  go_wp2_with (first
    | ((with_reducible refine wpList_built rfl 61 _ rfl cs [] ?_ ?_ ?_); exact hb0.out; rfl))
  refine (hI.out _ hT).mono ?_
  rintro e w1 ⟨A1, c1, rfl, ho, hb⟩
  have T1 := hid (hT.bel hb hlow.out)
  have W1 := hid hb
  obtain ⟨b9, o9, hA9, hc9⟩ := (RowO.row ho).rds (by simp)
  subst hA9
  obtain ⟨A2, c2, hcell, hrd, k1⟩ := hc9 0 [0] rfl
  rw [Nat.add_zero] at hcell
  clear ho hc9 hb
  go_wp2_with (first
    | ((with_reducible refine wpList_built rfl 61 _ rfl cs [] ?_ ?_ ?_); exact hb0.out; rfl))
  refine (hR.out _ T1.out).mono ?_
  rintro e w2 ⟨rfl, hb⟩
  have T2 := hid (T1.out.bel hb (Nat.lt_of_lt_of_le hlow.out W1.out.size))
  have W2 := hid (W1.out.trans (hb.mono W1.out.size))
  have hcell2 := (hb.cell (World.block_lt_of_cell? _ _ hcell)).trans hcell
  have hrd2 := hid (hrd.bel hb)
  have e2 := hid (heap_alloc_new w2 (.cells z32 23))
  clear hb T1 hcell hrd
  go_wp2_with (first
    | (with_reducible refine wpList_alloc_row rfl 23 rfl z32 info32 ?_)
    | ((with_reducible refine wpList_store_row rfl 23 (.tmp 3) (.tmp 13) rfl _ _ rfl rfl 23 z32 ?_ ?_ ?_ ?_ ?_); exact e2.out; (rw [zd]; exact size32); (rw [zd]; exact z32_size); exact zo; intro w3 hg3 hb3 hs3; have X3 := hid (xnewP rfl hb3); have W3 := hid (W2.out.trans (X3.out.mono W2.out.size)); have r3 := hid (rangeOf hg3); have T3 := hid (T2.out.bel X3.out (Nat.lt_of_lt_of_le hlow.out W2.out.size)); have hrd3 := hid (hrd2.out.bel X3.out); have hcell3 := (X3.out.cell (World.block_lt_of_cell? _ _ hcell2)).trans hcell2; clear hg3 hb3 hs3))
  have hl3 := hid (Nat.lt_of_lt_of_le hlow.out W3.out.size)
  clear hcell2 hrd2 e2 T2 W2 W1
  refine wp_region_noPanic ?_
  refine wp_region_held_drew (S := fun w' => Below w3.heap.size w3 w') (by kernel_rfl) ?_ (fun hHeld => ?_)
  · exact bel_drew w3
  refine' wpAnyH_take (i := 0) (oi := _) (v := ?_) rfl (by kernel_rfl) (by kernel_rfl) (by kernel_rfl) (fun _ _ _ h => h) (Or.inl ⟨by rfl, ?_⟩) (by assumption) ?_
  rotate_left
  · intro W hSw
    go_simp
    first | done | (with_reducible rfl)
  try simp only [Act.put, sQa, sQb, sQc, gQa, gQb, gQc]
  refine' wpAnyH_take (i := 1) (oi := _) (v := ?_) rfl (by kernel_rfl) (by kernel_rfl) (by kernel_rfl) (fun _ _ _ h => h) (Or.inl ⟨by rfl, ?_⟩) (by assumption) ?_
  rotate_left
  · intro W hSw
    go_simp
    first | done | (with_reducible rfl)
  try simp only [Act.put, sQa, sQb, sQc, gQa, gQb, gQc]
  refine' wpAnyH_take (i := 2) (oi := _) (v := ?_) rfl (by kernel_rfl) (by kernel_rfl) (by kernel_rfl) (fun _ _ _ h => h) (Or.inl ⟨by rfl, ?_⟩) (by assumption) ?_
  rotate_left
  · intro W hSw
    go_simp
    first | done | (with_reducible rfl)
  try simp only [Act.put, sQa, sQb, sQc, gQa, gQb, gQc]
  refine' wpAnyH_take (i := 3) (oi := _) (v := ?_) rfl (by kernel_rfl) (by kernel_rfl) (by kernel_rfl) (fun _ _ _ h => h) (Or.inl ⟨by rfl, ?_⟩) (by assumption) ?_
  rotate_left
  · intro W hSw
    go_simp
    first | done | (with_reducible rfl)
  try simp only [Act.put, sQa, sQb, sQc, gQa, gQb, gQc]
  refine' wpAnyH_take (i := 4) (oi := _) (v := ?_) rfl (by kernel_rfl) (by kernel_rfl) (by kernel_rfl) (fun _ _ _ h => h) (Or.inl ⟨by rfl, ?_⟩) (by assumption) ?_
  rotate_left
  · intro W hSw
    go_simp
    first | done | (with_reducible rfl)
  try simp only [Act.put, sQa, sQb, sQc, gQa, gQb, gQc]
  refine' wpAnyH_take (i := 5) (oi := _) (v := ?_) rfl (by kernel_rfl) (by kernel_rfl) (by kernel_rfl) (fun _ _ _ h => h) (Or.inl ⟨by rfl, ?_⟩) (by assumption) ?_
  rotate_left
  · intro W hSw
    go_simp
    first | done | (with_reducible rfl)
  try simp only [Act.put, sQa, sQb, sQc, gQa, gQb, gQc]
  refine' wpAnyH_take (i := 6) (oi := _) (v := ?_) rfl (by kernel_rfl) (by kernel_rfl) (by kernel_rfl) (fun _ _ _ h => h) (Or.inl ⟨by rfl, ?_⟩) (by assumption) ?_
  rotate_left
  · intro W hSw
    go_simp
    first | done | (with_reducible rfl)
  try simp only [Act.put, sQa, sQb, sQc, gQa, gQb, gQc]
  refine' wpAnyH_take (i := 7) (oi := _) (v := ?_) rfl (by kernel_rfl) (by kernel_rfl) (by kernel_rfl) (fun _ _ _ h => h) (Or.inl ⟨by rfl, ?_⟩) (by assumption) ?_
  rotate_left
  · intro W hSw
    go_simp
    first | done | (with_reducible rfl)
  try simp only [Act.put, sQa, sQb, sQc, gQa, gQb, gQc]
  refine' wpAnyH_take (i := 8) (oi := _) (v := ?_) rfl (by kernel_rfl) (by kernel_rfl) (by kernel_rfl) (fun _ _ _ h => h) (Or.inl ⟨by rfl, ?_⟩) (by assumption) ?_
  rotate_left
  · intro W hSw
    go_simp
    first | done | (with_reducible rfl)
  try simp only [Act.put, sQa, sQb, sQc, gQa, gQb, gQc]
  refine' wpAnyH_take (i := 9) (oi := _) (v := ?_) rfl (by kernel_rfl) (by kernel_rfl) (by kernel_rfl) (fun _ _ _ h => h) (Or.inl ⟨by rfl, ?_⟩) (by assumption) ?_
  rotate_left
  · intro W hSw
    go_simp
    first | done | (with_reducible rfl)
  try simp only [Act.put, sQa, sQb, sQc, gQa, gQb, gQc]
  refine' wpAnyH_take (i := 10) (oi := _) (v := ?_) rfl (by kernel_rfl) (by kernel_rfl) (by kernel_rfl) (fun _ _ _ h => h) (Or.inl ⟨by rfl, ?_⟩) (by assumption) ?_
  rotate_left
  · intro W hSw
    have hCell := (hSw.cell (World.block_lt_of_cell? _ _ hcell3)).trans hcell3
    go_simp
    first | done | (with_reducible rfl)
  try simp only [Act.put, sQa, sQb, sQc, gQa, gQb, gQc]
  refine wpAnyH_ready (rs := [11]) (by kernel_rfl) (by simp) ?_
  refine AllReadyH.cons (o := _) rfl (fun K hK => ?_) AllReadyH.nil
  refine step_buildOneG slotU8 (by decide) (by rfl) (.const (.int .u8 0)) rfl [bv 0] rfl rfl ?_
  have hB9 := ext_alloc w3.drew (.cells [bv 0].toArray 5)
  refine hK.out _ _ ?_ (fun hHeld => ?_)
  · exact hHeld.trans (hB9.mono hHeld.size)
  clear hK K
  try simp only [Act.put, sQa, sQb, sQc, gQa, gQb, gQc]
  refine wpAnyH_ready (rs := [12]) (by kernel_rfl) (by simp) ?_
  refine AllReadyH.cons (o := _) rfl (fun K hK => ?_) AllReadyH.nil
  go_simp
  refine (RSame01_is _ _ _ _ [0] [0] true _ (hrd3.out.bel hHeld) (rd_blockP (l := [0]) (heap_alloc_new w3.drew (.cells [bv 0].toArray 5))) (by decide)).mono ?_
  rintro e8 w8 ⟨rfl, rfl⟩
  go_wp2_with fail
  refine hK.out _ _ ?_ (fun hHeld => ?_)
  · exact hHeld
  clear hK K
  try simp only [Act.put, sQa, sQb, sQc, gQa, gQb, gQc]
  refine' wpAnyH_take (i := 13) (oi := _) (v := ?_) rfl (by kernel_rfl) (by kernel_rfl) (by kernel_rfl) (fun _ _ _ h => h) (Or.inl ⟨by rfl, ?_⟩) (by assumption) ?_
  rotate_left
  · intro W hSw
    go_simp
    first | done | (with_reducible rfl)
  try simp only [Act.put, sQa, sQb, sQc, gQa, gQb, gQc]
  refine' wpAnyH_take (i := 14) (oi := _) (v := ?_) rfl (by kernel_rfl) (by kernel_rfl) (by kernel_rfl) (fun _ _ _ h => h) (Or.inl ⟨by rfl, ?_⟩) (by assumption) ?_
  rotate_left
  · intro W hSw
    go_simp
    first | done | (with_reducible rfl)
  try simp only [Act.put, sQa, sQb, sQc, gQa, gQb, gQc]
  refine' wpAnyH_take (i := 15) (oi := _) (v := ?_) rfl (by kernel_rfl) (by kernel_rfl) (by kernel_rfl) (fun _ _ _ h => h) (Or.inl ⟨by rfl, ?_⟩) (by assumption) ?_
  rotate_left
  · intro W hSw
    go_simp
    first | done | (with_reducible rfl)
  try simp only [Act.put, sQa, sQb, sQc, gQa, gQb, gQc]
  refine' wpAnyH_take (i := 16) (oi := _) (v := ?_) rfl (by kernel_rfl) (by kernel_rfl) (by kernel_rfl) (fun _ _ _ h => h) (Or.inl ⟨by rfl, ?_⟩) (by assumption) ?_
  rotate_left
  · intro W hSw
    go_simp
    first | done | (with_reducible rfl)
  try simp only [Act.put, sQa, sQb, sQc, gQa, gQb, gQc]
  refine' wpAnyH_take (i := 17) (oi := _) (v := ?_) rfl (by kernel_rfl) (by kernel_rfl) (by kernel_rfl) (fun _ _ _ h => h) (Or.inl ⟨by rfl, ?_⟩) (by assumption) ?_
  rotate_left
  · intro W hSw
    go_simp
    first | done | (with_reducible rfl)
  try simp only [Act.put, sQa, sQb, sQc, gQa, gQb, gQc]
  refine' wpAnyH_take (i := 18) (oi := _) (v := ?_) rfl (by kernel_rfl) (by kernel_rfl) (by kernel_rfl) (fun _ _ _ h => h) (Or.inl ⟨by rfl, ?_⟩) (by assumption) ?_
  rotate_left
  · intro W hSw
    go_simp
    first | done | (with_reducible rfl)
  try simp only [Act.put, sQa, sQb, sQc, gQa, gQb, gQc]
  refine' wpAnyH_take (i := 19) (oi := _) (v := _) rfl (by kernel_rfl) (by kernel_rfl) (by kernel_rfl) (fun _ _ _ h => h) (yieldsIf_load_mid (by rfl) _ _ rfl _ _ rfl _ _ (fun _ h => rangeBel2 h r3.out) hu rfl hiD.out) (by assumption) ?_
  try simp only [Act.put, sQa, sQb, sQc, gQa, gQb, gQc]
  refine wpAnyH_ready (rs := [20]) (by kernel_rfl) (by simp) ?_
  refine AllReadyH.cons (o := _) rfl (fun K hK => ?_) AllReadyH.nil
  go_simp
  refine (hN.out _ (T3.out.bel hHeld hl3.out)).mono ?_
  rintro e8 w8 ⟨rfl, hB⟩
  go_wp2_with fail
  refine hK.out _ _ ?_ (fun hHeld => ?_)
  · exact hHeld.trans (hB.mono hHeld.size)
  clear hK K
  try simp only [Act.put, sQa, sQb, sQc, gQa, gQb, gQc]
  refine' wpAnyH_take (i := 21) (oi := _) (v := ?_) rfl (by kernel_rfl) (by kernel_rfl) (by kernel_rfl) (fun _ _ _ h => h) (Or.inl ⟨by rfl, ?_⟩) (by assumption) ?_
  rotate_left
  · intro W hSw
    go_simp
    first | done | (with_reducible rfl)
  try simp only [Act.put, sQa, sQb, sQc, gQa, gQb, gQc]
  refine' wpAnyH_take (i := 22) (oi := _) (v := ?_) rfl (by kernel_rfl) (by kernel_rfl) (by kernel_rfl) (fun _ _ _ h => h) (Or.inl ⟨by rfl, ?_⟩) (by assumption) ?_
  rotate_left
  · intro W hSw
    go_simp
    first | done | (with_reducible rfl)
  try simp only [Act.put, sQa, sQb, sQc, gQa, gQb, gQc]
  refine' wpAnyH_take (i := 23) (oi := _) (v := ?_) rfl (by kernel_rfl) (by kernel_rfl) (by kernel_rfl) (fun _ _ _ h => h) (Or.inl ⟨by rfl, ?_⟩) (by assumption) ?_
  rotate_left
  · intro W hSw
    go_simp
    first | done | (with_reducible rfl)
  try simp only [Act.put, sQa, sQb, sQc, gQa, gQb, gQc]
  refine wpAnyH_done (by kernel_rfl) ?_ _
  refine NoPanic.normal ?_
  go_wp2
  go_ret
  exact ⟨rfl, W3.out.trans (hHeld.mono W3.out.size)⟩
end Go.Proofs.YtfjkcdccnbggnaaDoor
