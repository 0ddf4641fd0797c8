/-
  Layer 6's law: the chapter's first examples.
-/
import Derived.Test.YtfjkcdccnbggnaaDoorOneT
import Derived.Test.YtfjkcdccnbggnaaDoorTreeLq
import Derived.Test.YtfjkcdccnbggnaaDoorConvC
import Derived.Test.YtfjkcdccnbggnaaDoorBits
import Derived.Test.YtfjkcdccnbggnaaDoorTagX
import Derived.Test.YtfjkcdccnbggnaaDoorRefE
namespace Go.Proofs.YtfjkcdccnbggnaaDoor
open Go.RowKit
set_option linter.unusedVariables false
set_option linter.unusedSimpArgs false
set_option maxRecDepth 100000

theorem slotU8a : Slot Tryd.prog UInt8 24 5 (.int .u8 0) 1 where
  under := Tryd.underlying24
  info := by kernel_rfl
  zero := rfl
  pos := by decide
theorem row_heap1 {α : Type} [Enc α] {F : Nat → Prop} {w : World} {x : α} {cs : List Value} {g : Nat} {E : TypeId} {fr : Nat × Nat} (h : Enc.rep F w x cs) (hg : w.heap[g]? = some (.cells cs.toArray E fr)) : Row (fun b => F b ∨ b = g) w (some ⟨g, 0, none⟩) [x] := fun _ =>
  ⟨g, 0, rfl, .inr rfl, (Array.getElem?_eq_some_iff.1 hg).1, fun j y hy => by
    rcases j with _ | j
    · injection hy with hy
      subst hy
      refine ⟨cs, Enc.mono h fun b hb _ => .inl hb, fun i v hv => ?_⟩
      rw [cell_of_row w g _ _ E fr hg, Nat.zero_mul, Nat.add_zero, Nat.zero_add, List.getElem?_toArray]
      exact hv
    · cases hy⟩
set_option maxHeartbeats 4000000 in
theorem alive6_any (w : World) (hT : Tab w) : Calls Tryd.prog 25 #[] w fun e w' => e = .returned (.bool true) ∧ Below w.heap.size w w' := by
  have hb0 := hid built_tr0
  have hut := Tryd.underlying44
  have hu := Tryd.underlying23
  have hd3 := hid (built_dg1 3)
  have hS : Calls Tryd.prog 27 #[.agg zTrC] w _ := PTSum_any (fun _ => False) none 0 [] 0 w (Row.nil _ _ _) (by decide) hT
  rw [nil_may, if_pos rfl] at hS
  have hP := hid (fun (W : World) (A : Option Addr) (hrd : Rd W A [97]) => (show Calls Tryd.prog 20 #[.agg zTrC, .agg ((dfst 3).1.map bv).toArray, .slice A 1 1] W _ from PTPut_any (fun _ => False) none A 0 1 [] 0 (dfst 3) [97] W (Row.nil _ _ _) (by decide) hrd (by decide) (by decide)))
  rw [show tputT ⟨[], 0⟩ (dfst 3) [97] = oneT from rfl, one_E] at hP
  have h1000 : oneT.ns.length ≤ 1000000 := Nat.le_trans one_nodes (by decide)
  have hQ := hid (fun F A c W hW => PTPairs_any F A c oneT.ns oneT.root W hW h1000)
  rw [show (⟨oneT.ns, oneT.root⟩ : Tr) = oneT from rfl, one_pairs, one_may, if_pos rfl] at hQ
  have hA := hid (fun F A c W hW => PTAt_any F A c oneT.ns oneT.root 0 W hW h1000)
  rw [show (⟨oneT.ns, oneT.root⟩ : Tr) = oneT from rfl, one_at, one_at0] at hA
  have hR := hid (fun F A c W hW => PTPairs_any F A c oneT.ns 0 W hW h1000)
  rw [one_pairs0, one_may0, if_pos rfl] at hR
  simp only [List.length_cons, List.length_nil, Nat.zero_add] at hQ hR
  have hN := hid (fun W hTW => TNone_any W hTW)
  have hE : ∀ W, (Op.equalIn 10000 23 (.agg ((sumM ⟨[], 0⟩).1.map bv).toArray) (.agg ((sha256 [0]).map bv).toArray)).run Tryd.prog W = .ok true W := fun W => by
    rw [← nil_sum]
    exact eqd_is (sumM ⟨[], 0⟩) (sumM ⟨[], 0⟩) true (by simp) W
  have hiD := hid (sizeDg (sumM ⟨[], 0⟩))
  have zd : ((sumM ⟨[], 0⟩).1.map bv).toArray.size = 32 := by simp [(sumM ⟨[], 0⟩).2]
  have zo := bvs_all (sumM ⟨[], 0⟩).1
  have hSq := hid (fun F G A D c d W hW hV => RSameP_any F G A D c d 1 1 [⟨dfst 3, [97]⟩] [⟨dfst 3, [97]⟩] W hW hV rfl rfl (by decide) (by decide))
  rw [decide_eq_true rfl] at hSq
  have hbp := hid (fun A c => built_pr (dfst 3) (.slice A 1 c) rfl)
  have hlp := hid (fun A c => len_pr (dfst 3) (.slice A 1 c))
  have hrp := hid (fun (W : World) (g : Nat) (h : Rd W (some ⟨g, 0, none⟩) [97]) => rep_pr_mk (F := fun _ => True) (w := W) (dfst 3) [97] (some ⟨g, 0, none⟩) 1 (by decide) (by decide) (h.row fun _ _ _ => trivial))
  have hlow := hid hT.low
  generalize oneT.ns = ns at *
  generalize oneT.root = root at *
  generalize (sumM ⟨[], 0⟩).1.map bv = dR at *
  generalize (sha256 [0]).map bv = dN at *
  generalize hd3e : (dfst 3).1.map bv = d3 at *
  replace hS := hid hS
  replace hd3e := hid hd3e
  go_enter Tryd.func25, Tryd.ntmps25
  go_wp2_with (first
    | ((with_reducible refine wpList_built rfl 44 _ rfl zTrC [] ?_ ?_ ?_); exact hb0.out; rfl))
  refine hS.out.mono ?_
  rintro e w1 ⟨rfl, hb⟩
  have W1 := hid hb
  have T1 := hid (hT.bel hb hlow.out)
  have e1 := hid (heap_alloc_new w1 (.cells z32 23))
  clear hb hS
  go_wp2_with (first
    | (with_reducible refine wpList_alloc_row rfl 23 rfl z32 info32 ?_)
    | ((with_reducible refine wpList_store_row rfl 23 (.tmp 1) (.tmp 14) rfl _ _ rfl rfl 23 z32 ?_ ?_ ?_ ?_ ?_); exact e1.out; (rw [zd]; exact size32); (rw [zd]; exact z32_size); exact zo; intro w2 hg2 hb2 hs2; have X2 := hid (xnewP rfl hb2); have W2 := hid (W1.out.trans (X2.out.mono W1.out.size)); have T2 := hid (T1.out.bel X2.out (Nat.lt_of_lt_of_le hlow.out W1.out.size)); have Y2 := hid (rangeOf hg2); have kc := fun C n c => conv_lit w2 C n c; clear hg2 hb2 hs2)
    | ((with_reducible refine wpList_built rfl 44 _ rfl zTrC [] ?_ ?_ ?_); exact hb0.out; rfl)
    | ((with_reducible refine wpList_built rfl 23 _ rfl d3.toArray [(0, .int .u8 3)] ?_ ?_ ?_); exact hd3.out; rfl))
  have B3 := ext_alloc w2 (.cells #[.int .u8 97] 5 (1, 2))
  have hrd3 := Rd.litf w2 5 [97] #[.int .u8 97] w2.heap.size (1, 2) rfl rfl
  have Y3 := hid (rangeBel2 B3 Y2.out)
  have T3 := hid (T2.out.bel B3 (Nat.lt_of_lt_of_le hlow.out W2.out.size))
  have W3 := hid (W2.out.trans (B3.mono W2.out.size))
  clear Y2 T2 W2
  clear kc B3
  refine (hP.out _ (some ⟨w2.heap.size, 0, none⟩) hrd3).mono ?_
  rintro e w4 ⟨A4, c4, rfl, ho, hb⟩
  have Y4 := hid (rangeBel2 hb Y3.out)
  have T4 := hid (T3.out.bel hb (Nat.lt_of_lt_of_le hlow.out W3.out.size))
  have W4 := hid (W3.out.trans (hb.mono W3.out.size))
  clear Y3 T3 W3
  have O4 := hid (OwnR.row ho)
  have e4 := hid (heap_alloc_new w4 (.cells zTrC 44))
  have iO := hid (show (Tryd.prog.info? 44).map (·.size) = some ([Value.slice A4 ns.length c4, .int .i64 root]).length from sizeTr)
  clear hb ho hP hrd3
  go_wp2_with (first
    | (with_reducible refine wpList_alloc_row rfl 44 rfl zTrC zInfoTr ?_)
    | ((with_reducible refine wpList_store_row rfl 44 (.tmp 3) (.tmp 22) rfl _ _ rfl rfl 44 zTrC ?_ ?_ ?_ ?_ ?_); exact e4.out; exact sizeTr; rfl; exact one_trP A4 ns.length c4 root; intro w5 hg5 hb5 hs5; have X5 := hid (xnewP rfl hb5); have D5 := hid (BoxT.of (rangeOf (l := [Value.slice A4 ns.length c4, .int .i64 root]) hg5)); clear hg5 hb5 hs5; have Y5 := hid (rangeBel2 X5.out Y4.out); have T5 := hid (T4.out.bel X5.out (Nat.lt_of_lt_of_le hlow.out W4.out.size)); have W5 := hid (W4.out.trans (X5.out.mono W4.out.size)); have O5 := hid (O4.out.bel X5.out); clear Y4 T4 W4 O4)
    | ((with_reducible refine wpList_load_rng rfl 44 (.tmp 3) rfl w4.heap.size 0 rfl [Value.slice A4 ns.length c4, .int .i64 root] _ ?_ hut rfl iO.out ?_); exact D5.out.all))
  refine (hQ.out _ A4 c4 _ O5.out).mono ?_
  rintro e w6 ⟨A6, c6, rfl, ho, hb⟩
  have Y6 := hid (rangeBel2 hb Y5.out)
  have T6 := hid (T5.out.bel hb (Nat.lt_of_lt_of_le hlow.out W5.out.size))
  have W6 := hid (W5.out.trans (hb.mono W5.out.size))
  have O6 := hid (O5.out.bel hb)
  have D6 := hid (D5.out.bel hb)
  clear Y5 T5 W5 O5 D5
  have q6 := hid (OwnR.row ho)
  clear hb ho hQ
  go_wp2_with (first
    | ((with_reducible refine wpList_load_rng rfl 44 (.tmp 3) rfl w4.heap.size 0 rfl [Value.slice A4 ns.length c4, .int .i64 root] _ ?_ hut rfl iO.out ?_); exact D6.out.all))
  refine (hA.out _ A4 c4 _ O6.out).mono ?_
  rintro e w7 ⟨A7, c7, rfl, ho, hb⟩
  have Y7 := hid (rangeBel2 hb Y6.out)
  have T7 := hid (T6.out.bel hb (Nat.lt_of_lt_of_le hlow.out W6.out.size))
  have W7 := hid (W6.out.trans (hb.mono W6.out.size))
  have O7 := hid (O6.out.bel hb)
  have D7 := hid (D6.out.bel hb)
  have q7 := hid (q6.out.bel hb)
  clear Y6 T6 W6 O6 D6 q6
  have P7 := hid (OwnR.row ho)
  have e7 := hid (heap_alloc_new w7 (.cells zTrC 44))
  have iP := hid (show (Tryd.prog.info? 44).map (·.size) = some ([Value.slice A7 ns.length c7, .int .i64 0]).length from sizeTr)
  clear hb ho hA D7 O7
  go_wp2_with (first
    | (with_reducible refine wpList_alloc_row rfl 44 rfl zTrC zInfoTr ?_)
    | ((with_reducible refine wpList_store_row rfl 44 (.tmp 7) (.tmp 32) rfl _ _ rfl rfl 44 zTrC ?_ ?_ ?_ ?_ ?_); exact e7.out; exact sizeTr; rfl; exact one_trP A7 ns.length c7 0; intro w8 hg8 hb8 hs8; have X8 := hid (xnewP rfl hb8); have E8 := hid (BoxT.of (rangeOf (l := [Value.slice A7 ns.length c7, .int .i64 0]) hg8)); clear hg8 hb8 hs8; have Y8 := hid (rangeBel2 X8.out Y7.out); have T8 := hid (T7.out.bel X8.out (Nat.lt_of_lt_of_le hlow.out W7.out.size)); have W8 := hid (W7.out.trans (X8.out.mono W7.out.size)); have q8 := hid (q7.out.bel X8.out); have P8 := hid (P7.out.bel X8.out); clear Y7 T7 W7 q7 P7)
    | ((with_reducible refine wpList_load_rng rfl 44 (.tmp 7) rfl w7.heap.size 0 rfl [Value.slice A7 ns.length c7, .int .i64 0] _ ?_ hut rfl iP.out ?_); exact E8.out.all))
  refine (hR.out _ A7 c7 _ P8.out).mono ?_
  rintro e w9 ⟨A9, c9, rfl, ho, hb⟩
  have Y9 := hid (rangeBel2 hb Y8.out)
  have T9 := hid (T8.out.bel hb (Nat.lt_of_lt_of_le hlow.out W8.out.size))
  have W9 := hid (W8.out.trans (hb.mono W8.out.size))
  have q9 := hid (q8.out.bel hb)
  have P9 := hid (P8.out.bel hb)
  clear Y8 T8 W8 q8 P8
  clear hb ho hR P9
  go_wp2
  refine wp_region_noPanic ?_
  refine wp_region_held_drew (S := fun w' => Below w9.heap.size w9 w') (by kernel_rfl) ?_ (fun hHeld => ?_)
  · exact bel_drew w9
  refine' wpAnyH_take (i := 0) (oi := _) (v := ?_) rfl (by kernel_rfl) (by kernel_rfl) (by kernel_rfl) (fun _ _ _ h => h) (Or.inl ⟨by rfl, ?_⟩) (by assumption) ?_
  rotate_left
  · intro W hSw
    go_simp
    first | done | (with_reducible rfl)
  try simp only [Act.put, sQa, sQb, sQc, gQa, gQb, gQc]
  refine' wpAnyH_take (i := 1) (oi := _) (v := ?_) rfl (by kernel_rfl) (by kernel_rfl) (by kernel_rfl) (fun _ _ _ h => h) (Or.inl ⟨by rfl, ?_⟩) (by assumption) ?_
  rotate_left
  · intro W hSw
    go_simp
    first | done | (with_reducible rfl)
  try simp only [Act.put, sQa, sQb, sQc, gQa, gQb, gQc]
  refine' wpAnyH_take (i := 2) (oi := _) (v := ?_) rfl (by kernel_rfl) (by kernel_rfl) (by kernel_rfl) (fun _ _ _ h => h) (Or.inl ⟨by rfl, ?_⟩) (by assumption) ?_
  rotate_left
  · intro W hSw
    go_simp
    first | done | (with_reducible rfl)
  try simp only [Act.put, sQa, sQb, sQc, gQa, gQb, gQc]
  refine' wpAnyH_take (i := 3) (oi := _) (v := _) rfl (by kernel_rfl) (by kernel_rfl) (by kernel_rfl) (fun _ _ _ h => h) (yieldsIf_load_mid (by rfl) _ _ rfl _ _ rfl _ _ (fun _ h => rangeBel2 h Y9.out) hu rfl hiD.out) (by assumption) ?_
  try simp only [Act.put, sQa, sQb, sQc, gQa, gQb, gQc]
  refine wpAnyH_ready (rs := [4]) (by kernel_rfl) (by simp) ?_
  refine AllReadyH.cons (o := _) rfl (fun K hK => ?_) AllReadyH.nil
  go_simp
  refine (hN.out _ (T9.out.bel hHeld (Nat.lt_of_lt_of_le hlow.out W9.out.size))).mono ?_
  rintro e10 w10 ⟨rfl, hB⟩
  go_wp2_with fail
  refine hK.out _ _ ?_ (fun hHeld => ?_)
  · exact hHeld.trans (hB.mono hHeld.size)
  clear hK K
  try simp only [Act.put, sQa, sQb, sQc, gQa, gQb, gQc]
  refine' wpAnyH_take (i := 5) (oi := _) (v := ?_) rfl (by kernel_rfl) (by kernel_rfl) (by kernel_rfl) (fun _ _ _ h => h) (Or.inl ⟨by rfl, ?_⟩) (by assumption) ?_
  rotate_left
  · intro W hSw
    go_simp
    first | done | (with_reducible rfl)
  try simp only [Act.put, sQa, sQb, sQc, gQa, gQb, gQc]
  refine' wpAnyH_take (i := 6) (oi := _) (v := ?_) rfl (by kernel_rfl) (by kernel_rfl) (by kernel_rfl) (fun _ _ _ h => h) (Or.inl ⟨by rfl, ?_⟩) (by assumption) ?_
  rotate_left
  · intro W hSw
    go_simp
    first | done | (with_reducible rfl)
  try simp only [Act.put, sQa, sQb, sQc, gQa, gQb, gQc]
  refine' wpAnyH_take (i := 7) (oi := _) (v := ?_) rfl (by kernel_rfl) (by kernel_rfl) (by kernel_rfl) (fun _ _ _ h => h) (Or.inl ⟨by rfl, ?_⟩) (by assumption) ?_
  rotate_left
  · intro W hSw
    go_simp
    first | done | (with_reducible rfl)
  try simp only [Act.put, sQa, sQb, sQc, gQa, gQb, gQc]
  refine' wpAnyH_take (i := 8) (oi := _) (v := ?_) rfl (by kernel_rfl) (by kernel_rfl) (by kernel_rfl) (fun _ _ _ h => h) (Or.inl ⟨by rfl, ?_⟩) (by assumption) ?_
  rotate_left
  · intro W hSw
    go_simp
    first | done | (with_reducible rfl)
  try simp only [Act.put, sQa, sQb, sQc, gQa, gQb, gQc]
  refine' wpAnyH_take (i := 9) (oi := _) (v := ?_) rfl (by kernel_rfl) (by kernel_rfl) (by kernel_rfl) (fun _ _ _ h => h) (Or.inl ⟨by rfl, ?_⟩) (by assumption) ?_
  rotate_left
  · intro W hSw
    go_simp
    first | done | (with_reducible rfl)
  try simp only [Act.put, sQa, sQb, sQc, gQa, gQb, gQc]
  refine' wpAnyH_take (i := 10) (oi := _) (v := ?_) rfl (by kernel_rfl) (by kernel_rfl) (by kernel_rfl) (fun _ _ _ h => h) (Or.inl ⟨by rfl, ?_⟩) (by assumption) ?_
  rotate_left
  · intro W hSw
    go_simp
    first | done | (with_reducible rfl)
  try simp only [Act.put, sQa, sQb, sQc, gQa, gQb, gQc]
  refine' wpAnyH_take (i := 11) (oi := _) (v := ?_) rfl (by kernel_rfl) (by kernel_rfl) (by kernel_rfl) (fun _ _ _ h => h) (Or.inl ⟨by rfl, ?_⟩) (by assumption) ?_
  rotate_left
  · intro W hSw
    go_simp
    first | done | (with_reducible rfl)
  try simp only [Act.put, sQa, sQb, sQc, gQa, gQb, gQc]
  refine' wpAnyH_take (i := 12) (oi := _) (v := ?_) rfl (by kernel_rfl) (by kernel_rfl) (by kernel_rfl) (fun _ _ _ h => h) (Or.inl ⟨by rfl, ?_⟩) (by assumption) ?_
  rotate_left
  · intro W hSw
    go_simp
    first | done | (with_reducible rfl)
  try simp only [Act.put, sQa, sQb, sQc, gQa, gQb, gQc]
  refine' wpAnyH_take (i := 13) (oi := _) (v := ?_) rfl (by kernel_rfl) (by kernel_rfl) (by kernel_rfl) (fun _ _ _ h => h) (Or.inl ⟨by rfl, ?_⟩) (by assumption) ?_
  rotate_left
  · intro W hSw
    go_simp
    first | done | (with_reducible rfl)
  try simp only [Act.put, sQa, sQb, sQc, gQa, gQb, gQc]
  refine' wpAnyH_take (i := 14) (oi := _) (v := ?_) rfl (by kernel_rfl) (by kernel_rfl) (by kernel_rfl) (fun _ _ _ h => h) (Or.inl ⟨by rfl, ?_⟩) (by assumption) ?_
  rotate_left
  · intro W hSw
    go_simp
    first | done | (with_reducible rfl)
  try simp only [Act.put, sQa, sQb, sQc, gQa, gQb, gQc]
  refine' wpAnyH_take (i := 15) (oi := _) (v := ?_) rfl (by kernel_rfl) (by kernel_rfl) (by kernel_rfl) (fun _ _ _ h => h) (Or.inl ⟨by rfl, ?_⟩) (by assumption) ?_
  rotate_left
  · intro W hSw
    go_simp
    first | done | (with_reducible rfl)
  try simp only [Act.put, sQa, sQb, sQc, gQa, gQb, gQc]
  refine' wpAnyH_take (i := 16) (oi := _) (v := ?_) rfl (by kernel_rfl) (by kernel_rfl) (by kernel_rfl) (fun _ _ _ h => h) (Or.inl ⟨by rfl, ?_⟩) (by assumption) ?_
  rotate_left
  · intro W hSw
    go_simp
    first | done | (with_reducible rfl)
  try simp only [Act.put, sQa, sQb, sQc, gQa, gQb, gQc]
  refine' wpAnyH_take (i := 17) (oi := _) (v := _) rfl (by kernel_rfl) (by kernel_rfl) (by kernel_rfl) (fun _ _ _ h => h) (yieldsIf_build (by rfl) _ _ rfl _ _ (hd3.out) rfl) (by assumption) ?_
  try simp only [Act.put, sQa, sQb, sQc, gQa, gQb, gQc]
  refine wpAnyH_ready (rs := [18]) (by kernel_rfl) (by simp) ?_
  refine AllReadyH.cons (o := _) rfl (fun K hK => ?_) AllReadyH.nil
  refine step_build1 slotU8a (by decide) (by rfl) (.const (.int .u8 97)) rfl [bv 97] rfl rfl ?_
  intro g8 w11 b8 f8 hB
  have m8 := Nat.le_trans hHeld.size b8
  refine hK.out _ _ ?_ (fun hHeld => ?_)
  · exact hHeld.trans (hB.mono hHeld.size)
  clear hK K
  try simp only [Act.put, sQa, sQb, sQc, gQa, gQb, gQc]
  refine wpAnyH_ready (rs := [19]) (by kernel_rfl) (by simp) ?_
  refine AllReadyH.cons (o := _) rfl (fun K hK => ?_) AllReadyH.nil
  refine step_convC (by rfl) 24 (.tmp 57) rfl g8 1 1 #[bv 97] 5 rfl f8 Tryd.underlying24 Tryd.underlying5 ?_
  intro w12 fr f12 hch
  have s12 := hch.size
  refine hK.out _ _ ?_ (fun hHeld => ?_)
  · exact hHeld.trans ((hch.below (B := w9.heap.size) (by have := hHeld.size; omega) (fun b hb e => by omega)))
  clear hK K
  try simp only [Act.put, sQa, sQb, sQc, gQa, gQb, gQc]
  refine' wpAnyH_take (i := 20) (oi := _) (v := _) rfl (by kernel_rfl) (by kernel_rfl) (by kernel_rfl) (fun _ _ _ h => h) (yieldsIf_build (by rfl) _ _ rfl _ _ (hbp.out (some ⟨g8, 0, none⟩) 1) rfl) (by assumption) ?_
  try simp only [Act.put, sQa, sQb, sQc, gQa, gQb, gQc]
  refine wpAnyH_ready (rs := [21]) (by kernel_rfl) (by simp) ?_
  refine AllReadyH.cons (o := _) rfl (fun K hK => ?_) AllReadyH.nil
  refine step_build1 slotPr (by decide) (by rfl) (.tmp 59) rfl (d3 ++ [Value.slice (some ⟨g8, 0, none⟩) 1 1]) rfl (hlp.out _ _) ?_
  intro g9 w13 b9 f13 hB
  refine hK.out _ _ ?_ (fun hHeld => ?_)
  · exact hHeld.trans (hB.mono hHeld.size)
  clear hK K
  try simp only [Act.put, sQa, sQb, sQc, gQa, gQb, gQc]
  refine wpAnyH_ready (rs := [22]) (by kernel_rfl) (by simp) ?_
  refine AllReadyH.cons (o := _) rfl (fun K hK => ?_) AllReadyH.nil
  go_simp
  refine (hSq.out _ _ A6 (some ⟨g9, 0, none⟩) c6 1 _ (q9.out.bel hHeld) (row_heap1 (hrp.out _ g8 (rd_frz (l := [97]) ((hB.block _ (block_lt f12)).trans f12))) f13)).mono ?_
  rintro e14 w14 ⟨rfl, hB⟩
  go_wp2_with fail
  refine hK.out _ _ ?_ (fun hHeld => ?_)
  · exact hHeld.trans (hB.mono hHeld.size)
  clear hK K
  try simp only [Act.put, sQa, sQb, sQc, gQa, gQb, gQc]
  refine' wpAnyH_take (i := 23) (oi := _) (v := ?_) rfl (by kernel_rfl) (by kernel_rfl) (by kernel_rfl) (fun _ _ _ h => h) (Or.inl ⟨by rfl, ?_⟩) (by assumption) ?_
  rotate_left
  · intro W hSw
    go_simp
    first | done | (with_reducible rfl)
  try simp only [Act.put, sQa, sQb, sQc, gQa, gQb, gQc]
  refine' wpAnyH_take (i := 24) (oi := _) (v := ?_) rfl (by kernel_rfl) (by kernel_rfl) (by kernel_rfl) (fun _ _ _ h => h) (Or.inl ⟨by rfl, ?_⟩) (by assumption) ?_
  rotate_left
  · intro W hSw
    go_simp
    first | done | (with_reducible rfl)
  try simp only [Act.put, sQa, sQb, sQc, gQa, gQb, gQc]
  refine' wpAnyH_take (i := 25) (oi := _) (v := ?_) rfl (by kernel_rfl) (by kernel_rfl) (by kernel_rfl) (fun _ _ _ h => h) (Or.inl ⟨by rfl, ?_⟩) (by assumption) ?_
  rotate_left
  · intro W hSw
    go_simp
    first | done | (with_reducible rfl)
  try simp only [Act.put, sQa, sQb, sQc, gQa, gQb, gQc]
  refine' wpAnyH_take (i := 26) (oi := _) (v := ?_) rfl (by kernel_rfl) (by kernel_rfl) (by kernel_rfl) (fun _ _ _ h => h) (Or.inl ⟨by rfl, ?_⟩) (by assumption) ?_
  rotate_left
  · intro W hSw
    go_simp
    first | done | (with_reducible rfl)
  try simp only [Act.put, sQa, sQb, sQc, gQa, gQb, gQc]
  refine' wpAnyH_take (i := 27) (oi := _) (v := ?_) rfl (by kernel_rfl) (by kernel_rfl) (by kernel_rfl) (fun _ _ _ h => h) (Or.inl ⟨by rfl, ?_⟩) (by assumption) ?_
  rotate_left
  · intro W hSw
    go_simp
    first | done | (with_reducible rfl)
  try simp only [Act.put, sQa, sQb, sQc, gQa, gQb, gQc]
  refine' wpAnyH_take (i := 28) (oi := _) (v := ?_) rfl (by kernel_rfl) (by kernel_rfl) (by kernel_rfl) (fun _ _ _ h => h) (Or.inl ⟨by rfl, ?_⟩) (by assumption) ?_
  rotate_left
  · intro W hSw
    go_simp
    first | done | (with_reducible rfl)
  try simp only [Act.put, sQa, sQb, sQc, gQa, gQb, gQc]
  refine' wpAnyH_take (i := 29) (oi := _) (v := ?_) rfl (by kernel_rfl) (by kernel_rfl) (by kernel_rfl) (fun _ _ _ h => h) (Or.inl ⟨by rfl, ?_⟩) (by assumption) ?_
  rotate_left
  · intro W hSw
    go_simp
    first | done | (with_reducible rfl)
  try simp only [Act.put, sQa, sQb, sQc, gQa, gQb, gQc]
  refine' wpAnyH_take (i := 30) (oi := _) (v := ?_) rfl (by kernel_rfl) (by kernel_rfl) (by kernel_rfl) (fun _ _ _ h => h) (Or.inl ⟨by rfl, ?_⟩) (by assumption) ?_
  rotate_left
  · intro W hSw
    go_simp
    first | done | (with_reducible rfl)
  try simp only [Act.put, sQa, sQb, sQc, gQa, gQb, gQc]
  refine' wpAnyH_take (i := 31) (oi := _) (v := ?_) rfl (by kernel_rfl) (by kernel_rfl) (by kernel_rfl) (fun _ _ _ h => h) (Or.inl ⟨by rfl, ?_⟩) (by assumption) ?_
  rotate_left
  · intro W hSw
    go_simp
    first | done | (with_reducible rfl)
  try simp only [Act.put, sQa, sQb, sQc, gQa, gQb, gQc]
  refine' wpAnyH_take (i := 32) (oi := _) (v := ?_) rfl (by kernel_rfl) (by kernel_rfl) (by kernel_rfl) (fun _ _ _ h => h) (Or.inl ⟨by rfl, ?_⟩) (by assumption) ?_
  rotate_left
  · intro W hSw
    go_simp
    first | done | (with_reducible rfl)
  try simp only [Act.put, sQa, sQb, sQc, gQa, gQb, gQc]
  refine' wpAnyH_take (i := 33) (oi := _) (v := ?_) rfl (by kernel_rfl) (by kernel_rfl) (by kernel_rfl) (fun _ _ _ h => h) (Or.inl ⟨by rfl, ?_⟩) (by assumption) ?_
  rotate_left
  · intro W hSw
    go_simp
    first | done | (with_reducible rfl)
  try simp only [Act.put, sQa, sQb, sQc, gQa, gQb, gQc]
  refine' wpAnyH_take (i := 34) (oi := _) (v := ?_) rfl (by kernel_rfl) (by kernel_rfl) (by kernel_rfl) (fun _ _ _ h => h) (Or.inl ⟨by rfl, ?_⟩) (by assumption) ?_
  rotate_left
  · intro W hSw
    go_simp
    first | done | (with_reducible rfl)
  try simp only [Act.put, sQa, sQb, sQc, gQa, gQb, gQc]
  refine' wpAnyH_take (i := 35) (oi := _) (v := ?_) rfl (by kernel_rfl) (by kernel_rfl) (by kernel_rfl) (fun _ _ _ h => h) (Or.inl ⟨by rfl, ?_⟩) (by assumption) ?_
  rotate_left
  · intro W hSw
    go_simp
    first | done | (with_reducible rfl)
  try simp only [Act.put, sQa, sQb, sQc, gQa, gQb, gQc]
  refine' wpAnyH_take (i := 36) (oi := _) (v := ?_) rfl (by kernel_rfl) (by kernel_rfl) (by kernel_rfl) (fun _ _ _ h => h) (Or.inl ⟨by rfl, ?_⟩) (by assumption) ?_
  rotate_left
  · intro W hSw
    go_simp
    first | done | (with_reducible rfl)
  try simp only [Act.put, sQa, sQb, sQc, gQa, gQb, gQc]
  refine' wpAnyH_take (i := 37) (oi := _) (v := ?_) rfl (by kernel_rfl) (by kernel_rfl) (by kernel_rfl) (fun _ _ _ h => h) (Or.inl ⟨by rfl, ?_⟩) (by assumption) ?_
  rotate_left
  · intro W hSw
    go_simp
    first | done | (with_reducible rfl)
  try simp only [Act.put, sQa, sQb, sQc, gQa, gQb, gQc]
  refine wpAnyH_done (by kernel_rfl) ?_ _
  refine NoPanic.normal ?_
  go_wp2
  go_ret
  exact ⟨rfl, W9.out.trans (hHeld.mono W9.out.size)⟩
end Go.Proofs.YtfjkcdccnbggnaaDoor
