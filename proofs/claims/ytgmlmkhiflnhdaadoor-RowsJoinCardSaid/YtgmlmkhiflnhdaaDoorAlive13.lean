/-
  Layer 13's laws: the chapter's rows, leaves and forks.
-/
import Derived.Test.YtgmlmkhiflnhdaaDoorRwE
import Derived.Test.YtgmlmkhiflnhdaaDoorBits
namespace Go.Proofs.YtgmlmkhiflnhdaaDoor
open Go.RowKit
set_option linter.unusedVariables false
set_option linter.unusedSimpArgs false
set_option maxRecDepth 100000

def abcR : List (List UInt8) := [[97], [98], [99]]
def laR : Dg := leafR [97]
def lbR : Dg := leafR [98]
def lcR : Dg := leafR [99]
theorem root_abc : rootR abcR = forkR (forkR laR lbR) lcR := by
  rw [rootR_more (by decide), show firstN abcR.length = 2 from by decide +kernel]
  show forkR (rootR [[97], [98]]) (rootR [[99]]) = _
  rw [rootR_more (by decide), show firstN [[(97 : UInt8)], [98]].length = 1 from by decide +kernel]
  rfl
theorem abc_list : listR abcR = true := by decide
theorem one_list : listR [[97]] = true := by decide
theorem unlike1 : decide (laR = noneR) = false := by decide +kernel
theorem unlike2 : decide (forkR (forkR laR lbR) lcR = laR) = false := by decide +kernel
theorem conv_lit3 (w : World) (o1 o2 : Obj) (C : Array Value) (n c : Nat) : (convert 33 33 (.slice (some ⟨w.heap.size + 1 + 1, 0, none⟩) n c)).run Tryd.prog (((w.alloc o1).alloc o2).alloc (.cells C 5)) = .ok (.slice (some ⟨w.heap.size + 1 + 1, 0, none⟩) n c) (((w.alloc o1).alloc o2).alloc (.cells C 5 (C.size, C.size + 1))) := by
  have h := conv_lit2 (w.alloc o1) o2 C n c
  rw [show (w.alloc o1).heap.size = w.heap.size + 1 by simp] at h
  exact h
theorem abc13_any (w : World) : Calls Tryd.prog 9 #[] w fun e w' => ∃ g, e = .returned (.slice (some ⟨g, 0, none⟩) 3 3) ∧ Rds w' (some ⟨g, 0, none⟩) abcR ∧ Below w.heap.size w w' := by
  have k1 := fun C n c => conv_lit w C n c
  have k2 := fun o C n c => conv_lit2 w o C n c
  have k3 := fun o1 o2 C n c => conv_lit3 w o1 o2 C n c
  go_enter Tryd.func9, Tryd.ntmps9
  go_wp2_with (first
    | ((with_reducible refine wpList_buildSls rfl 3 _ rfl [(some ⟨w.heap.size, 0, none⟩, 1, [97]), (some ⟨w.heap.size + 1, 0, none⟩, 1, [98]), (some ⟨w.heap.size + 1 + 1, 0, none⟩, 1, [99])] [.slice (some ⟨w.heap.size, 0, none⟩) 1 1, .slice (some ⟨w.heap.size + 1, 0, none⟩) 1 1, .slice (some ⟨w.heap.size + 1 + 1, 0, none⟩) 1 1] ?_ rfl (by decide) (by decide) ?_ ?_ ?_); (simp [slV]); rfl))
  · intro p hp
    simp at hp
    rcases hp with rfl | rfl | rfl
    · exact ⟨((Rd.litf _ _ [97] _ _ _ rfl rfl).alloc _).alloc _, Nat.le_refl 1, by show 1 ≤ maxLen; decide⟩
    · exact ⟨(Rd.litf _ _ [98] _ _ _ (by simp) rfl).alloc _, Nat.le_refl 1, by show 1 ≤ maxLen; decide⟩
    · exact ⟨Rd.litf _ _ [99] _ _ _ (by simp) rfl, Nat.le_refl 1, by show 1 ≤ maxLen; decide⟩
  intro g4 w4 e4 J4 E4
  have X0 : Below w.heap.size w _ := (((ext_alloc w (.cells #[.int .u8 97] 5 (1, 2))).alloc (by simp) (.cells #[.int .u8 98] 5 (1, 2))).alloc (by simp; omega) (.cells #[.int .u8 99] 5 (1, 2)))
  have W4 := hid (X0.trans (E4.mono (by omega)))
  have Q4 := hid J4
  clear E4 J4 X0
  go_wp2
  go_ret
  exact ⟨g4, rfl, Q4.out, W4.out⟩
theorem leaf13_any (u : UInt8) (s : Value) (hs : s = .string (bstr [u])) (w : World) (hT : Tab w) : Calls Tryd.prog 14 #[s] w fun e w' => e = .returned (.agg ((leafR [u]).1.map bv).toArray) ∧ Below w.heap.size w w' := by
  subst hs
  have hu := Tryd.underlying29
  have hcv := fun W => run_str_bytes u8s underU8 9 underStr [u] W
  have h0 := hid (heap_alloc_new w (.cells z32 29))
  have W0 := hid (ext_alloc w (.cells z32 29))
  have hO : Hid (∀ (A : Option Addr) (c : Nat) (W : World), Rd W A [u] → 1 ≤ c ∧ c ≤ maxLen → Tab W → Calls Tryd.prog 29 #[.int .u8 7, .slice (some ⟨W.heap.size, 0, none⟩) 1 1] (W.alloc (.cells #[.slice A 1 c] 33)) fun e w' => e = .returned (.agg ((leafR [u]).1.map bv).toArray) ∧ Below W.heap.size W w') :=
    hid (fun A c W h hc hT => of_one_any 7 A c [u] W h hc (by simp) hT)
  have js := hid (sizeDgR (leafR [u]))
  have zs := hid (zDgR (leafR [u]))
  have os := hid (oneDgR (leafR [u]))
  have hlow := hid hT.low
  replace hT := hid hT
  go_enter Tryd.func14, Tryd.ntmps14
  go_wp2_with (first
    | (with_reducible refine wpList_alloc_row rfl 29 rfl z32 info32 ?_))
  have B3 := bytesWorld_bel (w.alloc (.cells z32 29)) 5 (bstr [u])
  have R3 := bytesWorld_rd (w.alloc (.cells z32 29)) 5 [u]
  have hg1 := grownCap_ge (w.alloc (.cells z32 29)) 1 0 5
  have hg2 := grownCap_le_maxLen (w.alloc (.cells z32 29)) 1 0 5 (by decide)
  rw [World.size_alloc] at R3
  generalize grownCap (w.alloc (.cells z32 29)) 1 0 5 = gc at *
  generalize Lib.bytesWorld (w.alloc (.cells z32 29)) 5 (bstr [u]) = w3 at *
  have W3 := hid (W0.out.trans (B3.mono W0.out.size))
  have h3 := hid ((B3.block _ (block_lt h0.out)).trans h0.out)
  refine (hO.out _ gc w3 R3 ⟨hg1, hg2⟩ (hT.out.bel W3.out hlow.out)).mono ?_
  rintro e w4 ⟨rfl, hb⟩
  have W4 := hid (W3.out.trans (hb.mono W3.out.size))
  have h4 := hid ((hb.block _ (block_lt h3.out)).trans h3.out)
  clear hb hcv B3 R3
  go_wp2_with (first
    | ((with_reducible refine wpList_store_row rfl 29 (.tmp 2) (.tmp 6) rfl w.heap.size _ rfl rfl 29 z32 ?_ ?_ ?_ ?_ ?_); exact h4.out; exact js.out; exact zs.out; exact os.out; intro w5 hg5 hb5 hs5))
  exact bodyPost_ret (results_cell_row Tryd.results14 _ _ w.heap.size 29 _ (0, 0) _ rfl hg5 hu rfl js.out) rfl ⟨rfl, W4.out.grown hb5 W4.out.size (fun g e => by injection e with e; omega)⟩
set_option maxHeartbeats 2000000 in
theorem fork13_any (a b : Dg) (w : World) (hT : Tab w) : Calls Tryd.prog 15 #[.agg (a.1.map bv).toArray, .agg (b.1.map bv).toArray] w fun e w' => e = .returned (.agg ((forkR a b).1.map bv).toArray) ∧ Below w.heap.size w w' := by
  have hu := Tryd.underlying29
  have la := a.2
  have lb := b.2
  have ba := heap_alloc_new w (.cells (a.1.map bv).toArray 29)
  have X1 := ext_alloc w (.cells (a.1.map bv).toArray 29)
  have bb := heap_alloc_new (w.alloc (.cells (a.1.map bv).toArray 29)) (.cells (b.1.map bv).toArray 29)
  have X2 := ext_alloc (w.alloc (.cells (a.1.map bv).toArray 29)) (.cells (b.1.map bv).toArray 29)
  have bz := heap_alloc_new ((w.alloc (.cells (a.1.map bv).toArray 29)).alloc (.cells (b.1.map bv).toArray 29)) (.cells z32 29)
  have X3 := ext_alloc ((w.alloc (.cells (a.1.map bv).toArray 29)).alloc (.cells (b.1.map bv).toArray 29)) (.cells z32 29)
  have a1 := hid ((X3.block _ (by simp; omega)).trans ((X2.block _ (block_lt ba)).trans ba))
  have b1 := hid ((X3.block _ (block_lt bb)).trans bb)
  have z1 := hid bz
  have W1 := hid ((X1.trans (X2.mono X1.size)).trans (X3.mono (X1.trans (X2.mono X1.size)).size))
  simp only [World.size_alloc] at b1 z1
  have js := hid (sizeDgR (forkR a b))
  have zs := hid (zDgR (forkR a b))
  have os := hid (oneDgR (forkR a b))
  have hOf : Hid (∀ (g : Nat) (W : World), Rds W (some ⟨g, 0, none⟩) [a.1, b.1] → Tab W → Calls Tryd.prog 29 #[.int .u8 8, .slice (some ⟨g, 0, none⟩) 2 2] W fun e w' => e = .returned (.agg ((forkR a b).1.map bv).toArray) ∧ Below W.heap.size W w') :=
    hid (fun g W h hT => TOf_any 8 (some ⟨g, 0, none⟩) 2 2 [a.1, b.1] W h rfl (by simp) (fork_lenR a b) hT)
  have T1 := hid (hT.bel W1.out hT.low)
  clear ba bb bz X1 X2 X3 hT
  go_enter Tryd.func15, Tryd.ntmps15
  go_wp2_with (first
    | (with_reducible refine wpList_alloc_row rfl 29 rfl z32 info32 ?_))
  generalize ((w.alloc (.cells (a.1.map bv).toArray 29)).alloc (.cells (b.1.map bv).toArray 29)).alloc (.cells z32 29) = w1 at *
  have D1 := bel_drew w1
  have S1 := hid (rd_blockP (l := a.1) ((D1.block _ (block_lt a1.out)).trans a1.out))
  have S2 := hid (rd_blockP (l := b.1) ((D1.block _ (block_lt b1.out)).trans b1.out))
  have Z1 := hid ((D1.block _ (block_lt z1.out)).trans z1.out)
  have V1 := hid (W1.out.trans (D1.mono W1.out.size))
  have U1 := hid (T1.out.bel D1 T1.out.low)
  clear D1
  refine wp_region_noPanic ?_
  refine wp_region_held_drew (S := fun _ => True) (by kernel_rfl) ?_ (fun hHeld => ?_)
  · exact trivial
  refine' wpAnyH_take (i := 0) (oi := _) (v := _) rfl (by kernel_rfl) (by kernel_rfl) (by kernel_rfl) (fun _ _ _ h => h) (yieldsIf_slice (by rfl) _ _ _ _ _ rfl _ _ _ _ _ (fun W => run_all32P _ W) rfl rfl rfl rfl) (by assumption) ?_
  try simp only [Act.put, sQa, sQb, sQc, gQa, gQb, gQc]
  refine' wpAnyH_take (i := 1) (oi := _) (v := _) rfl (by kernel_rfl) (by kernel_rfl) (by kernel_rfl) (fun _ _ _ h => h) (yieldsIf_slice (by rfl) _ _ _ _ _ rfl _ _ _ _ _ (fun W => run_all32P _ W) rfl rfl rfl rfl) (by assumption) ?_
  try simp only [Act.put, sQa, sQb, sQc, gQa, gQb, gQc]
  refine wpAnyH_ready (rs := [2]) (by kernel_rfl) (by simp) ?_
  refine AllReadyH.cons (o := _) rfl (fun K hK => ?_) AllReadyH.nil
  refine step_buildSls rfl 2 _ rfl [(some ⟨w.heap.size, 0, none⟩, 32, a.1), (some ⟨w.heap.size + 1, 0, none⟩, 32, b.1)] [.slice (some ⟨w.heap.size, 0, none⟩) 32 32, .slice (some ⟨w.heap.size + 1, 0, none⟩) 32 32] (by simp [slV, la, lb]) rfl (by decide) (by decide) rfl ?_ ?_
  · intro p hp
    simp at hp
    rcases hp with rfl | rfl
    · exact ⟨S1.out, Nat.le_of_eq la, by show 32 ≤ maxLen; decide⟩
    · exact ⟨S2.out, Nat.le_of_eq lb, by show 32 ≤ maxLen; decide⟩
  intro g6 v6 e6 J6 E6
  refine hK.out _ _ ?_ (fun hHeld => ?_)
  · exact trivial
  clear hK K
  try simp only [Act.put, sQa, sQb, sQc, gQa, gQb, gQc]
  refine wpAnyH_ready (rs := [3]) (by kernel_rfl) (by simp) ?_
  refine AllReadyH.cons (o := _) rfl (fun K hK => ?_) AllReadyH.nil
  go_simp
  refine (hOf.out g6 _ J6 (U1.out.bel E6 U1.out.low)).mono ?_
  rintro e v7 ⟨rfl, hB7⟩
  have Z7 := hid (E6.trans (hB7.mono E6.size))
  have R7 := hid ((Z7.out.block _ (block_lt Z1.out)).trans Z1.out)
  go_wp2_with fail
  refine hK.out _ _ ?_ (fun hHeld => ?_)
  · exact trivial
  clear hK K
  try simp only [Act.put, sQa, sQb, sQc, gQa, gQb, gQc]
  refine wpAnyH_ready (rs := [4]) (by kernel_rfl) (by simp) ?_
  refine AllReadyH.cons (o := _) rfl (fun K hK => ?_) AllReadyH.nil
  refine step_store_rowT rfl 29 (.tmp 4) (.tmp 8) rfl (w.heap.size + 1 + 1) _ rfl rfl 29 z32 R7.out js.out zs.out os.out ?_
  intro w8 d8 hG
  refine hK.out _ _ ?_ (fun hHeld => ?_)
  · exact trivial
  clear hK K
  try simp only [Act.put, sQa, sQb, sQc, gQa, gQb, gQc]
  refine wpAnyH_done (by kernel_rfl) ?_ _
  refine NoPanic.normal ?_
  go_wp2
  have Y8 := V1.out.trans (Z7.out.mono V1.out.size)
  exact bodyPost_ret (results_cell_row Tryd.results15 _ _ (w.heap.size + 1 + 1) 29 _ (0, 0) _ rfl d8 hu rfl js.out) rfl ⟨rfl, Y8.grown hG Y8.size (fun g e => by injection e with e; omega)⟩
end Go.Proofs.YtgmlmkhiflnhdaaDoor
