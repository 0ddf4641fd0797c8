/-
 The document's answers of layer 6: Same, of two trees that are.
-/
import Derived.Test.YtmjocmogfckmmaaGreatDoorRf6
import Derived.Test.YtmjocmogfckmmaaGreatDoorTrB
import Derived.Test.YtmjocmogfckmmaaGreatDoorRefE
namespace Go.Proofs.YtmjocmogfckmmaaGreatDoor
open Go.RowKit
set_option linter.unusedVariables false
set_option linter.unusedSimpArgs false
set_option maxRecDepth 100000

theorem boxesT3 (w : World) (A D : Option Addr) (n c d : Nat) (root : Int) :
  BoxT ((w.alloc (.cells #[.slice A n c, .int .i64 root] 24)).alloc (.cells #[.slice D n d, .int .i64 root] 24)) w.heap.size A n c root ∧
  BoxT ((w.alloc (.cells #[.slice A n c, .int .i64 root] 24)).alloc (.cells #[.slice D n d, .int .i64 root] 24)) (w.heap.size + 1) D n d root ∧
  Below w.heap.size w ((w.alloc (.cells #[.slice A n c, .int .i64 root] 24)).alloc (.cells #[.slice D n d, .int .i64 root] 24)) := by
 have h2 := BoxT.new (w.alloc (.cells #[.slice A n c, .int .i64 root] 24)) D n d root 24
 rw [World.size_alloc] at h2
 exact ⟨(BoxT.new w A n c root _).bel (ext_alloc _ _), h2, ext_trans (ext_alloc _ _) (ext_alloc _ _)⟩
set_option maxHeartbeats 2000000 in
theorem RSameT_eq (F G : Nat → Prop) (A D : Option Addr) (c d : Nat) (ns : List Nd) (root : Int) (w : World) (hr : Row F w A ns) (hs : Row G w D ns) (hc : ns.length ≤ 9223372036854775807) :
  Calls Tryz.prog 9 #[.agg #[.slice A ns.length c, .int .i64 root], .agg #[.slice D ns.length d, .int .i64 root]] w fun e w' => e = .returned (.bool true) ∧ Below w.heap.size w w' := by
 obtain ⟨T1, T2, W0⟩ := boxesT3 w A D ns.length c d root
 have hr0 := hr.bel W0
 have hs0 := hs.bel W0
 have y1 := T1.ns
 have y2 := T2.ns
 have y3 := T1.rt
 have y4 := T2.rt
 have hun := Tryz.underlying43
 have hu := Tryz.underlying26
 have e1 : (root != root) = false := by simp
 clear hr hs
 go_enter Tryz.func9, Tryz.ntmps9
 go_wp2
 generalize (w.alloc (.cells #[.slice A ns.length c, .int .i64 root] 24)).alloc (.cells #[.slice D ns.length d, .int .i64 root] 24) = w0 at *
 clear y1 y2 y3 y4
 go_loopw [5] (fun i wr => ∃ j : Nat, j ≤ ns.length ∧ i = .int .i64 j ∧ Below w0.heap.size w0 wr) (fun i _ => ns.length - (intOf i).toNat)
 case atStart => exact ⟨0, Nat.zero_le _, rfl, Below.refl _ _⟩
 case round =>
  obtain ⟨j, hj, rfl, hb⟩ := hrel
  have y1 := (T1.bel hb).ns
  have y2 := (T2.bel hb).ns
  by_cases hlt : j < ns.length
  ·obtain ⟨q, o, hA, A1, c1, hR1, hv1, hm1, ha1, hI1, hI2⟩ := row_nd (hr0.bel hb) hlt
   obtain ⟨q2, o2, hD, A2, c2, hR2, hv2, hm2, ha2, -, -⟩ := row_nd (hs0.bel hb) hlt
   subst hA hD
   have hi1 := hid (show (Tryz.prog.info? 43).map (·.size) = some (ndC ns[j] A1 c1).length by rw [len_nd]; exact sizeNd)
   have hi2 := hid (show (Tryz.prog.info? 43).map (·.size) = some (ndC ns[j] A2 c2).length by rw [len_nd]; exact sizeNd)
   have hs1 := hid (show (Tryz.prog.info? 43).map (·.size) = some (ndC ns[j] A1 c1).toArray.size by rw [List.size_toArray, len_nd]; exact sizeNd)
   have hs2 := hid (show (Tryz.prog.info? 43).map (·.size) = some (ndC ns[j] A2 c2).toArray.size by rw [List.size_toArray, len_nd]; exact sizeNd)
   have hz1 := hid (show zNdC.size = (ndC ns[j] A1 c1).toArray.size by rw [zSizeNd, List.size_toArray, len_nd])
   have hz2 := hid (show zNdC.size = (ndC ns[j] A2 c2).toArray.size by rw [zSizeNd, List.size_toArray, len_nd])
   have ho1 := hid (one_nd ns[j] A1 c1)
   have ho2 := hid (one_nd ns[j] A2 c2)
   have rd1 := hid ha1.rd
   have rd2 := hid ha2.rd
   have hB1 := hid (fun (W : World) (g : Nat) (tt : TypeId) (h : W.heap[g]? = some (.cells (ndC ns[j] A1 c1).toArray tt (0, 0))) => BoxN.heap h)
   have hB2 := hid (fun (W : World) (g : Nat) (tt : TypeId) (h : W.heap[g]? = some (.cells (ndC ns[j] A2 c2).toArray tt (0, 0))) => BoxN.heap h)
   have hE : ∀ W, (Op.equalIn 10000 26 (.agg (ns[j].k.1.map bv).toArray) (.agg (ns[j].k.1.map bv).toArray)).run Tryz.prog W = .ok true W := fun W => eqd_is ns[j].k ns[j].k true (decide_eq_true rfl) W
   have hik := hid (sizeDgT ns[j].k)
   have e2 : (ns[j].leaf != ns[j].leaf) = false := by simp
   have e3 : (ns[j].l != ns[j].l) = false := by simp
   have e4 : (ns[j].r != ns[j].r) = false := by simp
   replace hR1 := hid hR1
   replace hR2 := hid hR2
   clear hv1 hm1 ha1 hI1 hI2 hv2 hm2 ha2
   go_wp2
   refine wp_region_noPanic ?_
   refine wp_region_held_drew (S := fun w' => Below wr.heap.size wr w') (by kernel_rfl) ?_ (fun hHeld => ?_)
   ·exact bel_drew wr
   refine' tkL 0 ?_ rfl ?_ ?_
   rotate_left
   ·intro W hSw
    go_simp
    first | done | (with_reducible rfl)
   try simp only [Act.put, sQ]
   refine' tkL 1 ?_ rfl ?_ ?_
   rotate_left
   ·intro W hSw
    have hCell := (hSw.cell (World.block_lt_of_cell? _ _ y1)).trans y1
    go_simp
    first | done | (with_reducible rfl)
   try simp only [Act.put, sQ]
   refine' tkL 2 ?_ rfl ?_ ?_
   rotate_left
   ·intro W hSw
    go_simp
    first | done | (with_reducible rfl)
   try simp only [Act.put, sQ]
   refine' tkL 3 ?_ rfl ?_ ?_
   rotate_left
   ·intro W hSw
    go_simp
    first | done | (with_reducible rfl)
   try simp only [Act.put, sQ]
   refine' tkH 4 rfl (yieldsIf_load_mid (by rfl) _ _ rfl _ _ rfl _ _ (fun _ h => rangeBel2 h hR1.out) hun rfl hi1.out) ?_
   try simp only [Act.put, sQ]
   refine' tkL 5 ?_ rfl ?_ ?_
   rotate_left
   ·intro W hSw
    go_simp
    first | done | (with_reducible rfl)
   try simp only [Act.put, sQ]
   refine' tkL 6 ?_ rfl ?_ ?_
   rotate_left
   ·intro W hSw
    have hCell := (hSw.cell (World.block_lt_of_cell? _ _ y2)).trans y2
    go_simp
    first | done | (with_reducible rfl)
   try simp only [Act.put, sQ]
   refine' tkL 7 ?_ rfl ?_ ?_
   rotate_left
   ·intro W hSw
    go_simp
    first | done | (with_reducible rfl)
   try simp only [Act.put, sQ]
   refine' tkL 8 ?_ rfl ?_ ?_
   rotate_left
   ·intro W hSw
    go_simp
    first | done | (with_reducible rfl)
   try simp only [Act.put, sQ]
   refine' tkH 9 rfl (yieldsIf_load_mid (by rfl) _ _ rfl _ _ rfl _ _ (fun _ h => rangeBel2 h hR2.out) hun rfl hi2.out) ?_
   try simp only [Act.put, sQ]
   refine wpAnyH_ready (rs := [10, 11]) (by kernel_rfl) (by simp) ?_
   refine AllReadyH.cons (o := _) rfl (fun K hK => ?_) ?_
   ·skip
    refine step_alloc_rowT rfl 43 rfl zNdC zInfoNd ?_
    intro g6 w8 b6 e6 hB
    have m6 := Nat.le_trans hHeld.size b6
    try have n67 : g6 ≠ g7 := fun h => by have := block_lt e7; omega
    try replace e7 := (hB.block _ (block_lt e7)).trans e7
    refine hK.out _ _ ?_ (fun hHeld => ?_)
    ·exact hHeld.trans (hB.mono hHeld.size)
    clear hK K
    try simp only [Act.put, sQ]
    refine wpAnyH_ready (rs := [11]) (by kernel_rfl) (by simp) ?_
    refine AllReadyH.cons (o := _) rfl (fun K hK => ?_) AllReadyH.nil
    refine step_alloc_rowT rfl 43 rfl zNdC zInfoNd ?_
    intro g7 w8 b7 e7 hB
    have m7 := Nat.le_trans hHeld.size b7
    try have n67 : g6 ≠ g7 := fun h => by have := block_lt e6; omega
    try replace e6 := (hB.block _ (block_lt e6)).trans e6
    refine hK.out _ _ ?_ (fun hHeld => ?_)
    ·exact hHeld.trans (hB.mono hHeld.size)
    clear hK K
    try simp only [Act.put, sQ]
    refine wpAnyH_ready (rs := [12]) (by kernel_rfl) (by simp) ?_
    refine AllReadyH.cons (o := _) rfl (fun K hK => ?_) AllReadyH.nil
    refine step_store_rowT rfl 43 (.tmp 6) (.tmp 33) rfl g6 _ rfl rfl 43 zNdC e6 hs1.out hz1.out ho1.out ?_
    intro w8 d6 hG
    replace e7 := (hG.block _ (block_lt e7) (by simpa using n67.symm)).trans e7
    refine hK.out _ _ ?_ (fun hHeld => ?_)
    ·exact hHeld.grown hG hHeld.size (by intro k hk; injection hk with hk; omega)
    clear hK K
    try simp only [Act.put, sQ]
    refine wpAnyH_ready (rs := [13]) (by kernel_rfl) (by simp) ?_
    refine AllReadyH.cons (o := _) rfl (fun K hK => ?_) AllReadyH.nil
    refine step_store_rowT rfl 43 (.tmp 7) (.tmp 38) rfl g7 _ rfl rfl 43 zNdC e7 hs2.out hz2.out ho2.out ?_
    intro w9 d7 hG
    replace d6 := (hG.block _ (block_lt d6) (by simpa using n67)).trans d6
    refine hK.out _ _ ?_ (fun hHeld => ?_)
    ·exact hHeld.grown hG hHeld.size (by intro k hk; injection hk with hk; omega)
    clear hK K
    try simp only [Act.put, sQ]
    refine wpAnyH_done (by kernel_rfl) ?_ _
    refine NoPanic.normal ?_
    have N6 := hB1.out _ _ _ d6
    have N7 := hB2.out _ _ _ d7
    have u1 := N6.leaf
    have u2 := N7.leaf
    have u3 := N6.val
    have u4 := N7.val
    have u5 := N6.l
    have u6 := N7.l
    have u7 := N6.r
    have u8 := N7.r
    have k6 := hid N6.key
    have k7 := hid N7.key
    have p1 := hid (rd1.out.bel hHeld)
    have p2 := hid (rd2.out.bel hHeld)
    have W9 := hid (hb.trans (hHeld.mono hb.size))
    clear N6 N7 d6 d7 hHeld rd1 rd2 hB1 hB2 hR1 hR2 hb
    try clear hB
    try clear hG
    try clear e6 e7
    go_wp2_with (first
     | ((with_reducible refine wpList_load_rng ?_ 26 (.tmp 45) rfl g6 1 rfl (ns[j].k.1.map bv) _ ?_ hu rfl hik.out ?_); rfl; exact k6.out)
     | ((with_reducible refine wpList_load_rng ?_ 26 (.tmp 47) rfl g7 1 rfl (ns[j].k.1.map bv) _ ?_ hu rfl hik.out ?_); rfl; exact k7.out))
    refine (Same_is A1 A2 c1 c2 ns[j].v ns[j].v true _ p1.out p2.out (decide_eq_true rfl)).mono ?_
    rintro e w10 ⟨rfl, rfl⟩
    go_wp2
    go_roundw
    case rel => exact ⟨j + 1, by omega, by go_num, W9.out⟩
    case measure => simp [intOf]; omega
   refine AllReadyH.cons (o := _) rfl (fun K hK => ?_) ?_
   ·skip
    refine step_alloc_rowT rfl 43 rfl zNdC zInfoNd ?_
    intro g7 w8 b7 e7 hB
    have m7 := Nat.le_trans hHeld.size b7
    try have n67 : g6 ≠ g7 := fun h => by have := block_lt e6; omega
    try replace e6 := (hB.block _ (block_lt e6)).trans e6
    refine hK.out _ _ ?_ (fun hHeld => ?_)
    ·exact hHeld.trans (hB.mono hHeld.size)
    clear hK K
    try simp only [Act.put, sQ]
    refine wpAnyH_ready (rs := [10]) (by kernel_rfl) (by simp) ?_
    refine AllReadyH.cons (o := _) rfl (fun K hK => ?_) AllReadyH.nil
    refine step_alloc_rowT rfl 43 rfl zNdC zInfoNd ?_
    intro g6 w8 b6 e6 hB
    have m6 := Nat.le_trans hHeld.size b6
    try have n67 : g6 ≠ g7 := fun h => by have := block_lt e7; omega
    try replace e7 := (hB.block _ (block_lt e7)).trans e7
    refine hK.out _ _ ?_ (fun hHeld => ?_)
    ·exact hHeld.trans (hB.mono hHeld.size)
    clear hK K
    try simp only [Act.put, sQ]
    refine wpAnyH_ready (rs := [12]) (by kernel_rfl) (by simp) ?_
    refine AllReadyH.cons (o := _) rfl (fun K hK => ?_) AllReadyH.nil
    refine step_store_rowT rfl 43 (.tmp 6) (.tmp 33) rfl g6 _ rfl rfl 43 zNdC e6 hs1.out hz1.out ho1.out ?_
    intro w8 d6 hG
    replace e7 := (hG.block _ (block_lt e7) (by simpa using n67.symm)).trans e7
    refine hK.out _ _ ?_ (fun hHeld => ?_)
    ·exact hHeld.grown hG hHeld.size (by intro k hk; injection hk with hk; omega)
    clear hK K
    try simp only [Act.put, sQ]
    refine wpAnyH_ready (rs := [13]) (by kernel_rfl) (by simp) ?_
    refine AllReadyH.cons (o := _) rfl (fun K hK => ?_) AllReadyH.nil
    refine step_store_rowT rfl 43 (.tmp 7) (.tmp 38) rfl g7 _ rfl rfl 43 zNdC e7 hs2.out hz2.out ho2.out ?_
    intro w9 d7 hG
    replace d6 := (hG.block _ (block_lt d6) (by simpa using n67)).trans d6
    refine hK.out _ _ ?_ (fun hHeld => ?_)
    ·exact hHeld.grown hG hHeld.size (by intro k hk; injection hk with hk; omega)
    clear hK K
    try simp only [Act.put, sQ]
    refine wpAnyH_done (by kernel_rfl) ?_ _
    refine NoPanic.normal ?_
    have N6 := hB1.out _ _ _ d6
    have N7 := hB2.out _ _ _ d7
    have u1 := N6.leaf
    have u2 := N7.leaf
    have u3 := N6.val
    have u4 := N7.val
    have u5 := N6.l
    have u6 := N7.l
    have u7 := N6.r
    have u8 := N7.r
    have k6 := hid N6.key
    have k7 := hid N7.key
    have p1 := hid (rd1.out.bel hHeld)
    have p2 := hid (rd2.out.bel hHeld)
    have W9 := hid (hb.trans (hHeld.mono hb.size))
    clear N6 N7 d6 d7 hHeld rd1 rd2 hB1 hB2 hR1 hR2 hb
    try clear hB
    try clear hG
    try clear e6 e7
    go_wp2_with (first
     | ((with_reducible refine wpList_load_rng ?_ 26 (.tmp 45) rfl g6 1 rfl (ns[j].k.1.map bv) _ ?_ hu rfl hik.out ?_); rfl; exact k6.out)
     | ((with_reducible refine wpList_load_rng ?_ 26 (.tmp 47) rfl g7 1 rfl (ns[j].k.1.map bv) _ ?_ hu rfl hik.out ?_); rfl; exact k7.out))
    refine (Same_is A1 A2 c1 c2 ns[j].v ns[j].v true _ p1.out p2.out (decide_eq_true rfl)).mono ?_
    rintro e w10 ⟨rfl, rfl⟩
    go_wp2
    go_roundw
    case rel => exact ⟨j + 1, by omega, by go_num, W9.out⟩
    case measure => simp [intOf]; omega
   exact AllReadyH.nil
  ·obtain rfl : j = ns.length := by omega
   go_wp2
   go_ret
   exact ⟨rfl, W0.trans (hb.mono W0.size)⟩
end Go.Proofs.YtmjocmogfckmmaaGreatDoor
