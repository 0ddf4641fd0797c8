/-
  Texts laid together: TreeLe, TreeLf, TreeLg, TreeLh.
-/
import Derived.Test.YtapnhdpgogfceaaGreatDoorTrA
import Derived.Test.YtapnhdpgogfceaaGreatDoorPrR
import Derived.Test.YtapnhdpgogfceaaGreatDoorMem
import Derived.Test.YtapnhdpgogfceaaGreatDoorTrN
set_option maxRecDepth 100000
/- (TreeLe)
  Contracts of the landed package tree: newSummed, sum.
-/
namespace Go.Proofs.YtapnhdpgogfceaaGreatDoor
open Go.RowKit
set_option linter.unusedVariables false
set_option linter.unusedSimpArgs false
set_option maxRecDepth 100000

/-- A summed trie's cells. -/
def smC (A : Option Addr) (n c : Nat) (root : Int) (d : Dg) : List Value := [.slice A n c, .int .i64 root] ++ d.1.map bv
def zSmC : Array Value := (smC none 0 0 0 z0).toArray
theorem len_sm (A : Option Addr) (n c : Nat) (root : Int) (d : Dg) : (smC A n c root d).length = 34 := by simp [smC, d.2]
theorem zInfoSm : (Tryz.prog.info? 78).map (fun i => (i.zero, i.size)) = some (some (.agg zSmC), zSmC.size) := by kernel_rfl
theorem zSizeSm : zSmC.size = 34 := by decide +kernel
theorem sizeSm : (Tryz.prog.info? 78).map (·.size) = some 34 := by kernel_rfl
theorem one_sm (A : Option Addr) (n c : Nat) (root : Int) (d : Dg) : (smC A n c root d).toArray.all (·.oneCell') = true := all_oneCell_toArray fun u hu => by
  simp only [smC, List.cons_append, List.nil_append, List.mem_cons] at hu
  rcases hu with rfl | rfl | h
  · rfl
  · rfl
  · exact bvs_one _ u h
theorem placesSm : (match Tryz.prog.info? 78, Tryz.prog.underlying 78 with
    | some it, some (.struct fields) => (fields.toList.mapM (fun f => (Tryz.prog.info? f.type).map fun i => (f.offset, i.size))).map fun pl => (it.zero, pl)
    | _, _ => none) = some (some (.agg zSmC), [(0, 2), (2, 32)]) := by kernel_rfl
theorem built_sm (A : Option Addr) (n c : Nat) (root : Int) (d : Dg) : Tryz.prog.built 78 [(0, .agg #[.slice A n c, .int .i64 root]), (1, .agg (d.1.map bv).toArray)] = some (smC A n c root d).toArray := by
  have h := placesSm
  unfold Program.built
  cases hi : Tryz.prog.info? 78 with
  | none => rw [hi] at h; cases h
  | some it =>
    cases hd : Tryz.prog.underlying 78 with
    | none => rw [hi, hd] at h; cases h
    | some de =>
      cases de with
      | struct fields =>
        rw [hi, hd] at h
        simp only at h ⊢
        obtain ⟨pl, hpl, h2⟩ := Option.map_eq_some_iff.1 h
        injection h2 with h3 h4
        rw [h3, hpl, h4]
        simp only
        have hk : (d.1.map bv).length = 32 := by rw [List.length_map]; exact d.2
        have c0 : (Value.agg #[.slice A n c, .int .i64 root]).cells = #[Value.slice A n c, .int .i64 root] := rfl
        have c1 : (Value.agg (d.1.map bv).toArray).cells = (d.1.map bv).toArray := rfl
        have cz : (Value.agg zSmC).cells = zSmC := rfl
        rw [fill_cons (off := 0) (by rw [c0]; rfl) (by rw [c0, cz, zSizeSm]; show 0 + 2 ≤ 34; decide)]
        have e1 : lay (Value.agg zSmC).cells.toList 0 (Value.agg #[.slice A n c, .int .i64 root]).cells.toList = smC A n c root z0 := by
          rw [c0, cz]
          rfl
        rw [e1, fill_cons (off := 2) (by rw [c1, List.size_toArray, hk]; rfl) (by rw [c1, List.size_toArray, hk, List.size_toArray, len_sm]; decide), Instr.fill]
        congr 2
        rw [c1]
        have hz : (z0.1.map bv).length = 32 := by decide +kernel
        simp only [lay, smC, List.cons_append, List.nil_append, List.take_succ_cons, List.take_zero, hk]
        rw [List.drop_of_length_le (by simp [hz])]
        simp
      | _ => rw [hi, hd] at h; cases h
/-- A summed trie in a box. -/
structure BoxS (W : World) (g : Nat) (A : Option Addr) (n c : Nat) (root : Int) (d : Dg) : Prop where
  all : W.rangeAt g 0 (smC A n c root d)
  trie : W.rangeAt g 0 [.slice A n c, .int .i64 root]
  none : W.rangeAt g 2 (d.1.map bv)
theorem BoxS.of {W : World} {g : Nat} {A : Option Addr} {n c : Nat} {root : Int} {d : Dg} (h : W.rangeAt g 0 (smC A n c root d)) : BoxS W g A n c root d := by
  refine ⟨h, fun j v hv => h j v ?_, ?_⟩
  · unfold smC
    rw [List.getElem?_append_left (List.getElem?_eq_some_iff.1 hv).1]; exact hv
  · have := range_sub (xs := [Value.slice A n c, .int .i64 root]) (ys := d.1.map bv) (zs := []) (by simpa [smC] using h) 2 rfl
    rw [Nat.zero_add] at this
    exact this
theorem BoxS.bel {W W' : World} {g : Nat} {A : Option Addr} {n c : Nat} {root : Int} {d : Dg} (h : BoxS W g A n c root d) (hb : Below W.heap.size W W') : BoxS W' g A n c root d := BoxS.of (rangeBel2 hb h.all)
theorem BoxS.new (W : World) (A : Option Addr) (n c : Nat) (root : Int) (d : Dg) (t : TypeId) : BoxS (W.alloc (.cells (smC A n c root d).toArray t)) W.heap.size A n c root d := BoxS.of (rangeOf (heap_alloc_new W _))

def noneD : Dg := ⟨sha256 [0], S8.bytes_len _⟩
set_option maxHeartbeats 1000000 in
theorem PNewSummed_any (A : Option Addr) (n c : Nat) (root : Int) (w : World) (hT : Tab w) :
    Calls Tryz.prog 41 #[.agg #[.slice A n c, .int .i64 root]] w fun e w' => e = .returned (.agg (smC A n c root noneD).toArray) ∧ Below w.heap.size w w' := by
  have W0 := ext_trans (ext_alloc w (.cells #[.slice A n c, .int .i64 root] 24)) (ext_alloc _ (.cells zSmC 78))
  have T0 := (BoxT.new w A n c root 24).bel (ext_alloc _ (.cells zSmC 78))
  have h1 := heap_alloc_new (w.alloc (.cells #[.slice A n c, .int .i64 root] 24)) (.cells zSmC 78)
  rw [World.size_alloc] at h1
  have hT0 := hid (hT.bel W0 hT.low)
  have hlow := hid hT.low
  have hsz := hid (show ((w.alloc (.cells #[.slice A n c, .int .i64 root] 24)).alloc (.cells zSmC 78)).heap.size = w.heap.size + 2 by simp)
  have hut := Tryz.underlying24
  have hus := Tryz.underlying78
  have hiT := hid (show (Tryz.prog.info? 24).map (·.size) = some ([Value.slice A n c, .int .i64 root]).length from sizeTr)
  have hbt := hid (built_trie A n c root)
  have hbs := hid (built_sm A n c root noneD)
  have hiS := hid (show (Tryz.prog.info? 78).map (·.size) = some (smC A n c root noneD).toArray.size by rw [List.size_toArray, len_sm]; exact sizeSm)
  have hzs := hid (show zSmC.size = (smC A n c root noneD).toArray.size by rw [zSizeSm, List.size_toArray, len_sm])
  have hone := hid (one_sm A n c root noneD)
  have hN := fun W hTW => TNone_any W hTW
  rw [show sha256 [0] = noneD.1 from rfl] at hN
  generalize smC A n c root noneD = cs at *
  generalize noneD.1.map bv = dn at *
  replace hN := hid hN
  replace h1 := hid h1
  go_enter Tryz.func41, Tryz.ntmps41
  go_wp2_with (first
    | (with_reducible refine wpList_alloc_row rfl 78 rfl zSmC zInfoSm ?_))
  generalize (w.alloc (.cells #[.slice A n c, .int .i64 root] 24)).alloc (.cells zSmC 78) = w0 at *
  have e1 := h1.out
  refine wp_region_noPanic ?_
  refine wp_region_held_drew (S := fun w' => Below (w.heap.size + 1) w0 w') (by kernel_rfl) ?_ (fun hHeld => ?_)
  · exact (bel_drew w0).mono (by rw [hsz.out]; omega)
  refine' wpAnyH_take (i := 0) (oi := _) (v := _) rfl (by kernel_rfl) (by kernel_rfl) (by kernel_rfl) (fun _ _ _ h => h) (yieldsIf_load_mid (by rfl) _ _ rfl _ _ rfl _ _ (fun _ h => rangeAt_kept T0.all (fun _ => h.block _ (by omega))) hut rfl hiT.out) (by assumption) ?_
  try simp only [Act.put, sQa, sQb, sQc, gQa, gQb, gQc]
  refine' wpAnyH_take (i := 1) (oi := _) (v := _) rfl (by kernel_rfl) (by kernel_rfl) (by kernel_rfl) (fun _ _ _ h => h) (yieldsIf_build (by rfl) _ _ rfl _ _ (hbt.out) rfl) (by assumption) ?_
  try simp only [Act.put, sQa, sQb, sQc, gQa, gQb, gQc]
  refine wpAnyH_ready (rs := [2]) (by kernel_rfl) (by simp) ?_
  refine AllReadyH.cons (o := _) rfl (fun K hK => ?_) AllReadyH.nil
  go_simp
  refine (hN.out _ (hT0.out.bel hHeld (Nat.lt_succ_of_lt hlow.out))).mono ?_
  rintro e5 w5 ⟨rfl, hB⟩
  replace e1 := (hB.block _ (block_lt e1)).trans e1
  go_wp2_with fail
  refine hK.out _ _ ?_ (fun hHeld => ?_)
  · exact hHeld.trans (hB.mono (Nat.le_trans (by rw [hsz.out]; omega) hHeld.size))
  clear hK K
  try simp only [Act.put, sQa, sQb, sQc, gQa, gQb, gQc]
  refine' wpAnyH_take (i := 3) (oi := _) (v := _) rfl (by kernel_rfl) (by kernel_rfl) (by kernel_rfl) (fun _ _ _ h => h) (yieldsIf_build (by rfl) _ _ rfl _ _ (hbs.out) rfl) (by assumption) ?_
  try simp only [Act.put, sQa, sQb, sQc, gQa, gQb, gQc]
  refine wpAnyH_ready (rs := [4]) (by kernel_rfl) (by simp) ?_
  refine AllReadyH.cons (o := _) rfl (fun K hK => ?_) AllReadyH.nil
  refine step_store_row rfl 78 (.tmp 2) (.tmp 6) rfl (w.heap.size + 1) _ rfl rfl 78 zSmC e1 hiS.out hzs.out hone.out ?_
  intro w8 d6 hG
  refine hK.out _ _ ?_ (fun hHeld => ?_)
  · exact hHeld.grown hG (Nat.le_trans (by rw [hsz.out]; omega) hHeld.size) (fun g e => by injection e with e; omega)
  clear hK K
  try simp only [Act.put, sQa, sQb, sQc, gQa, gQb, gQc]
  refine wpAnyH_done (by kernel_rfl) ?_ _
  refine NoPanic.normal ?_
  go_wp2
  refine bodyPost_ret (results_cell_row Tryz.results41 _ _ (w.heap.size + 1) 78 _ (0, 0) _ rfl d6 hus rfl hiS.out) rfl ⟨rfl, W0.trans (hHeld.mono (Nat.le_succ _))⟩

theorem boxesS (w : World) (A : Option Addr) (n c : Nat) (root : Int) (d : Dg) :
    BoxS ((w.alloc (.cells (smC A n c root d).toArray 78)).alloc (.cells z32 26)) w.heap.size A n c root d ∧
    ((w.alloc (.cells (smC A n c root d).toArray 78)).alloc (.cells z32 26)).heap[w.heap.size + 1]? = some (.cells z32 26) ∧
    Below w.heap.size w ((w.alloc (.cells (smC A n c root d).toArray 78)).alloc (.cells z32 26)) := by
  have h2 := heap_alloc_new (w.alloc (.cells (smC A n c root d).toArray 78)) (.cells z32 26)
  rw [World.size_alloc] at h2
  exact ⟨(BoxS.new w A n c root d _).bel (ext_alloc _ _), h2, ext_trans (ext_alloc _ _) (ext_alloc _ _)⟩
theorem PSum_zero (A : Option Addr) (n c : Nat) (root : Int) (d : Dg) (w : World) :
    Calls Tryz.prog 42 #[.agg (smC A n c root d).toArray, .int .i64 0] w fun e w' => e = .returned (.agg (d.1.map bv).toArray) ∧ Below w.heap.size w w' := by
  obtain ⟨S0, h1, W0⟩ := boxesS w A n c root d
  have hu := Tryz.underlying26
  have hi := hid (sizeDgT d)
  have z1 : ((d.1.map bv).toArray).size = 32 := by simp [d.2]
  have o1 := bvs_all d.1
  have s2 := hid S0.none
  replace h1 := hid h1
  clear S0
  generalize smC A n c root d = cs at *
  generalize d.1.map bv = dd at *
  go_enter Tryz.func42, Tryz.ntmps42
  go_wp2_with (first
    | (with_reducible refine wpList_alloc_row rfl 26 rfl z32 info32 ?_)
    | ((with_reducible refine wpList_load_rng rfl 26 (.tmp 11) rfl w.heap.size 2 rfl dd _ ?_ hu rfl hi.out ?_); exact s2.out)
    | ((with_reducible refine wpList_store_row rfl 26 (.tmp 4) (.tmp 12) rfl (w.heap.size + 1) _ rfl rfl 26 z32 ?_ ?_ ?_ ?_ ?_); exact h1.out; (rw [z1]; exact size32); (rw [z1]; exact z32_size); exact o1; intro w4 hg4 hb4 hs4))
  refine bodyPost_ret (results_cell_row Tryz.results42 _ _ (w.heap.size + 1) 26 _ (0, 0) _ rfl hg4 hu rfl (by rw [z1]; exact size32)) rfl ⟨rfl, W0.grown hb4 W0.size (fun g e => by injection e with e; omega)⟩

theorem rd_at {w : World} {b o : Nat} {k : Dg} (h : w.rangeAt b o (k.1.map bv)) : Rd w (some ⟨b, o, none⟩) k.1 := fun _ => ⟨b, o, rfl, fun j x hx => h j (bv x) (by rw [List.getElem?_map, hx]; rfl)⟩
set_option maxHeartbeats 1600000 in
theorem PSum_leaf (F : Nat → Prop) (A : Option Addr) (c : Nat) (ns : List Nd) (root : Int) (d : Dg) (n : Int) (w : World) (hr : Row F w A ns) (hc : ns.length ≤ 9223372036854775807) (h0 : 0 < n) (hn : n ≤ ns.length) (hl : (ndAt ns n).leaf = true) (hv : (ndAt ns n).v.length ≤ 64) (hT : Tab w) :
    Calls Tryz.prog 42 #[.agg (smC A ns.length c root d).toArray, .int .i64 n] w fun e w' => e = .returned (.agg ((sha256 (tagB 1 [(ndAt ns n).k.1, (ndAt ns n).v])).map bv).toArray) ∧ Below w.heap.size w w' := by
  obtain ⟨S0, h1, W0⟩ := boxesS w A ns.length c root d
  have hr0 := hr.bel W0
  have hu := Tryz.underlying26
  have hut := Tryz.underlying76
  have hun := Tryz.underlying47
  have hiT := hid (show (Tryz.prog.info? 76).map (·.size) = some ([Value.slice A ns.length c, .int .i64 root]).length from sizeTrie)
  have hT0 := hid (hT.bel W0 hT.low)
  have hlow := hid (Nat.lt_of_lt_of_le hT.low W0.size)
  have hLf := fun W hW => PIsLeaf_any F A c ns root n W hW (by omega) hn hc
  rw [show leafB ns n = true by unfold leafB; rw [hl, decide_eq_true (by omega)]; rfl] at hLf
  have hne : (n == 0) = false := beq_eq_false_iff_ne.2 (by omega)
  obtain ⟨j, hj, rfl, hx⟩ : ∃ (j : Nat) (hj : j < ns.length), n = (j : Int) + 1 ∧ ndAt ns n = ns[j] := by
    obtain ⟨j, rfl⟩ : ∃ j : Nat, n = (j : Int) + 1 := ⟨(n - 1).toNat, by omega⟩
    exact ⟨j, by omega, rfl, ndAt_at (by omega)⟩
  rw [hx] at hv ⊢
  have hkl := ns[j].k.2
  have hO := fun W A (hW : Rds W A [ns[j].k.1, ns[j].v]) (hTW : Tab W) => TOf_any 1 A 2 2 [ns[j].k.1, ns[j].v] W hW rfl (by simp) (tag2_leP 1 (by omega) hv) hTW
  obtain ⟨dg, hdg⟩ : ∃ dg, dg = sha256 (tagB 1 [ns[j].k.1, ns[j].v]) := ⟨_, rfl⟩
  rw [← hdg] at hO ⊢
  have ld : dg.length = 32 := by rw [hdg]; exact S8.bytes_len _
  have z1 : ((dg.map bv).toArray).size = 32 := by simp [ld]
  have o1 := bvs_all dg
  clear hdg hr hT hl
  have hsl := run_all32P
  replace h1 := hid h1
  replace hO := hid hO
  replace hLf := hid hLf
  have S0t := hid S0.trie
  clear S0
  generalize smC A ns.length c root d = cs at *
  go_enter Tryz.func42, Tryz.ntmps42
  go_wp2_with (first
    | (with_reducible refine wpList_alloc_row rfl 26 rfl z32 info32 ?_)
    | ((with_reducible refine wpList_load_rng rfl 76 (.tmp 13) rfl w.heap.size 0 rfl [Value.slice A ns.length c, .int .i64 root] _ ?_ hut rfl hiT.out ?_); exact S0t.out))
  generalize (w.alloc (.cells cs.toArray 78)).alloc (.cells z32 26) = w0 at *
  refine (hLf.out _ hr0).mono ?_
  rintro r w5 ⟨rfl, hb5⟩
  have s5 := rangeBel2 hb5 S0t.out
  have r5 := hr0.bel hb5
  have h5 := hid ((hb5.block _ (block_lt h1.out)).trans h1.out)
  have T5 := hid (hT0.out.bel hb5 hlow.out)
  have l5 := hid (Nat.lt_of_lt_of_le hlow.out hb5.size)
  have W5 := hid (W0.trans (hb5.mono W0.size))
  obtain ⟨q, o, hAe, A', c', hR, hv1, hv2, hv3, _⟩ := row_nd r5 hj
  subst hAe
  have hN := fun W (hW : W.rangeAt q (o + j * 36) (ndC ns[j] A' c')) => PNode_at q o j ns.length c root ns[j] A' c' W hW hj hc
  have hiS := hid (show (Tryz.prog.info? 47).map (·.size) = some (ndC ns[j] A' c').toArray.size by rw [List.size_toArray, len_nd]; exact sizeNd)
  have hzs := hid (show zNdC.size = (ndC ns[j] A' c').toArray.size by rw [zSizeNd, List.size_toArray, len_nd])
  have hone := hid (one_nd ns[j] A' c')
  have hBx := fun (W : World) (g : Nat) (t : TypeId) (h : W.heap[g]? = some (.cells (ndC ns[j] A' c').toArray t (0, 0))) => BoxN.heap h
  have hR2 := fun W (g : Nat) (hW : Rd W (some ⟨g, 1, none⟩) ns[j].k.1) (hV : Rd W A' ns[j].v) => rds_two W (some ⟨g, 1, none⟩) A' 32 c' ns[j].k.1 ns[j].v 27 hW hV ⟨by omega, by unfold maxLen; omega⟩ ⟨hv1, hv2⟩
  rw [hkl] at hR2
  have v5 := hid hv3.rd
  clear hr0 hb5 hLf hT0 S0t h1 hlow W0
  go_wp2_with (first
    | ((with_reducible refine wpList_load_rng rfl 76 (.tmp 17) rfl w.heap.size 0 rfl [Value.slice (some ⟨q, o, none⟩) ns.length c, .int .i64 root] _ ?_ hut rfl hiT.out ?_); exact s5))
  refine (hN _ hR).mono ?_
  rintro r w6 ⟨rfl, hb6⟩
  have h6 := hid ((hb6.block _ (block_lt h5.out)).trans h5.out)
  have T6 := hid (T5.out.bel hb6 l5.out)
  have l6 := hid (Nat.lt_of_lt_of_le l5.out hb6.size)
  have W6 := hid (W5.out.trans (hb6.mono W5.out.size))
  have v6 := hid (v5.out.bel hb6)
  have e6 := hid (heap_alloc_new w6 (.cells zNdC 47))
  clear s5 r5 hR hN hb6 h5 T5 l5 W5 v5
  go_wp2_with (first
    | (with_reducible refine wpList_alloc_row rfl 47 rfl zNdC zInfoNd ?_)
    | ((with_reducible refine wpList_store_row rfl 47 (.tmp 5) (.tmp 20) rfl _ _ rfl rfl 47 zNdC ?_ ?_ ?_ ?_ ?_); exact e6.out; exact hiS.out; exact hzs.out; exact hone.out; intro w7 hg7 hb7 hs7; have X7 := hid (xnewP rfl hb7); have N7 := hBx _ _ _ hg7; have y7 := N7.val; have k7 := rd_at N7.key; have v7 := v6.out.bel X7.out; have T7 := hid (T6.out.bel X7.out l6.out); have l7 := hid (Nat.lt_of_lt_of_le l6.out X7.out.size); have h7 := hid ((X7.out.block _ (block_lt h6.out)).trans h6.out); have W7 := hid (W6.out.trans (X7.out.mono W6.out.size)); clear hg7 hb7 hs7))
  go_still_tail 4, (by kernel_rfl)
  have B8 := (ext_alloc w7 (.cells #[.slice (some ⟨w6.heap.size, 1, none⟩) 32 32, .slice A' ns[j].v.length c'] 27)).trans ((bel_drew (w7.alloc (.cells #[.slice (some ⟨w6.heap.size, 1, none⟩) 32 32, .slice A' ns[j].v.length c'] 27))).mono (ext_alloc w7 _).size)
  have R8 := hid ((hR2 w7 _ k7 v7).bel (bel_drew _))
  have T8 := hid (T7.out.bel B8 l7.out)
  have h8 := hid ((B8.block _ (block_lt h7.out)).trans h7.out)
  have W8 := hid (W7.out.trans (B8.mono W7.out.size))
  clear B8 hR2 k7 v7 T7 h7 W7 N7 y7 h6 T6 W6 v6 e6 X7 hBx
  go_wp2_with fail
  refine (hO.out _ _ R8.out T8.out).mono ?_
  rintro e w9 ⟨rfl, hb9⟩
  have h9 := hid ((hb9.block _ (block_lt h8.out)).trans h8.out)
  have W9 := hid (W8.out.trans (hb9.mono W8.out.size))
  clear hb9
  go_wp2_with (first
    | ((with_reducible refine wpList_store_row rfl 26 (.tmp 4) (.tmp 26) rfl _ _ rfl rfl 26 z32 ?_ ?_ ?_ ?_ ?_); exact h9.out; (rw [z1]; exact size32); (rw [z1]; exact z32_size); exact o1; intro w10 hg4 hb4 hs4))
  refine bodyPost_ret (results_cell_row Tryz.results42 _ _ (w.heap.size + 1) 26 _ (0, 0) _ rfl hg4 hu rfl (by rw [z1]; exact size32)) rfl ⟨rfl, W9.out.grown hb4 W9.out.size (fun g e => by injection e with e; omega)⟩

set_option maxHeartbeats 4000000 in
theorem PSum_fork (F : Nat → Prop) (A : Option Addr) (c : Nat) (ns : List Nd) (root : Int) (d : Dg) (n : Int) (g0 g1 : Dg) (w : World) (hr : Row F w A ns) (hc : ns.length ≤ 9223372036854775807) (h0 : 0 < n) (hn : n ≤ ns.length) (hl : (ndAt ns n).leaf = false) (hT : Tab w)
    (i0 : ∀ W, Row F W A ns → Tab W → Calls Tryz.prog 42 #[.agg (smC A ns.length c root d).toArray, .int .i64 (ndAt ns n).l] W fun e w' => e = .returned (.agg (g0.1.map bv).toArray) ∧ Below W.heap.size W w')
    (i1 : ∀ W, Row F W A ns → Tab W → Calls Tryz.prog 42 #[.agg (smC A ns.length c root d).toArray, .int .i64 (ndAt ns n).r] W fun e w' => e = .returned (.agg (g1.1.map bv).toArray) ∧ Below W.heap.size W w') :
    Calls Tryz.prog 42 #[.agg (smC A ns.length c root d).toArray, .int .i64 n] w fun e w' => e = .returned (.agg ((sha256 (tagB 2 [g0.1, g1.1])).map bv).toArray) ∧ Below w.heap.size w w' := by
  obtain ⟨S0, h1, W0⟩ := boxesS w A ns.length c root d
  have hr0 := hr.bel W0
  have hu := Tryz.underlying26
  have hut := Tryz.underlying76
  have hus := Tryz.underlying78
  have hiT := hid (show (Tryz.prog.info? 76).map (·.size) = some ([Value.slice A ns.length c, .int .i64 root]).length from sizeTrie)
  have hiSm := hid (show (Tryz.prog.info? 78).map (·.size) = some (smC A ns.length c root d).length by rw [len_sm]; exact sizeSm)
  have hT0 := hid (hT.bel W0 hT.low)
  have hlow := hid (Nat.lt_of_lt_of_le hT.low W0.size)
  have hLf := fun W hW => PIsLeaf_any F A c ns root n W hW (by omega) hn hc
  rw [show leafB ns n = false by unfold leafB; rw [hl, decide_eq_true (by omega)]; rfl] at hLf
  have hne : (n == 0) = false := beq_eq_false_iff_ne.2 (by omega)
  obtain ⟨j, hj, rfl, hx⟩ : ∃ (j : Nat) (hj : j < ns.length), n = (j : Int) + 1 ∧ ndAt ns n = ns[j] := by
    obtain ⟨j, rfl⟩ : ∃ j : Nat, n = (j : Int) + 1 := ⟨(n - 1).toNat, by omega⟩
    exact ⟨j, by omega, rfl, ndAt_at (by omega)⟩
  rw [hx] at i0 i1
  obtain ⟨g0, l0⟩ := g0
  obtain ⟨g1, l1⟩ := g1
  dsimp only at i0 i1 ⊢
  have hO := fun W A (hW : Rds W A [g0, g1]) (hTW : Tab W) => TOf_any 2 A 2 2 [g0, g1] W hW rfl (by simp) (tag2_leP 2 (by omega) (by omega)) hTW
  have hR := fun W p q (hW : Rd W (some ⟨p, 0, none⟩) g0) (hV : Rd W (some ⟨q, 0, none⟩) g1) => rds_two W (some ⟨p, 0, none⟩) (some ⟨q, 0, none⟩) 32 32 g0 g1 27 hW hV ⟨by omega, by unfold maxLen; omega⟩ ⟨by omega, by unfold maxLen; omega⟩
  rw [l0, l1] at hR
  obtain ⟨dg, hdg⟩ : ∃ dg, dg = sha256 (tagB 2 [g0, g1]) := ⟨_, rfl⟩
  rw [← hdg] at hO ⊢
  have ld : dg.length = 32 := by rw [hdg]; exact S8.bytes_len _
  have z1 : ((dg.map bv).toArray).size = 32 := by simp [ld]
  have o1 := bvs_all dg
  have y0 : ((g0.map bv).toArray).size = 32 := by simp [l0]
  have p0 := bvs_all g0
  have y1 : ((g1.map bv).toArray).size = 32 := by simp [l1]
  have p1 := bvs_all g1
  clear hdg hr hT hl
  have hsl := run_all32P
  replace h1 := hid h1
  replace hO := hid hO
  replace hR := hid hR
  replace hLf := hid hLf
  replace i0 := hid i0
  replace i1 := hid i1
  have hu2 := Tryz.underlying107
  generalize hcs : smC A ns.length c root d = cs at *
  replace hcs := hid hcs
  have S0t := hid S0.trie
  replace S0 := hid S0
  go_enter Tryz.func42, Tryz.ntmps42
  go_wp2_with (first
    | (with_reducible refine wpList_alloc_row rfl 26 rfl z32 info32 ?_)
    | ((with_reducible refine wpList_load_rng rfl 76 (.tmp 13) rfl w.heap.size 0 rfl [Value.slice A ns.length c, .int .i64 root] _ ?_ hut rfl hiT.out ?_); exact S0t.out))
  generalize (w.alloc (.cells cs.toArray 78)).alloc (.cells z32 26) = w0 at *
  refine (hLf.out _ hr0).mono ?_
  rintro r w5 ⟨rfl, hb5⟩
  have s5 := rangeBel2 hb5 S0t.out
  have a5 := S0.out.bel hb5
  have r5 := hr0.bel hb5
  have h5 := hid ((hb5.block _ (block_lt h1.out)).trans h1.out)
  have T5 := hid (hT0.out.bel hb5 hlow.out)
  have l5 := hid (Nat.lt_of_lt_of_le hlow.out hb5.size)
  have W5 := hid (W0.trans (hb5.mono W0.size))
  obtain ⟨q, o, hAe, A', c', hRw, hv1, hv2, hv3, _⟩ := row_nd r5 hj
  subst hAe
  have hN := fun W (hW : W.rangeAt q (o + j * 36) (ndC ns[j] A' c')) => PRoads_at q o j ns.length c root ns[j] A' c' W hW hj hc
  clear hr0 hb5 hLf hT0 S0t S0 h1 hlow W0 hv1 hv2 hv3
  generalize ndC ns[j] A' c' = xs at *
  generalize ns[j].l = l at *
  generalize ns[j].r = rr at *
  go_wp2_with (first
    | ((with_reducible refine wpList_load_rng rfl 76 (.tmp 27) rfl w.heap.size 0 rfl [Value.slice (some ⟨q, o, none⟩) ns.length c, .int .i64 root] _ ?_ hut rfl hiT.out ?_); exact s5))
  refine (hN _ hRw).mono ?_
  rintro r w6 ⟨rfl, hb6⟩
  have a6 := hid (a5.bel hb6)
  have r6 := hid (r5.bel hb6)
  have h6 := hid ((hb6.block _ (block_lt h5.out)).trans h5.out)
  have T6 := hid (T5.out.bel hb6 l5.out)
  have l6 := hid (Nat.lt_of_lt_of_le l5.out hb6.size)
  have W6 := hid (W5.out.trans (hb6.mono W5.out.size))
  have e6 := hid (heap_alloc_new w6 (.cells z2C 107))
  clear s5 a5 r5 hRw hN hb6 h5 T5 l5 W5
  go_wp2_with (first
    | (with_reducible refine wpList_alloc_row rfl 107 rfl z2C zInfo2 ?_)
    | ((with_reducible refine wpList_store_row rfl 107 (.tmp 6) (.tmp 30) rfl _ _ rfl rfl 107 z2C ?_ ?_ ?_ ?_ ?_); exact e6.out; exact size2; rfl; exact one2 l rr; intro w7 hg7 hb7 hs7; have X7 := hid (xnewP rfl hb7); have a7 := a6.out.bel X7.out; have r7 := hid (r6.out.bel X7.out); have q7 := rangeOf (l := [Value.int .i64 l, .int .i64 rr]) hg7; have c0 := q7 0 _ rfl; have c1 := q7 1 _ rfl; rw [Nat.zero_add] at c0 c1; have T7 := hid (T6.out.bel X7.out l6.out); have l7 := hid (Nat.lt_of_lt_of_le l6.out X7.out.size); have h7 := hid ((X7.out.block _ (block_lt h6.out)).trans h6.out); have W7 := hid (W6.out.trans (X7.out.mono W6.out.size)); clear hg7 hb7 hs7))
  have al7 := a7.all
  rw [hcs.out] at al7
  clear a6 r6 h6 T6 l6 W6 e6 X7 a7 q7
  refine wp_region_noPanic ?_
  refine wp_region_held_drew (S := fun w' => Below w7.heap.size w7 w') (by kernel_rfl) ?_ (fun hHeld => ?_)
  · exact bel_drew w7
  refine' wpAnyH_take (i := 0) (oi := _) (v := _) rfl (by kernel_rfl) (by kernel_rfl) (by kernel_rfl) (fun _ _ _ h => h) (yieldsIf_load_mid (by rfl) _ _ rfl _ _ rfl _ _ (fun _ h => rangeBel2 h al7) hus rfl hiSm.out) (by assumption) ?_
  try simp only [Act.put, sQa, sQb, sQc, gQa, gQb, gQc]
  refine' wpAnyH_take (i := 1) (oi := _) (v := ?_) rfl (by kernel_rfl) (by kernel_rfl) (by kernel_rfl) (fun _ _ _ h => h) (Or.inl ⟨by rfl, ?_⟩) (by assumption) ?_
  rotate_left
  · intro W hSw
    go_simp
    first | done | (with_reducible rfl)
  try simp only [Act.put, sQa, sQb, sQc, gQa, gQb, gQc]
  refine' wpAnyH_take (i := 2) (oi := _) (v := ?_) rfl (by kernel_rfl) (by kernel_rfl) (by kernel_rfl) (fun _ _ _ h => h) (Or.inl ⟨by rfl, ?_⟩) (by assumption) ?_
  rotate_left
  · intro W hSw
    have hCell := (hSw.cell (World.block_lt_of_cell? _ _ c0)).trans c0
    go_simp
    first | done | (with_reducible rfl)
  try simp only [Act.put, sQa, sQb, sQc, gQa, gQb, gQc]
  refine' wpAnyH_take (i := 4) (oi := _) (v := _) rfl (by kernel_rfl) (by kernel_rfl) (by kernel_rfl) (fun _ _ _ h => h) (yieldsIf_load_mid (by rfl) _ _ rfl _ _ rfl _ _ (fun _ h => rangeBel2 h al7) hus rfl hiSm.out) (by assumption) ?_
  try simp only [Act.put, sQa, sQb, sQc, gQa, gQb, gQc]
  refine' wpAnyH_take (i := 5) (oi := _) (v := ?_) rfl (by kernel_rfl) (by kernel_rfl) (by kernel_rfl) (fun _ _ _ h => h) (Or.inl ⟨by rfl, ?_⟩) (by assumption) ?_
  rotate_left
  · intro W hSw
    go_simp
    first | done | (with_reducible rfl)
  try simp only [Act.put, sQa, sQb, sQc, gQa, gQb, gQc]
  refine' wpAnyH_take (i := 6) (oi := _) (v := ?_) rfl (by kernel_rfl) (by kernel_rfl) (by kernel_rfl) (fun _ _ _ h => h) (Or.inl ⟨by rfl, ?_⟩) (by assumption) ?_
  rotate_left
  · intro W hSw
    have hCell := (hSw.cell (World.block_lt_of_cell? _ _ c1)).trans c1
    go_simp
    first | done | (with_reducible rfl)
  try simp only [Act.put, sQa, sQb, sQc, gQa, gQb, gQc]
  refine wpAnyH_ready (rs := [3, 8, 9]) (by kernel_rfl) (by simp) ?_
  refine AllReadyH.cons (o := _) rfl (fun K hK => ?_) ?_
  · skip
    go_simp
    refine (i0.out _ (r7.out.bel hHeld) (T7.out.bel hHeld l7.out)).mono ?_
    rintro e w8 ⟨rfl, hB⟩
    try replace e6 := (hB.block _ (block_lt e6)).trans e6
    try replace e7 := (hB.block _ (block_lt e7)).trans e7
    go_wp2_with fail
    refine hK.out _ _ ?_ (fun hHeld => ?_)
    · exact hHeld.trans (hB.mono hHeld.size)
    clear hK K
    try simp only [Act.put, sQa, sQb, sQc, gQa, gQb, gQc]
    refine wpAnyH_ready (rs := [7, 8, 9]) (by kernel_rfl) (by simp) ?_
    refine AllReadyH.cons (o := _) rfl (fun K hK => ?_) ?_
    · skip
      go_simp
      refine (i1.out _ (r7.out.bel hHeld) (T7.out.bel hHeld l7.out)).mono ?_
      rintro e w8 ⟨rfl, hB⟩
      try replace e6 := (hB.block _ (block_lt e6)).trans e6
      try replace e7 := (hB.block _ (block_lt e7)).trans e7
      go_wp2_with fail
      refine hK.out _ _ ?_ (fun hHeld => ?_)
      · exact hHeld.trans (hB.mono hHeld.size)
      clear hK K
      try simp only [Act.put, sQa, sQb, sQc, gQa, gQb, gQc]
      refine wpAnyH_ready (rs := [8, 9]) (by kernel_rfl) (by simp) ?_
      refine AllReadyH.cons (o := _) rfl (fun K hK => ?_) ?_
      · skip
        refine step_alloc_row rfl 26 rfl z32 info32 ?_
        intro g6 w8 b6 e6 hB
        have m6 := Nat.le_trans hHeld.size b6
        try have n67 : g6 ≠ g7 := fun h => by have := block_lt e7; omega
        try replace e7 := (hB.block _ (block_lt e7)).trans e7
        refine hK.out _ _ ?_ (fun hHeld => ?_)
        · exact hHeld.trans (hB.mono hHeld.size)
        clear hK K
        try simp only [Act.put, sQa, sQb, sQc, gQa, gQb, gQc]
        refine wpAnyH_ready (rs := [9]) (by kernel_rfl) (by simp) ?_
        refine AllReadyH.cons (o := _) rfl (fun K hK => ?_) AllReadyH.nil
        refine step_alloc_row rfl 26 rfl z32 info32 ?_
        intro g7 w8 b7 e7 hB
        have m7 := Nat.le_trans hHeld.size b7
        try have n67 : g6 ≠ g7 := fun h => by have := block_lt e6; omega
        try replace e6 := (hB.block _ (block_lt e6)).trans e6
        refine hK.out _ _ ?_ (fun hHeld => ?_)
        · exact hHeld.trans (hB.mono hHeld.size)
        clear hK K
        try simp only [Act.put, sQa, sQb, sQc, gQa, gQb, gQc]
        refine wpAnyH_ready (rs := [10]) (by kernel_rfl) (by simp) ?_
        refine AllReadyH.cons (o := _) rfl (fun K hK => ?_) AllReadyH.nil
        refine step_store_row rfl 26 (.tmp 7) (.tmp 34) rfl g6 _ rfl rfl 26 z32 e6 (by rw [y0]; exact size32) (by rw [y0]; exact z32_size) p0 ?_
        intro w8 d6 hG
        replace e7 := (hG.block _ (block_lt e7) (by simpa using n67.symm)).trans e7
        refine hK.out _ _ ?_ (fun hHeld => ?_)
        · exact hHeld.grown hG hHeld.size (by intro k hk; injection hk with hk; omega)
        clear hK K
        try simp only [Act.put, sQa, sQb, sQc, gQa, gQb, gQc]
        refine wpAnyH_ready (rs := [11]) (by kernel_rfl) (by simp) ?_
        refine AllReadyH.cons (o := _) rfl (fun K hK => ?_) AllReadyH.nil
        refine step_store_row rfl 26 (.tmp 8) (.tmp 38) rfl g7 _ rfl rfl 26 z32 e7 (by rw [y1]; exact size32) (by rw [y1]; exact z32_size) p1 ?_
        intro w9 d7 hG
        replace d6 := (hG.block _ (block_lt d6) (by simpa using n67)).trans d6
        refine hK.out _ _ ?_ (fun hHeld => ?_)
        · exact hHeld.grown hG hHeld.size (by intro k hk; injection hk with hk; omega)
        clear hK K
        try simp only [Act.put, sQa, sQb, sQc, gQa, gQb, gQc]
        refine wpAnyH_done (by kernel_rfl) ?_ _
        refine NoPanic.normal ?_
        have hz9 := hid ((hHeld.block _ (block_lt h7.out)).trans h7.out)
        have W9 := hid (W7.out.trans (hHeld.mono W7.out.size))
        have hT9 := hid (T7.out.bel hHeld l7.out)
        have l9 := hid (Nat.lt_of_lt_of_le l7.out hHeld.size)
        have D6 := hid (rd_blockP d6)
        have D7 := hid (rd_blockP d7)
        clear r7 h7 W7 T7 l7 c0 c1 al7 i0 i1 d6 d7 hHeld
        try clear hB
        try clear hG
        try clear e6 e7
        go_wp2_with fail
        go_still_tail 2, (by kernel_rfl)
        have B2 := (ext_alloc w9 (.cells #[.slice (some ⟨g6, 0, none⟩) 32 32, .slice (some ⟨g7, 0, none⟩) 32 32] 27)).trans ((bel_drew (w9.alloc (.cells #[.slice (some ⟨g6, 0, none⟩) 32 32, .slice (some ⟨g7, 0, none⟩) 32 32] 27))).mono (ext_alloc w9 _).size)
        have hR2 := hid ((hR.out _ _ _ D6.out D7.out).bel (bel_drew _))
        have hT2 := hid (hT9.out.bel B2 l9.out)
        replace hz9 := hid ((B2.block _ (block_lt hz9.out)).trans hz9.out)
        replace W9 := hid (W9.out.trans (B2.mono W9.out.size))
        clear B2 D6 D7 hT9 hR
        go_wp2_with fail
        refine (hO.out _ _ hR2.out hT2.out).mono ?_
        rintro e w10 ⟨rfl, hb10⟩
        have R3 := hid ((hb10.block _ (block_lt hz9.out)).trans hz9.out)
        have W3 := hid (W9.out.trans (hb10.mono W9.out.size))
        clear hb10
        go_wp2_with (first
          | ((with_reducible refine wpList_store_row rfl 26 (.tmp 4) (.tmp 42) rfl _ _ rfl rfl 26 z32 ?_ ?_ ?_ ?_ ?_); exact R3.out; (rw [z1]; exact size32); (rw [z1]; exact z32_size); exact o1; intro w12 hg4 hb4 hs4))
        refine bodyPost_ret (results_cell_row Tryz.results42 _ _ (w.heap.size + 1) 26 _ (0, 0) _ rfl hg4 hu rfl (by rw [z1]; exact size32)) rfl ⟨rfl, W3.out.grown hb4 W3.out.size (by intro k hk; injection hk with hk; omega)⟩
      refine AllReadyH.cons (o := _) rfl (fun K hK => ?_) ?_
      · skip
        refine step_alloc_row rfl 26 rfl z32 info32 ?_
        intro g7 w8 b7 e7 hB
        have m7 := Nat.le_trans hHeld.size b7
        try have n67 : g6 ≠ g7 := fun h => by have := block_lt e6; omega
        try replace e6 := (hB.block _ (block_lt e6)).trans e6
        refine hK.out _ _ ?_ (fun hHeld => ?_)
        · exact hHeld.trans (hB.mono hHeld.size)
        clear hK K
        try simp only [Act.put, sQa, sQb, sQc, gQa, gQb, gQc]
        refine wpAnyH_ready (rs := [8]) (by kernel_rfl) (by simp) ?_
        refine AllReadyH.cons (o := _) rfl (fun K hK => ?_) AllReadyH.nil
        refine step_alloc_row rfl 26 rfl z32 info32 ?_
        intro g6 w8 b6 e6 hB
        have m6 := Nat.le_trans hHeld.size b6
        try have n67 : g6 ≠ g7 := fun h => by have := block_lt e7; omega
        try replace e7 := (hB.block _ (block_lt e7)).trans e7
        refine hK.out _ _ ?_ (fun hHeld => ?_)
        · exact hHeld.trans (hB.mono hHeld.size)
        clear hK K
        try simp only [Act.put, sQa, sQb, sQc, gQa, gQb, gQc]
        refine wpAnyH_ready (rs := [10]) (by kernel_rfl) (by simp) ?_
        refine AllReadyH.cons (o := _) rfl (fun K hK => ?_) AllReadyH.nil
        refine step_store_row rfl 26 (.tmp 7) (.tmp 34) rfl g6 _ rfl rfl 26 z32 e6 (by rw [y0]; exact size32) (by rw [y0]; exact z32_size) p0 ?_
        intro w8 d6 hG
        replace e7 := (hG.block _ (block_lt e7) (by simpa using n67.symm)).trans e7
        refine hK.out _ _ ?_ (fun hHeld => ?_)
        · exact hHeld.grown hG hHeld.size (by intro k hk; injection hk with hk; omega)
        clear hK K
        try simp only [Act.put, sQa, sQb, sQc, gQa, gQb, gQc]
        refine wpAnyH_ready (rs := [11]) (by kernel_rfl) (by simp) ?_
        refine AllReadyH.cons (o := _) rfl (fun K hK => ?_) AllReadyH.nil
        refine step_store_row rfl 26 (.tmp 8) (.tmp 38) rfl g7 _ rfl rfl 26 z32 e7 (by rw [y1]; exact size32) (by rw [y1]; exact z32_size) p1 ?_
        intro w9 d7 hG
        replace d6 := (hG.block _ (block_lt d6) (by simpa using n67)).trans d6
        refine hK.out _ _ ?_ (fun hHeld => ?_)
        · exact hHeld.grown hG hHeld.size (by intro k hk; injection hk with hk; omega)
        clear hK K
        try simp only [Act.put, sQa, sQb, sQc, gQa, gQb, gQc]
        refine wpAnyH_done (by kernel_rfl) ?_ _
        refine NoPanic.normal ?_
        have hz9 := hid ((hHeld.block _ (block_lt h7.out)).trans h7.out)
        have W9 := hid (W7.out.trans (hHeld.mono W7.out.size))
        have hT9 := hid (T7.out.bel hHeld l7.out)
        have l9 := hid (Nat.lt_of_lt_of_le l7.out hHeld.size)
        have D6 := hid (rd_blockP d6)
        have D7 := hid (rd_blockP d7)
        clear r7 h7 W7 T7 l7 c0 c1 al7 i0 i1 d6 d7 hHeld
        try clear hB
        try clear hG
        try clear e6 e7
        go_wp2_with fail
        go_still_tail 2, (by kernel_rfl)
        have B2 := (ext_alloc w9 (.cells #[.slice (some ⟨g6, 0, none⟩) 32 32, .slice (some ⟨g7, 0, none⟩) 32 32] 27)).trans ((bel_drew (w9.alloc (.cells #[.slice (some ⟨g6, 0, none⟩) 32 32, .slice (some ⟨g7, 0, none⟩) 32 32] 27))).mono (ext_alloc w9 _).size)
        have hR2 := hid ((hR.out _ _ _ D6.out D7.out).bel (bel_drew _))
        have hT2 := hid (hT9.out.bel B2 l9.out)
        replace hz9 := hid ((B2.block _ (block_lt hz9.out)).trans hz9.out)
        replace W9 := hid (W9.out.trans (B2.mono W9.out.size))
        clear B2 D6 D7 hT9 hR
        go_wp2_with fail
        refine (hO.out _ _ hR2.out hT2.out).mono ?_
        rintro e w10 ⟨rfl, hb10⟩
        have R3 := hid ((hb10.block _ (block_lt hz9.out)).trans hz9.out)
        have W3 := hid (W9.out.trans (hb10.mono W9.out.size))
        clear hb10
        go_wp2_with (first
          | ((with_reducible refine wpList_store_row rfl 26 (.tmp 4) (.tmp 42) rfl _ _ rfl rfl 26 z32 ?_ ?_ ?_ ?_ ?_); exact R3.out; (rw [z1]; exact size32); (rw [z1]; exact z32_size); exact o1; intro w12 hg4 hb4 hs4))
        refine bodyPost_ret (results_cell_row Tryz.results42 _ _ (w.heap.size + 1) 26 _ (0, 0) _ rfl hg4 hu rfl (by rw [z1]; exact size32)) rfl ⟨rfl, W3.out.grown hb4 W3.out.size (by intro k hk; injection hk with hk; omega)⟩
      exact AllReadyH.nil
    refine AllReadyH.cons (o := _) rfl (fun K hK => ?_) ?_
    · skip
      refine step_alloc_row rfl 26 rfl z32 info32 ?_
      intro g6 w8 b6 e6 hB
      have m6 := Nat.le_trans hHeld.size b6
      try have n67 : g6 ≠ g7 := fun h => by have := block_lt e7; omega
      try replace e7 := (hB.block _ (block_lt e7)).trans e7
      refine hK.out _ _ ?_ (fun hHeld => ?_)
      · exact hHeld.trans (hB.mono hHeld.size)
      clear hK K
      try simp only [Act.put, sQa, sQb, sQc, gQa, gQb, gQc]
      refine wpAnyH_ready (rs := [7, 9]) (by kernel_rfl) (by simp) ?_
      refine AllReadyH.cons (o := _) rfl (fun K hK => ?_) ?_
      · skip
        go_simp
        refine (i1.out _ (r7.out.bel hHeld) (T7.out.bel hHeld l7.out)).mono ?_
        rintro e w8 ⟨rfl, hB⟩
        try replace e6 := (hB.block _ (block_lt e6)).trans e6
        try replace e7 := (hB.block _ (block_lt e7)).trans e7
        go_wp2_with fail
        refine hK.out _ _ ?_ (fun hHeld => ?_)
        · exact hHeld.trans (hB.mono hHeld.size)
        clear hK K
        try simp only [Act.put, sQa, sQb, sQc, gQa, gQb, gQc]
        refine wpAnyH_ready (rs := [9]) (by kernel_rfl) (by simp) ?_
        refine AllReadyH.cons (o := _) rfl (fun K hK => ?_) AllReadyH.nil
        refine step_alloc_row rfl 26 rfl z32 info32 ?_
        intro g7 w8 b7 e7 hB
        have m7 := Nat.le_trans hHeld.size b7
        try have n67 : g6 ≠ g7 := fun h => by have := block_lt e6; omega
        try replace e6 := (hB.block _ (block_lt e6)).trans e6
        refine hK.out _ _ ?_ (fun hHeld => ?_)
        · exact hHeld.trans (hB.mono hHeld.size)
        clear hK K
        try simp only [Act.put, sQa, sQb, sQc, gQa, gQb, gQc]
        refine wpAnyH_ready (rs := [10]) (by kernel_rfl) (by simp) ?_
        refine AllReadyH.cons (o := _) rfl (fun K hK => ?_) AllReadyH.nil
        refine step_store_row rfl 26 (.tmp 7) (.tmp 34) rfl g6 _ rfl rfl 26 z32 e6 (by rw [y0]; exact size32) (by rw [y0]; exact z32_size) p0 ?_
        intro w8 d6 hG
        replace e7 := (hG.block _ (block_lt e7) (by simpa using n67.symm)).trans e7
        refine hK.out _ _ ?_ (fun hHeld => ?_)
        · exact hHeld.grown hG hHeld.size (by intro k hk; injection hk with hk; omega)
        clear hK K
        try simp only [Act.put, sQa, sQb, sQc, gQa, gQb, gQc]
        refine wpAnyH_ready (rs := [11]) (by kernel_rfl) (by simp) ?_
        refine AllReadyH.cons (o := _) rfl (fun K hK => ?_) AllReadyH.nil
        refine step_store_row rfl 26 (.tmp 8) (.tmp 38) rfl g7 _ rfl rfl 26 z32 e7 (by rw [y1]; exact size32) (by rw [y1]; exact z32_size) p1 ?_
        intro w9 d7 hG
        replace d6 := (hG.block _ (block_lt d6) (by simpa using n67)).trans d6
        refine hK.out _ _ ?_ (fun hHeld => ?_)
        · exact hHeld.grown hG hHeld.size (by intro k hk; injection hk with hk; omega)
        clear hK K
        try simp only [Act.put, sQa, sQb, sQc, gQa, gQb, gQc]
        refine wpAnyH_done (by kernel_rfl) ?_ _
        refine NoPanic.normal ?_
        have hz9 := hid ((hHeld.block _ (block_lt h7.out)).trans h7.out)
        have W9 := hid (W7.out.trans (hHeld.mono W7.out.size))
        have hT9 := hid (T7.out.bel hHeld l7.out)
        have l9 := hid (Nat.lt_of_lt_of_le l7.out hHeld.size)
        have D6 := hid (rd_blockP d6)
        have D7 := hid (rd_blockP d7)
        clear r7 h7 W7 T7 l7 c0 c1 al7 i0 i1 d6 d7 hHeld
        try clear hB
        try clear hG
        try clear e6 e7
        go_wp2_with fail
        go_still_tail 2, (by kernel_rfl)
        have B2 := (ext_alloc w9 (.cells #[.slice (some ⟨g6, 0, none⟩) 32 32, .slice (some ⟨g7, 0, none⟩) 32 32] 27)).trans ((bel_drew (w9.alloc (.cells #[.slice (some ⟨g6, 0, none⟩) 32 32, .slice (some ⟨g7, 0, none⟩) 32 32] 27))).mono (ext_alloc w9 _).size)
        have hR2 := hid ((hR.out _ _ _ D6.out D7.out).bel (bel_drew _))
        have hT2 := hid (hT9.out.bel B2 l9.out)
        replace hz9 := hid ((B2.block _ (block_lt hz9.out)).trans hz9.out)
        replace W9 := hid (W9.out.trans (B2.mono W9.out.size))
        clear B2 D6 D7 hT9 hR
        go_wp2_with fail
        refine (hO.out _ _ hR2.out hT2.out).mono ?_
        rintro e w10 ⟨rfl, hb10⟩
        have R3 := hid ((hb10.block _ (block_lt hz9.out)).trans hz9.out)
        have W3 := hid (W9.out.trans (hb10.mono W9.out.size))
        clear hb10
        go_wp2_with (first
          | ((with_reducible refine wpList_store_row rfl 26 (.tmp 4) (.tmp 42) rfl _ _ rfl rfl 26 z32 ?_ ?_ ?_ ?_ ?_); exact R3.out; (rw [z1]; exact size32); (rw [z1]; exact z32_size); exact o1; intro w12 hg4 hb4 hs4))
        refine bodyPost_ret (results_cell_row Tryz.results42 _ _ (w.heap.size + 1) 26 _ (0, 0) _ rfl hg4 hu rfl (by rw [z1]; exact size32)) rfl ⟨rfl, W3.out.grown hb4 W3.out.size (by intro k hk; injection hk with hk; omega)⟩
      refine AllReadyH.cons (o := _) rfl (fun K hK => ?_) ?_
      · skip
        refine step_alloc_row rfl 26 rfl z32 info32 ?_
        intro g7 w8 b7 e7 hB
        have m7 := Nat.le_trans hHeld.size b7
        try have n67 : g6 ≠ g7 := fun h => by have := block_lt e6; omega
        try replace e6 := (hB.block _ (block_lt e6)).trans e6
        refine hK.out _ _ ?_ (fun hHeld => ?_)
        · exact hHeld.trans (hB.mono hHeld.size)
        clear hK K
        try simp only [Act.put, sQa, sQb, sQc, gQa, gQb, gQc]
        refine wpAnyH_ready (rs := [7]) (by kernel_rfl) (by simp) ?_
        refine AllReadyH.cons (o := _) rfl (fun K hK => ?_) AllReadyH.nil
        go_simp
        refine (i1.out _ (r7.out.bel hHeld) (T7.out.bel hHeld l7.out)).mono ?_
        rintro e w8 ⟨rfl, hB⟩
        try replace e6 := (hB.block _ (block_lt e6)).trans e6
        try replace e7 := (hB.block _ (block_lt e7)).trans e7
        go_wp2_with fail
        refine hK.out _ _ ?_ (fun hHeld => ?_)
        · exact hHeld.trans (hB.mono hHeld.size)
        clear hK K
        try simp only [Act.put, sQa, sQb, sQc, gQa, gQb, gQc]
        refine wpAnyH_ready (rs := [10]) (by kernel_rfl) (by simp) ?_
        refine AllReadyH.cons (o := _) rfl (fun K hK => ?_) AllReadyH.nil
        refine step_store_row rfl 26 (.tmp 7) (.tmp 34) rfl g6 _ rfl rfl 26 z32 e6 (by rw [y0]; exact size32) (by rw [y0]; exact z32_size) p0 ?_
        intro w8 d6 hG
        replace e7 := (hG.block _ (block_lt e7) (by simpa using n67.symm)).trans e7
        refine hK.out _ _ ?_ (fun hHeld => ?_)
        · exact hHeld.grown hG hHeld.size (by intro k hk; injection hk with hk; omega)
        clear hK K
        try simp only [Act.put, sQa, sQb, sQc, gQa, gQb, gQc]
        refine wpAnyH_ready (rs := [11]) (by kernel_rfl) (by simp) ?_
        refine AllReadyH.cons (o := _) rfl (fun K hK => ?_) AllReadyH.nil
        refine step_store_row rfl 26 (.tmp 8) (.tmp 38) rfl g7 _ rfl rfl 26 z32 e7 (by rw [y1]; exact size32) (by rw [y1]; exact z32_size) p1 ?_
        intro w9 d7 hG
        replace d6 := (hG.block _ (block_lt d6) (by simpa using n67)).trans d6
        refine hK.out _ _ ?_ (fun hHeld => ?_)
        · exact hHeld.grown hG hHeld.size (by intro k hk; injection hk with hk; omega)
        clear hK K
        try simp only [Act.put, sQa, sQb, sQc, gQa, gQb, gQc]
        refine wpAnyH_done (by kernel_rfl) ?_ _
        refine NoPanic.normal ?_
        have hz9 := hid ((hHeld.block _ (block_lt h7.out)).trans h7.out)
        have W9 := hid (W7.out.trans (hHeld.mono W7.out.size))
        have hT9 := hid (T7.out.bel hHeld l7.out)
        have l9 := hid (Nat.lt_of_lt_of_le l7.out hHeld.size)
        have D6 := hid (rd_blockP d6)
        have D7 := hid (rd_blockP d7)
        clear r7 h7 W7 T7 l7 c0 c1 al7 i0 i1 d6 d7 hHeld
        try clear hB
        try clear hG
        try clear e6 e7
        go_wp2_with fail
        go_still_tail 2, (by kernel_rfl)
        have B2 := (ext_alloc w9 (.cells #[.slice (some ⟨g6, 0, none⟩) 32 32, .slice (some ⟨g7, 0, none⟩) 32 32] 27)).trans ((bel_drew (w9.alloc (.cells #[.slice (some ⟨g6, 0, none⟩) 32 32, .slice (some ⟨g7, 0, none⟩) 32 32] 27))).mono (ext_alloc w9 _).size)
        have hR2 := hid ((hR.out _ _ _ D6.out D7.out).bel (bel_drew _))
        have hT2 := hid (hT9.out.bel B2 l9.out)
        replace hz9 := hid ((B2.block _ (block_lt hz9.out)).trans hz9.out)
        replace W9 := hid (W9.out.trans (B2.mono W9.out.size))
        clear B2 D6 D7 hT9 hR
        go_wp2_with fail
        refine (hO.out _ _ hR2.out hT2.out).mono ?_
        rintro e w10 ⟨rfl, hb10⟩
        have R3 := hid ((hb10.block _ (block_lt hz9.out)).trans hz9.out)
        have W3 := hid (W9.out.trans (hb10.mono W9.out.size))
        clear hb10
        go_wp2_with (first
          | ((with_reducible refine wpList_store_row rfl 26 (.tmp 4) (.tmp 42) rfl _ _ rfl rfl 26 z32 ?_ ?_ ?_ ?_ ?_); exact R3.out; (rw [z1]; exact size32); (rw [z1]; exact z32_size); exact o1; intro w12 hg4 hb4 hs4))
        refine bodyPost_ret (results_cell_row Tryz.results42 _ _ (w.heap.size + 1) 26 _ (0, 0) _ rfl hg4 hu rfl (by rw [z1]; exact size32)) rfl ⟨rfl, W3.out.grown hb4 W3.out.size (by intro k hk; injection hk with hk; omega)⟩
      exact AllReadyH.nil
    refine AllReadyH.cons (o := _) rfl (fun K hK => ?_) ?_
    · skip
      refine step_alloc_row rfl 26 rfl z32 info32 ?_
      intro g7 w8 b7 e7 hB
      have m7 := Nat.le_trans hHeld.size b7
      try have n67 : g6 ≠ g7 := fun h => by have := block_lt e6; omega
      try replace e6 := (hB.block _ (block_lt e6)).trans e6
      refine hK.out _ _ ?_ (fun hHeld => ?_)
      · exact hHeld.trans (hB.mono hHeld.size)
      clear hK K
      try simp only [Act.put, sQa, sQb, sQc, gQa, gQb, gQc]
      refine wpAnyH_ready (rs := [7, 8]) (by kernel_rfl) (by simp) ?_
      refine AllReadyH.cons (o := _) rfl (fun K hK => ?_) ?_
      · skip
        go_simp
        refine (i1.out _ (r7.out.bel hHeld) (T7.out.bel hHeld l7.out)).mono ?_
        rintro e w8 ⟨rfl, hB⟩
        try replace e6 := (hB.block _ (block_lt e6)).trans e6
        try replace e7 := (hB.block _ (block_lt e7)).trans e7
        go_wp2_with fail
        refine hK.out _ _ ?_ (fun hHeld => ?_)
        · exact hHeld.trans (hB.mono hHeld.size)
        clear hK K
        try simp only [Act.put, sQa, sQb, sQc, gQa, gQb, gQc]
        refine wpAnyH_ready (rs := [8]) (by kernel_rfl) (by simp) ?_
        refine AllReadyH.cons (o := _) rfl (fun K hK => ?_) AllReadyH.nil
        refine step_alloc_row rfl 26 rfl z32 info32 ?_
        intro g6 w8 b6 e6 hB
        have m6 := Nat.le_trans hHeld.size b6
        try have n67 : g6 ≠ g7 := fun h => by have := block_lt e7; omega
        try replace e7 := (hB.block _ (block_lt e7)).trans e7
        refine hK.out _ _ ?_ (fun hHeld => ?_)
        · exact hHeld.trans (hB.mono hHeld.size)
        clear hK K
        try simp only [Act.put, sQa, sQb, sQc, gQa, gQb, gQc]
        refine wpAnyH_ready (rs := [10]) (by kernel_rfl) (by simp) ?_
        refine AllReadyH.cons (o := _) rfl (fun K hK => ?_) AllReadyH.nil
        refine step_store_row rfl 26 (.tmp 7) (.tmp 34) rfl g6 _ rfl rfl 26 z32 e6 (by rw [y0]; exact size32) (by rw [y0]; exact z32_size) p0 ?_
        intro w8 d6 hG
        replace e7 := (hG.block _ (block_lt e7) (by simpa using n67.symm)).trans e7
        refine hK.out _ _ ?_ (fun hHeld => ?_)
        · exact hHeld.grown hG hHeld.size (by intro k hk; injection hk with hk; omega)
        clear hK K
        try simp only [Act.put, sQa, sQb, sQc, gQa, gQb, gQc]
        refine wpAnyH_ready (rs := [11]) (by kernel_rfl) (by simp) ?_
        refine AllReadyH.cons (o := _) rfl (fun K hK => ?_) AllReadyH.nil
        refine step_store_row rfl 26 (.tmp 8) (.tmp 38) rfl g7 _ rfl rfl 26 z32 e7 (by rw [y1]; exact size32) (by rw [y1]; exact z32_size) p1 ?_
        intro w9 d7 hG
        replace d6 := (hG.block _ (block_lt d6) (by simpa using n67)).trans d6
        refine hK.out _ _ ?_ (fun hHeld => ?_)
        · exact hHeld.grown hG hHeld.size (by intro k hk; injection hk with hk; omega)
        clear hK K
        try simp only [Act.put, sQa, sQb, sQc, gQa, gQb, gQc]
        refine wpAnyH_done (by kernel_rfl) ?_ _
        refine NoPanic.normal ?_
        have hz9 := hid ((hHeld.block _ (block_lt h7.out)).trans h7.out)
        have W9 := hid (W7.out.trans (hHeld.mono W7.out.size))
        have hT9 := hid (T7.out.bel hHeld l7.out)
        have l9 := hid (Nat.lt_of_lt_of_le l7.out hHeld.size)
        have D6 := hid (rd_blockP d6)
        have D7 := hid (rd_blockP d7)
        clear r7 h7 W7 T7 l7 c0 c1 al7 i0 i1 d6 d7 hHeld
        try clear hB
        try clear hG
        try clear e6 e7
        go_wp2_with fail
        go_still_tail 2, (by kernel_rfl)
        have B2 := (ext_alloc w9 (.cells #[.slice (some ⟨g6, 0, none⟩) 32 32, .slice (some ⟨g7, 0, none⟩) 32 32] 27)).trans ((bel_drew (w9.alloc (.cells #[.slice (some ⟨g6, 0, none⟩) 32 32, .slice (some ⟨g7, 0, none⟩) 32 32] 27))).mono (ext_alloc w9 _).size)
        have hR2 := hid ((hR.out _ _ _ D6.out D7.out).bel (bel_drew _))
        have hT2 := hid (hT9.out.bel B2 l9.out)
        replace hz9 := hid ((B2.block _ (block_lt hz9.out)).trans hz9.out)
        replace W9 := hid (W9.out.trans (B2.mono W9.out.size))
        clear B2 D6 D7 hT9 hR
        go_wp2_with fail
        refine (hO.out _ _ hR2.out hT2.out).mono ?_
        rintro e w10 ⟨rfl, hb10⟩
        have R3 := hid ((hb10.block _ (block_lt hz9.out)).trans hz9.out)
        have W3 := hid (W9.out.trans (hb10.mono W9.out.size))
        clear hb10
        go_wp2_with (first
          | ((with_reducible refine wpList_store_row rfl 26 (.tmp 4) (.tmp 42) rfl _ _ rfl rfl 26 z32 ?_ ?_ ?_ ?_ ?_); exact R3.out; (rw [z1]; exact size32); (rw [z1]; exact z32_size); exact o1; intro w12 hg4 hb4 hs4))
        refine bodyPost_ret (results_cell_row Tryz.results42 _ _ (w.heap.size + 1) 26 _ (0, 0) _ rfl hg4 hu rfl (by rw [z1]; exact size32)) rfl ⟨rfl, W3.out.grown hb4 W3.out.size (by intro k hk; injection hk with hk; omega)⟩
      refine AllReadyH.cons (o := _) rfl (fun K hK => ?_) ?_
      · skip
        refine step_alloc_row rfl 26 rfl z32 info32 ?_
        intro g6 w8 b6 e6 hB
        have m6 := Nat.le_trans hHeld.size b6
        try have n67 : g6 ≠ g7 := fun h => by have := block_lt e7; omega
        try replace e7 := (hB.block _ (block_lt e7)).trans e7
        refine hK.out _ _ ?_ (fun hHeld => ?_)
        · exact hHeld.trans (hB.mono hHeld.size)
        clear hK K
        try simp only [Act.put, sQa, sQb, sQc, gQa, gQb, gQc]
        refine wpAnyH_ready (rs := [7]) (by kernel_rfl) (by simp) ?_
        refine AllReadyH.cons (o := _) rfl (fun K hK => ?_) AllReadyH.nil
        go_simp
        refine (i1.out _ (r7.out.bel hHeld) (T7.out.bel hHeld l7.out)).mono ?_
        rintro e w8 ⟨rfl, hB⟩
        try replace e6 := (hB.block _ (block_lt e6)).trans e6
        try replace e7 := (hB.block _ (block_lt e7)).trans e7
        go_wp2_with fail
        refine hK.out _ _ ?_ (fun hHeld => ?_)
        · exact hHeld.trans (hB.mono hHeld.size)
        clear hK K
        try simp only [Act.put, sQa, sQb, sQc, gQa, gQb, gQc]
        refine wpAnyH_ready (rs := [10]) (by kernel_rfl) (by simp) ?_
        refine AllReadyH.cons (o := _) rfl (fun K hK => ?_) AllReadyH.nil
        refine step_store_row rfl 26 (.tmp 7) (.tmp 34) rfl g6 _ rfl rfl 26 z32 e6 (by rw [y0]; exact size32) (by rw [y0]; exact z32_size) p0 ?_
        intro w8 d6 hG
        replace e7 := (hG.block _ (block_lt e7) (by simpa using n67.symm)).trans e7
        refine hK.out _ _ ?_ (fun hHeld => ?_)
        · exact hHeld.grown hG hHeld.size (by intro k hk; injection hk with hk; omega)
        clear hK K
        try simp only [Act.put, sQa, sQb, sQc, gQa, gQb, gQc]
        refine wpAnyH_ready (rs := [11]) (by kernel_rfl) (by simp) ?_
        refine AllReadyH.cons (o := _) rfl (fun K hK => ?_) AllReadyH.nil
        refine step_store_row rfl 26 (.tmp 8) (.tmp 38) rfl g7 _ rfl rfl 26 z32 e7 (by rw [y1]; exact size32) (by rw [y1]; exact z32_size) p1 ?_
        intro w9 d7 hG
        replace d6 := (hG.block _ (block_lt d6) (by simpa using n67)).trans d6
        refine hK.out _ _ ?_ (fun hHeld => ?_)
        · exact hHeld.grown hG hHeld.size (by intro k hk; injection hk with hk; omega)
        clear hK K
        try simp only [Act.put, sQa, sQb, sQc, gQa, gQb, gQc]
        refine wpAnyH_done (by kernel_rfl) ?_ _
        refine NoPanic.normal ?_
        have hz9 := hid ((hHeld.block _ (block_lt h7.out)).trans h7.out)
        have W9 := hid (W7.out.trans (hHeld.mono W7.out.size))
        have hT9 := hid (T7.out.bel hHeld l7.out)
        have l9 := hid (Nat.lt_of_lt_of_le l7.out hHeld.size)
        have D6 := hid (rd_blockP d6)
        have D7 := hid (rd_blockP d7)
        clear r7 h7 W7 T7 l7 c0 c1 al7 i0 i1 d6 d7 hHeld
        try clear hB
        try clear hG
        try clear e6 e7
        go_wp2_with fail
        go_still_tail 2, (by kernel_rfl)
        have B2 := (ext_alloc w9 (.cells #[.slice (some ⟨g6, 0, none⟩) 32 32, .slice (some ⟨g7, 0, none⟩) 32 32] 27)).trans ((bel_drew (w9.alloc (.cells #[.slice (some ⟨g6, 0, none⟩) 32 32, .slice (some ⟨g7, 0, none⟩) 32 32] 27))).mono (ext_alloc w9 _).size)
        have hR2 := hid ((hR.out _ _ _ D6.out D7.out).bel (bel_drew _))
        have hT2 := hid (hT9.out.bel B2 l9.out)
        replace hz9 := hid ((B2.block _ (block_lt hz9.out)).trans hz9.out)
        replace W9 := hid (W9.out.trans (B2.mono W9.out.size))
        clear B2 D6 D7 hT9 hR
        go_wp2_with fail
        refine (hO.out _ _ hR2.out hT2.out).mono ?_
        rintro e w10 ⟨rfl, hb10⟩
        have R3 := hid ((hb10.block _ (block_lt hz9.out)).trans hz9.out)
        have W3 := hid (W9.out.trans (hb10.mono W9.out.size))
        clear hb10
        go_wp2_with (first
          | ((with_reducible refine wpList_store_row rfl 26 (.tmp 4) (.tmp 42) rfl _ _ rfl rfl 26 z32 ?_ ?_ ?_ ?_ ?_); exact R3.out; (rw [z1]; exact size32); (rw [z1]; exact z32_size); exact o1; intro w12 hg4 hb4 hs4))
        refine bodyPost_ret (results_cell_row Tryz.results42 _ _ (w.heap.size + 1) 26 _ (0, 0) _ rfl hg4 hu rfl (by rw [z1]; exact size32)) rfl ⟨rfl, W3.out.grown hb4 W3.out.size (by intro k hk; injection hk with hk; omega)⟩
      exact AllReadyH.nil
    exact AllReadyH.nil
  refine AllReadyH.cons (o := _) rfl (fun K hK => ?_) ?_
  · skip
    refine step_alloc_row rfl 26 rfl z32 info32 ?_
    intro g6 w8 b6 e6 hB
    have m6 := Nat.le_trans hHeld.size b6
    try have n67 : g6 ≠ g7 := fun h => by have := block_lt e7; omega
    try replace e7 := (hB.block _ (block_lt e7)).trans e7
    refine hK.out _ _ ?_ (fun hHeld => ?_)
    · exact hHeld.trans (hB.mono hHeld.size)
    clear hK K
    try simp only [Act.put, sQa, sQb, sQc, gQa, gQb, gQc]
    refine wpAnyH_ready (rs := [3, 9]) (by kernel_rfl) (by simp) ?_
    refine AllReadyH.cons (o := _) rfl (fun K hK => ?_) ?_
    · skip
      go_simp
      refine (i0.out _ (r7.out.bel hHeld) (T7.out.bel hHeld l7.out)).mono ?_
      rintro e w8 ⟨rfl, hB⟩
      try replace e6 := (hB.block _ (block_lt e6)).trans e6
      try replace e7 := (hB.block _ (block_lt e7)).trans e7
      go_wp2_with fail
      refine hK.out _ _ ?_ (fun hHeld => ?_)
      · exact hHeld.trans (hB.mono hHeld.size)
      clear hK K
      try simp only [Act.put, sQa, sQb, sQc, gQa, gQb, gQc]
      refine wpAnyH_ready (rs := [7, 9]) (by kernel_rfl) (by simp) ?_
      refine AllReadyH.cons (o := _) rfl (fun K hK => ?_) ?_
      · skip
        go_simp
        refine (i1.out _ (r7.out.bel hHeld) (T7.out.bel hHeld l7.out)).mono ?_
        rintro e w8 ⟨rfl, hB⟩
        try replace e6 := (hB.block _ (block_lt e6)).trans e6
        try replace e7 := (hB.block _ (block_lt e7)).trans e7
        go_wp2_with fail
        refine hK.out _ _ ?_ (fun hHeld => ?_)
        · exact hHeld.trans (hB.mono hHeld.size)
        clear hK K
        try simp only [Act.put, sQa, sQb, sQc, gQa, gQb, gQc]
        refine wpAnyH_ready (rs := [9]) (by kernel_rfl) (by simp) ?_
        refine AllReadyH.cons (o := _) rfl (fun K hK => ?_) AllReadyH.nil
        refine step_alloc_row rfl 26 rfl z32 info32 ?_
        intro g7 w8 b7 e7 hB
        have m7 := Nat.le_trans hHeld.size b7
        try have n67 : g6 ≠ g7 := fun h => by have := block_lt e6; omega
        try replace e6 := (hB.block _ (block_lt e6)).trans e6
        refine hK.out _ _ ?_ (fun hHeld => ?_)
        · exact hHeld.trans (hB.mono hHeld.size)
        clear hK K
        try simp only [Act.put, sQa, sQb, sQc, gQa, gQb, gQc]
        refine wpAnyH_ready (rs := [10]) (by kernel_rfl) (by simp) ?_
        refine AllReadyH.cons (o := _) rfl (fun K hK => ?_) AllReadyH.nil
        refine step_store_row rfl 26 (.tmp 7) (.tmp 34) rfl g6 _ rfl rfl 26 z32 e6 (by rw [y0]; exact size32) (by rw [y0]; exact z32_size) p0 ?_
        intro w8 d6 hG
        replace e7 := (hG.block _ (block_lt e7) (by simpa using n67.symm)).trans e7
        refine hK.out _ _ ?_ (fun hHeld => ?_)
        · exact hHeld.grown hG hHeld.size (by intro k hk; injection hk with hk; omega)
        clear hK K
        try simp only [Act.put, sQa, sQb, sQc, gQa, gQb, gQc]
        refine wpAnyH_ready (rs := [11]) (by kernel_rfl) (by simp) ?_
        refine AllReadyH.cons (o := _) rfl (fun K hK => ?_) AllReadyH.nil
        refine step_store_row rfl 26 (.tmp 8) (.tmp 38) rfl g7 _ rfl rfl 26 z32 e7 (by rw [y1]; exact size32) (by rw [y1]; exact z32_size) p1 ?_
        intro w9 d7 hG
        replace d6 := (hG.block _ (block_lt d6) (by simpa using n67)).trans d6
        refine hK.out _ _ ?_ (fun hHeld => ?_)
        · exact hHeld.grown hG hHeld.size (by intro k hk; injection hk with hk; omega)
        clear hK K
        try simp only [Act.put, sQa, sQb, sQc, gQa, gQb, gQc]
        refine wpAnyH_done (by kernel_rfl) ?_ _
        refine NoPanic.normal ?_
        have hz9 := hid ((hHeld.block _ (block_lt h7.out)).trans h7.out)
        have W9 := hid (W7.out.trans (hHeld.mono W7.out.size))
        have hT9 := hid (T7.out.bel hHeld l7.out)
        have l9 := hid (Nat.lt_of_lt_of_le l7.out hHeld.size)
        have D6 := hid (rd_blockP d6)
        have D7 := hid (rd_blockP d7)
        clear r7 h7 W7 T7 l7 c0 c1 al7 i0 i1 d6 d7 hHeld
        try clear hB
        try clear hG
        try clear e6 e7
        go_wp2_with fail
        go_still_tail 2, (by kernel_rfl)
        have B2 := (ext_alloc w9 (.cells #[.slice (some ⟨g6, 0, none⟩) 32 32, .slice (some ⟨g7, 0, none⟩) 32 32] 27)).trans ((bel_drew (w9.alloc (.cells #[.slice (some ⟨g6, 0, none⟩) 32 32, .slice (some ⟨g7, 0, none⟩) 32 32] 27))).mono (ext_alloc w9 _).size)
        have hR2 := hid ((hR.out _ _ _ D6.out D7.out).bel (bel_drew _))
        have hT2 := hid (hT9.out.bel B2 l9.out)
        replace hz9 := hid ((B2.block _ (block_lt hz9.out)).trans hz9.out)
        replace W9 := hid (W9.out.trans (B2.mono W9.out.size))
        clear B2 D6 D7 hT9 hR
        go_wp2_with fail
        refine (hO.out _ _ hR2.out hT2.out).mono ?_
        rintro e w10 ⟨rfl, hb10⟩
        have R3 := hid ((hb10.block _ (block_lt hz9.out)).trans hz9.out)
        have W3 := hid (W9.out.trans (hb10.mono W9.out.size))
        clear hb10
        go_wp2_with (first
          | ((with_reducible refine wpList_store_row rfl 26 (.tmp 4) (.tmp 42) rfl _ _ rfl rfl 26 z32 ?_ ?_ ?_ ?_ ?_); exact R3.out; (rw [z1]; exact size32); (rw [z1]; exact z32_size); exact o1; intro w12 hg4 hb4 hs4))
        refine bodyPost_ret (results_cell_row Tryz.results42 _ _ (w.heap.size + 1) 26 _ (0, 0) _ rfl hg4 hu rfl (by rw [z1]; exact size32)) rfl ⟨rfl, W3.out.grown hb4 W3.out.size (by intro k hk; injection hk with hk; omega)⟩
      refine AllReadyH.cons (o := _) rfl (fun K hK => ?_) ?_
      · skip
        refine step_alloc_row rfl 26 rfl z32 info32 ?_
        intro g7 w8 b7 e7 hB
        have m7 := Nat.le_trans hHeld.size b7
        try have n67 : g6 ≠ g7 := fun h => by have := block_lt e6; omega
        try replace e6 := (hB.block _ (block_lt e6)).trans e6
        refine hK.out _ _ ?_ (fun hHeld => ?_)
        · exact hHeld.trans (hB.mono hHeld.size)
        clear hK K
        try simp only [Act.put, sQa, sQb, sQc, gQa, gQb, gQc]
        refine wpAnyH_ready (rs := [7]) (by kernel_rfl) (by simp) ?_
        refine AllReadyH.cons (o := _) rfl (fun K hK => ?_) AllReadyH.nil
        go_simp
        refine (i1.out _ (r7.out.bel hHeld) (T7.out.bel hHeld l7.out)).mono ?_
        rintro e w8 ⟨rfl, hB⟩
        try replace e6 := (hB.block _ (block_lt e6)).trans e6
        try replace e7 := (hB.block _ (block_lt e7)).trans e7
        go_wp2_with fail
        refine hK.out _ _ ?_ (fun hHeld => ?_)
        · exact hHeld.trans (hB.mono hHeld.size)
        clear hK K
        try simp only [Act.put, sQa, sQb, sQc, gQa, gQb, gQc]
        refine wpAnyH_ready (rs := [10]) (by kernel_rfl) (by simp) ?_
        refine AllReadyH.cons (o := _) rfl (fun K hK => ?_) AllReadyH.nil
        refine step_store_row rfl 26 (.tmp 7) (.tmp 34) rfl g6 _ rfl rfl 26 z32 e6 (by rw [y0]; exact size32) (by rw [y0]; exact z32_size) p0 ?_
        intro w8 d6 hG
        replace e7 := (hG.block _ (block_lt e7) (by simpa using n67.symm)).trans e7
        refine hK.out _ _ ?_ (fun hHeld => ?_)
        · exact hHeld.grown hG hHeld.size (by intro k hk; injection hk with hk; omega)
        clear hK K
        try simp only [Act.put, sQa, sQb, sQc, gQa, gQb, gQc]
        refine wpAnyH_ready (rs := [11]) (by kernel_rfl) (by simp) ?_
        refine AllReadyH.cons (o := _) rfl (fun K hK => ?_) AllReadyH.nil
        refine step_store_row rfl 26 (.tmp 8) (.tmp 38) rfl g7 _ rfl rfl 26 z32 e7 (by rw [y1]; exact size32) (by rw [y1]; exact z32_size) p1 ?_
        intro w9 d7 hG
        replace d6 := (hG.block _ (block_lt d6) (by simpa using n67)).trans d6
        refine hK.out _ _ ?_ (fun hHeld => ?_)
        · exact hHeld.grown hG hHeld.size (by intro k hk; injection hk with hk; omega)
        clear hK K
        try simp only [Act.put, sQa, sQb, sQc, gQa, gQb, gQc]
        refine wpAnyH_done (by kernel_rfl) ?_ _
        refine NoPanic.normal ?_
        have hz9 := hid ((hHeld.block _ (block_lt h7.out)).trans h7.out)
        have W9 := hid (W7.out.trans (hHeld.mono W7.out.size))
        have hT9 := hid (T7.out.bel hHeld l7.out)
        have l9 := hid (Nat.lt_of_lt_of_le l7.out hHeld.size)
        have D6 := hid (rd_blockP d6)
        have D7 := hid (rd_blockP d7)
        clear r7 h7 W7 T7 l7 c0 c1 al7 i0 i1 d6 d7 hHeld
        try clear hB
        try clear hG
        try clear e6 e7
        go_wp2_with fail
        go_still_tail 2, (by kernel_rfl)
        have B2 := (ext_alloc w9 (.cells #[.slice (some ⟨g6, 0, none⟩) 32 32, .slice (some ⟨g7, 0, none⟩) 32 32] 27)).trans ((bel_drew (w9.alloc (.cells #[.slice (some ⟨g6, 0, none⟩) 32 32, .slice (some ⟨g7, 0, none⟩) 32 32] 27))).mono (ext_alloc w9 _).size)
        have hR2 := hid ((hR.out _ _ _ D6.out D7.out).bel (bel_drew _))
        have hT2 := hid (hT9.out.bel B2 l9.out)
        replace hz9 := hid ((B2.block _ (block_lt hz9.out)).trans hz9.out)
        replace W9 := hid (W9.out.trans (B2.mono W9.out.size))
        clear B2 D6 D7 hT9 hR
        go_wp2_with fail
        refine (hO.out _ _ hR2.out hT2.out).mono ?_
        rintro e w10 ⟨rfl, hb10⟩
        have R3 := hid ((hb10.block _ (block_lt hz9.out)).trans hz9.out)
        have W3 := hid (W9.out.trans (hb10.mono W9.out.size))
        clear hb10
        go_wp2_with (first
          | ((with_reducible refine wpList_store_row rfl 26 (.tmp 4) (.tmp 42) rfl _ _ rfl rfl 26 z32 ?_ ?_ ?_ ?_ ?_); exact R3.out; (rw [z1]; exact size32); (rw [z1]; exact z32_size); exact o1; intro w12 hg4 hb4 hs4))
        refine bodyPost_ret (results_cell_row Tryz.results42 _ _ (w.heap.size + 1) 26 _ (0, 0) _ rfl hg4 hu rfl (by rw [z1]; exact size32)) rfl ⟨rfl, W3.out.grown hb4 W3.out.size (by intro k hk; injection hk with hk; omega)⟩
      exact AllReadyH.nil
    refine AllReadyH.cons (o := _) rfl (fun K hK => ?_) ?_
    · skip
      refine step_alloc_row rfl 26 rfl z32 info32 ?_
      intro g7 w8 b7 e7 hB
      have m7 := Nat.le_trans hHeld.size b7
      try have n67 : g6 ≠ g7 := fun h => by have := block_lt e6; omega
      try replace e6 := (hB.block _ (block_lt e6)).trans e6
      refine hK.out _ _ ?_ (fun hHeld => ?_)
      · exact hHeld.trans (hB.mono hHeld.size)
      clear hK K
      try simp only [Act.put, sQa, sQb, sQc, gQa, gQb, gQc]
      refine wpAnyH_ready (rs := [3]) (by kernel_rfl) (by simp) ?_
      refine AllReadyH.cons (o := _) rfl (fun K hK => ?_) AllReadyH.nil
      go_simp
      refine (i0.out _ (r7.out.bel hHeld) (T7.out.bel hHeld l7.out)).mono ?_
      rintro e w8 ⟨rfl, hB⟩
      try replace e6 := (hB.block _ (block_lt e6)).trans e6
      try replace e7 := (hB.block _ (block_lt e7)).trans e7
      go_wp2_with fail
      refine hK.out _ _ ?_ (fun hHeld => ?_)
      · exact hHeld.trans (hB.mono hHeld.size)
      clear hK K
      try simp only [Act.put, sQa, sQb, sQc, gQa, gQb, gQc]
      refine wpAnyH_ready (rs := [7]) (by kernel_rfl) (by simp) ?_
      refine AllReadyH.cons (o := _) rfl (fun K hK => ?_) AllReadyH.nil
      go_simp
      refine (i1.out _ (r7.out.bel hHeld) (T7.out.bel hHeld l7.out)).mono ?_
      rintro e w8 ⟨rfl, hB⟩
      try replace e6 := (hB.block _ (block_lt e6)).trans e6
      try replace e7 := (hB.block _ (block_lt e7)).trans e7
      go_wp2_with fail
      refine hK.out _ _ ?_ (fun hHeld => ?_)
      · exact hHeld.trans (hB.mono hHeld.size)
      clear hK K
      try simp only [Act.put, sQa, sQb, sQc, gQa, gQb, gQc]
      refine wpAnyH_ready (rs := [10]) (by kernel_rfl) (by simp) ?_
      refine AllReadyH.cons (o := _) rfl (fun K hK => ?_) AllReadyH.nil
      refine step_store_row rfl 26 (.tmp 7) (.tmp 34) rfl g6 _ rfl rfl 26 z32 e6 (by rw [y0]; exact size32) (by rw [y0]; exact z32_size) p0 ?_
      intro w8 d6 hG
      replace e7 := (hG.block _ (block_lt e7) (by simpa using n67.symm)).trans e7
      refine hK.out _ _ ?_ (fun hHeld => ?_)
      · exact hHeld.grown hG hHeld.size (by intro k hk; injection hk with hk; omega)
      clear hK K
      try simp only [Act.put, sQa, sQb, sQc, gQa, gQb, gQc]
      refine wpAnyH_ready (rs := [11]) (by kernel_rfl) (by simp) ?_
      refine AllReadyH.cons (o := _) rfl (fun K hK => ?_) AllReadyH.nil
      refine step_store_row rfl 26 (.tmp 8) (.tmp 38) rfl g7 _ rfl rfl 26 z32 e7 (by rw [y1]; exact size32) (by rw [y1]; exact z32_size) p1 ?_
      intro w9 d7 hG
      replace d6 := (hG.block _ (block_lt d6) (by simpa using n67)).trans d6
      refine hK.out _ _ ?_ (fun hHeld => ?_)
      · exact hHeld.grown hG hHeld.size (by intro k hk; injection hk with hk; omega)
      clear hK K
      try simp only [Act.put, sQa, sQb, sQc, gQa, gQb, gQc]
      refine wpAnyH_done (by kernel_rfl) ?_ _
      refine NoPanic.normal ?_
      have hz9 := hid ((hHeld.block _ (block_lt h7.out)).trans h7.out)
      have W9 := hid (W7.out.trans (hHeld.mono W7.out.size))
      have hT9 := hid (T7.out.bel hHeld l7.out)
      have l9 := hid (Nat.lt_of_lt_of_le l7.out hHeld.size)
      have D6 := hid (rd_blockP d6)
      have D7 := hid (rd_blockP d7)
      clear r7 h7 W7 T7 l7 c0 c1 al7 i0 i1 d6 d7 hHeld
      try clear hB
      try clear hG
      try clear e6 e7
      go_wp2_with fail
      go_still_tail 2, (by kernel_rfl)
      have B2 := (ext_alloc w9 (.cells #[.slice (some ⟨g6, 0, none⟩) 32 32, .slice (some ⟨g7, 0, none⟩) 32 32] 27)).trans ((bel_drew (w9.alloc (.cells #[.slice (some ⟨g6, 0, none⟩) 32 32, .slice (some ⟨g7, 0, none⟩) 32 32] 27))).mono (ext_alloc w9 _).size)
      have hR2 := hid ((hR.out _ _ _ D6.out D7.out).bel (bel_drew _))
      have hT2 := hid (hT9.out.bel B2 l9.out)
      replace hz9 := hid ((B2.block _ (block_lt hz9.out)).trans hz9.out)
      replace W9 := hid (W9.out.trans (B2.mono W9.out.size))
      clear B2 D6 D7 hT9 hR
      go_wp2_with fail
      refine (hO.out _ _ hR2.out hT2.out).mono ?_
      rintro e w10 ⟨rfl, hb10⟩
      have R3 := hid ((hb10.block _ (block_lt hz9.out)).trans hz9.out)
      have W3 := hid (W9.out.trans (hb10.mono W9.out.size))
      clear hb10
      go_wp2_with (first
        | ((with_reducible refine wpList_store_row rfl 26 (.tmp 4) (.tmp 42) rfl _ _ rfl rfl 26 z32 ?_ ?_ ?_ ?_ ?_); exact R3.out; (rw [z1]; exact size32); (rw [z1]; exact z32_size); exact o1; intro w12 hg4 hb4 hs4))
      refine bodyPost_ret (results_cell_row Tryz.results42 _ _ (w.heap.size + 1) 26 _ (0, 0) _ rfl hg4 hu rfl (by rw [z1]; exact size32)) rfl ⟨rfl, W3.out.grown hb4 W3.out.size (by intro k hk; injection hk with hk; omega)⟩
    exact AllReadyH.nil
  refine AllReadyH.cons (o := _) rfl (fun K hK => ?_) ?_
  · skip
    refine step_alloc_row rfl 26 rfl z32 info32 ?_
    intro g7 w8 b7 e7 hB
    have m7 := Nat.le_trans hHeld.size b7
    try have n67 : g6 ≠ g7 := fun h => by have := block_lt e6; omega
    try replace e6 := (hB.block _ (block_lt e6)).trans e6
    refine hK.out _ _ ?_ (fun hHeld => ?_)
    · exact hHeld.trans (hB.mono hHeld.size)
    clear hK K
    try simp only [Act.put, sQa, sQb, sQc, gQa, gQb, gQc]
    refine wpAnyH_ready (rs := [3, 8]) (by kernel_rfl) (by simp) ?_
    refine AllReadyH.cons (o := _) rfl (fun K hK => ?_) ?_
    · skip
      go_simp
      refine (i0.out _ (r7.out.bel hHeld) (T7.out.bel hHeld l7.out)).mono ?_
      rintro e w8 ⟨rfl, hB⟩
      try replace e6 := (hB.block _ (block_lt e6)).trans e6
      try replace e7 := (hB.block _ (block_lt e7)).trans e7
      go_wp2_with fail
      refine hK.out _ _ ?_ (fun hHeld => ?_)
      · exact hHeld.trans (hB.mono hHeld.size)
      clear hK K
      try simp only [Act.put, sQa, sQb, sQc, gQa, gQb, gQc]
      refine wpAnyH_ready (rs := [7, 8]) (by kernel_rfl) (by simp) ?_
      refine AllReadyH.cons (o := _) rfl (fun K hK => ?_) ?_
      · skip
        go_simp
        refine (i1.out _ (r7.out.bel hHeld) (T7.out.bel hHeld l7.out)).mono ?_
        rintro e w8 ⟨rfl, hB⟩
        try replace e6 := (hB.block _ (block_lt e6)).trans e6
        try replace e7 := (hB.block _ (block_lt e7)).trans e7
        go_wp2_with fail
        refine hK.out _ _ ?_ (fun hHeld => ?_)
        · exact hHeld.trans (hB.mono hHeld.size)
        clear hK K
        try simp only [Act.put, sQa, sQb, sQc, gQa, gQb, gQc]
        refine wpAnyH_ready (rs := [8]) (by kernel_rfl) (by simp) ?_
        refine AllReadyH.cons (o := _) rfl (fun K hK => ?_) AllReadyH.nil
        refine step_alloc_row rfl 26 rfl z32 info32 ?_
        intro g6 w8 b6 e6 hB
        have m6 := Nat.le_trans hHeld.size b6
        try have n67 : g6 ≠ g7 := fun h => by have := block_lt e7; omega
        try replace e7 := (hB.block _ (block_lt e7)).trans e7
        refine hK.out _ _ ?_ (fun hHeld => ?_)
        · exact hHeld.trans (hB.mono hHeld.size)
        clear hK K
        try simp only [Act.put, sQa, sQb, sQc, gQa, gQb, gQc]
        refine wpAnyH_ready (rs := [10]) (by kernel_rfl) (by simp) ?_
        refine AllReadyH.cons (o := _) rfl (fun K hK => ?_) AllReadyH.nil
        refine step_store_row rfl 26 (.tmp 7) (.tmp 34) rfl g6 _ rfl rfl 26 z32 e6 (by rw [y0]; exact size32) (by rw [y0]; exact z32_size) p0 ?_
        intro w8 d6 hG
        replace e7 := (hG.block _ (block_lt e7) (by simpa using n67.symm)).trans e7
        refine hK.out _ _ ?_ (fun hHeld => ?_)
        · exact hHeld.grown hG hHeld.size (by intro k hk; injection hk with hk; omega)
        clear hK K
        try simp only [Act.put, sQa, sQb, sQc, gQa, gQb, gQc]
        refine wpAnyH_ready (rs := [11]) (by kernel_rfl) (by simp) ?_
        refine AllReadyH.cons (o := _) rfl (fun K hK => ?_) AllReadyH.nil
        refine step_store_row rfl 26 (.tmp 8) (.tmp 38) rfl g7 _ rfl rfl 26 z32 e7 (by rw [y1]; exact size32) (by rw [y1]; exact z32_size) p1 ?_
        intro w9 d7 hG
        replace d6 := (hG.block _ (block_lt d6) (by simpa using n67)).trans d6
        refine hK.out _ _ ?_ (fun hHeld => ?_)
        · exact hHeld.grown hG hHeld.size (by intro k hk; injection hk with hk; omega)
        clear hK K
        try simp only [Act.put, sQa, sQb, sQc, gQa, gQb, gQc]
        refine wpAnyH_done (by kernel_rfl) ?_ _
        refine NoPanic.normal ?_
        have hz9 := hid ((hHeld.block _ (block_lt h7.out)).trans h7.out)
        have W9 := hid (W7.out.trans (hHeld.mono W7.out.size))
        have hT9 := hid (T7.out.bel hHeld l7.out)
        have l9 := hid (Nat.lt_of_lt_of_le l7.out hHeld.size)
        have D6 := hid (rd_blockP d6)
        have D7 := hid (rd_blockP d7)
        clear r7 h7 W7 T7 l7 c0 c1 al7 i0 i1 d6 d7 hHeld
        try clear hB
        try clear hG
        try clear e6 e7
        go_wp2_with fail
        go_still_tail 2, (by kernel_rfl)
        have B2 := (ext_alloc w9 (.cells #[.slice (some ⟨g6, 0, none⟩) 32 32, .slice (some ⟨g7, 0, none⟩) 32 32] 27)).trans ((bel_drew (w9.alloc (.cells #[.slice (some ⟨g6, 0, none⟩) 32 32, .slice (some ⟨g7, 0, none⟩) 32 32] 27))).mono (ext_alloc w9 _).size)
        have hR2 := hid ((hR.out _ _ _ D6.out D7.out).bel (bel_drew _))
        have hT2 := hid (hT9.out.bel B2 l9.out)
        replace hz9 := hid ((B2.block _ (block_lt hz9.out)).trans hz9.out)
        replace W9 := hid (W9.out.trans (B2.mono W9.out.size))
        clear B2 D6 D7 hT9 hR
        go_wp2_with fail
        refine (hO.out _ _ hR2.out hT2.out).mono ?_
        rintro e w10 ⟨rfl, hb10⟩
        have R3 := hid ((hb10.block _ (block_lt hz9.out)).trans hz9.out)
        have W3 := hid (W9.out.trans (hb10.mono W9.out.size))
        clear hb10
        go_wp2_with (first
          | ((with_reducible refine wpList_store_row rfl 26 (.tmp 4) (.tmp 42) rfl _ _ rfl rfl 26 z32 ?_ ?_ ?_ ?_ ?_); exact R3.out; (rw [z1]; exact size32); (rw [z1]; exact z32_size); exact o1; intro w12 hg4 hb4 hs4))
        refine bodyPost_ret (results_cell_row Tryz.results42 _ _ (w.heap.size + 1) 26 _ (0, 0) _ rfl hg4 hu rfl (by rw [z1]; exact size32)) rfl ⟨rfl, W3.out.grown hb4 W3.out.size (by intro k hk; injection hk with hk; omega)⟩
      refine AllReadyH.cons (o := _) rfl (fun K hK => ?_) ?_
      · skip
        refine step_alloc_row rfl 26 rfl z32 info32 ?_
        intro g6 w8 b6 e6 hB
        have m6 := Nat.le_trans hHeld.size b6
        try have n67 : g6 ≠ g7 := fun h => by have := block_lt e7; omega
        try replace e7 := (hB.block _ (block_lt e7)).trans e7
        refine hK.out _ _ ?_ (fun hHeld => ?_)
        · exact hHeld.trans (hB.mono hHeld.size)
        clear hK K
        try simp only [Act.put, sQa, sQb, sQc, gQa, gQb, gQc]
        refine wpAnyH_ready (rs := [7]) (by kernel_rfl) (by simp) ?_
        refine AllReadyH.cons (o := _) rfl (fun K hK => ?_) AllReadyH.nil
        go_simp
        refine (i1.out _ (r7.out.bel hHeld) (T7.out.bel hHeld l7.out)).mono ?_
        rintro e w8 ⟨rfl, hB⟩
        try replace e6 := (hB.block _ (block_lt e6)).trans e6
        try replace e7 := (hB.block _ (block_lt e7)).trans e7
        go_wp2_with fail
        refine hK.out _ _ ?_ (fun hHeld => ?_)
        · exact hHeld.trans (hB.mono hHeld.size)
        clear hK K
        try simp only [Act.put, sQa, sQb, sQc, gQa, gQb, gQc]
        refine wpAnyH_ready (rs := [10]) (by kernel_rfl) (by simp) ?_
        refine AllReadyH.cons (o := _) rfl (fun K hK => ?_) AllReadyH.nil
        refine step_store_row rfl 26 (.tmp 7) (.tmp 34) rfl g6 _ rfl rfl 26 z32 e6 (by rw [y0]; exact size32) (by rw [y0]; exact z32_size) p0 ?_
        intro w8 d6 hG
        replace e7 := (hG.block _ (block_lt e7) (by simpa using n67.symm)).trans e7
        refine hK.out _ _ ?_ (fun hHeld => ?_)
        · exact hHeld.grown hG hHeld.size (by intro k hk; injection hk with hk; omega)
        clear hK K
        try simp only [Act.put, sQa, sQb, sQc, gQa, gQb, gQc]
        refine wpAnyH_ready (rs := [11]) (by kernel_rfl) (by simp) ?_
        refine AllReadyH.cons (o := _) rfl (fun K hK => ?_) AllReadyH.nil
        refine step_store_row rfl 26 (.tmp 8) (.tmp 38) rfl g7 _ rfl rfl 26 z32 e7 (by rw [y1]; exact size32) (by rw [y1]; exact z32_size) p1 ?_
        intro w9 d7 hG
        replace d6 := (hG.block _ (block_lt d6) (by simpa using n67)).trans d6
        refine hK.out _ _ ?_ (fun hHeld => ?_)
        · exact hHeld.grown hG hHeld.size (by intro k hk; injection hk with hk; omega)
        clear hK K
        try simp only [Act.put, sQa, sQb, sQc, gQa, gQb, gQc]
        refine wpAnyH_done (by kernel_rfl) ?_ _
        refine NoPanic.normal ?_
        have hz9 := hid ((hHeld.block _ (block_lt h7.out)).trans h7.out)
        have W9 := hid (W7.out.trans (hHeld.mono W7.out.size))
        have hT9 := hid (T7.out.bel hHeld l7.out)
        have l9 := hid (Nat.lt_of_lt_of_le l7.out hHeld.size)
        have D6 := hid (rd_blockP d6)
        have D7 := hid (rd_blockP d7)
        clear r7 h7 W7 T7 l7 c0 c1 al7 i0 i1 d6 d7 hHeld
        try clear hB
        try clear hG
        try clear e6 e7
        go_wp2_with fail
        go_still_tail 2, (by kernel_rfl)
        have B2 := (ext_alloc w9 (.cells #[.slice (some ⟨g6, 0, none⟩) 32 32, .slice (some ⟨g7, 0, none⟩) 32 32] 27)).trans ((bel_drew (w9.alloc (.cells #[.slice (some ⟨g6, 0, none⟩) 32 32, .slice (some ⟨g7, 0, none⟩) 32 32] 27))).mono (ext_alloc w9 _).size)
        have hR2 := hid ((hR.out _ _ _ D6.out D7.out).bel (bel_drew _))
        have hT2 := hid (hT9.out.bel B2 l9.out)
        replace hz9 := hid ((B2.block _ (block_lt hz9.out)).trans hz9.out)
        replace W9 := hid (W9.out.trans (B2.mono W9.out.size))
        clear B2 D6 D7 hT9 hR
        go_wp2_with fail
        refine (hO.out _ _ hR2.out hT2.out).mono ?_
        rintro e w10 ⟨rfl, hb10⟩
        have R3 := hid ((hb10.block _ (block_lt hz9.out)).trans hz9.out)
        have W3 := hid (W9.out.trans (hb10.mono W9.out.size))
        clear hb10
        go_wp2_with (first
          | ((with_reducible refine wpList_store_row rfl 26 (.tmp 4) (.tmp 42) rfl _ _ rfl rfl 26 z32 ?_ ?_ ?_ ?_ ?_); exact R3.out; (rw [z1]; exact size32); (rw [z1]; exact z32_size); exact o1; intro w12 hg4 hb4 hs4))
        refine bodyPost_ret (results_cell_row Tryz.results42 _ _ (w.heap.size + 1) 26 _ (0, 0) _ rfl hg4 hu rfl (by rw [z1]; exact size32)) rfl ⟨rfl, W3.out.grown hb4 W3.out.size (by intro k hk; injection hk with hk; omega)⟩
      exact AllReadyH.nil
    refine AllReadyH.cons (o := _) rfl (fun K hK => ?_) ?_
    · skip
      refine step_alloc_row rfl 26 rfl z32 info32 ?_
      intro g6 w8 b6 e6 hB
      have m6 := Nat.le_trans hHeld.size b6
      try have n67 : g6 ≠ g7 := fun h => by have := block_lt e7; omega
      try replace e7 := (hB.block _ (block_lt e7)).trans e7
      refine hK.out _ _ ?_ (fun hHeld => ?_)
      · exact hHeld.trans (hB.mono hHeld.size)
      clear hK K
      try simp only [Act.put, sQa, sQb, sQc, gQa, gQb, gQc]
      refine wpAnyH_ready (rs := [3]) (by kernel_rfl) (by simp) ?_
      refine AllReadyH.cons (o := _) rfl (fun K hK => ?_) AllReadyH.nil
      go_simp
      refine (i0.out _ (r7.out.bel hHeld) (T7.out.bel hHeld l7.out)).mono ?_
      rintro e w8 ⟨rfl, hB⟩
      try replace e6 := (hB.block _ (block_lt e6)).trans e6
      try replace e7 := (hB.block _ (block_lt e7)).trans e7
      go_wp2_with fail
      refine hK.out _ _ ?_ (fun hHeld => ?_)
      · exact hHeld.trans (hB.mono hHeld.size)
      clear hK K
      try simp only [Act.put, sQa, sQb, sQc, gQa, gQb, gQc]
      refine wpAnyH_ready (rs := [7]) (by kernel_rfl) (by simp) ?_
      refine AllReadyH.cons (o := _) rfl (fun K hK => ?_) AllReadyH.nil
      go_simp
      refine (i1.out _ (r7.out.bel hHeld) (T7.out.bel hHeld l7.out)).mono ?_
      rintro e w8 ⟨rfl, hB⟩
      try replace e6 := (hB.block _ (block_lt e6)).trans e6
      try replace e7 := (hB.block _ (block_lt e7)).trans e7
      go_wp2_with fail
      refine hK.out _ _ ?_ (fun hHeld => ?_)
      · exact hHeld.trans (hB.mono hHeld.size)
      clear hK K
      try simp only [Act.put, sQa, sQb, sQc, gQa, gQb, gQc]
      refine wpAnyH_ready (rs := [10]) (by kernel_rfl) (by simp) ?_
      refine AllReadyH.cons (o := _) rfl (fun K hK => ?_) AllReadyH.nil
      refine step_store_row rfl 26 (.tmp 7) (.tmp 34) rfl g6 _ rfl rfl 26 z32 e6 (by rw [y0]; exact size32) (by rw [y0]; exact z32_size) p0 ?_
      intro w8 d6 hG
      replace e7 := (hG.block _ (block_lt e7) (by simpa using n67.symm)).trans e7
      refine hK.out _ _ ?_ (fun hHeld => ?_)
      · exact hHeld.grown hG hHeld.size (by intro k hk; injection hk with hk; omega)
      clear hK K
      try simp only [Act.put, sQa, sQb, sQc, gQa, gQb, gQc]
      refine wpAnyH_ready (rs := [11]) (by kernel_rfl) (by simp) ?_
      refine AllReadyH.cons (o := _) rfl (fun K hK => ?_) AllReadyH.nil
      refine step_store_row rfl 26 (.tmp 8) (.tmp 38) rfl g7 _ rfl rfl 26 z32 e7 (by rw [y1]; exact size32) (by rw [y1]; exact z32_size) p1 ?_
      intro w9 d7 hG
      replace d6 := (hG.block _ (block_lt d6) (by simpa using n67)).trans d6
      refine hK.out _ _ ?_ (fun hHeld => ?_)
      · exact hHeld.grown hG hHeld.size (by intro k hk; injection hk with hk; omega)
      clear hK K
      try simp only [Act.put, sQa, sQb, sQc, gQa, gQb, gQc]
      refine wpAnyH_done (by kernel_rfl) ?_ _
      refine NoPanic.normal ?_
      have hz9 := hid ((hHeld.block _ (block_lt h7.out)).trans h7.out)
      have W9 := hid (W7.out.trans (hHeld.mono W7.out.size))
      have hT9 := hid (T7.out.bel hHeld l7.out)
      have l9 := hid (Nat.lt_of_lt_of_le l7.out hHeld.size)
      have D6 := hid (rd_blockP d6)
      have D7 := hid (rd_blockP d7)
      clear r7 h7 W7 T7 l7 c0 c1 al7 i0 i1 d6 d7 hHeld
      try clear hB
      try clear hG
      try clear e6 e7
      go_wp2_with fail
      go_still_tail 2, (by kernel_rfl)
      have B2 := (ext_alloc w9 (.cells #[.slice (some ⟨g6, 0, none⟩) 32 32, .slice (some ⟨g7, 0, none⟩) 32 32] 27)).trans ((bel_drew (w9.alloc (.cells #[.slice (some ⟨g6, 0, none⟩) 32 32, .slice (some ⟨g7, 0, none⟩) 32 32] 27))).mono (ext_alloc w9 _).size)
      have hR2 := hid ((hR.out _ _ _ D6.out D7.out).bel (bel_drew _))
      have hT2 := hid (hT9.out.bel B2 l9.out)
      replace hz9 := hid ((B2.block _ (block_lt hz9.out)).trans hz9.out)
      replace W9 := hid (W9.out.trans (B2.mono W9.out.size))
      clear B2 D6 D7 hT9 hR
      go_wp2_with fail
      refine (hO.out _ _ hR2.out hT2.out).mono ?_
      rintro e w10 ⟨rfl, hb10⟩
      have R3 := hid ((hb10.block _ (block_lt hz9.out)).trans hz9.out)
      have W3 := hid (W9.out.trans (hb10.mono W9.out.size))
      clear hb10
      go_wp2_with (first
        | ((with_reducible refine wpList_store_row rfl 26 (.tmp 4) (.tmp 42) rfl _ _ rfl rfl 26 z32 ?_ ?_ ?_ ?_ ?_); exact R3.out; (rw [z1]; exact size32); (rw [z1]; exact z32_size); exact o1; intro w12 hg4 hb4 hs4))
      refine bodyPost_ret (results_cell_row Tryz.results42 _ _ (w.heap.size + 1) 26 _ (0, 0) _ rfl hg4 hu rfl (by rw [z1]; exact size32)) rfl ⟨rfl, W3.out.grown hb4 W3.out.size (by intro k hk; injection hk with hk; omega)⟩
    exact AllReadyH.nil
  exact AllReadyH.nil
end Go.Proofs.YtapnhdpgogfceaaGreatDoor

/- (TreeLf)
  Contracts of the landed package tree: road.
-/
namespace Go.Proofs.YtapnhdpgogfceaaGreatDoor
open Go.RowKit
set_option linter.unusedVariables false
set_option linter.unusedSimpArgs false
set_option maxRecDepth 100000

theorem slotInt : Slot Tryz.prog Int 110 3 (.int .i64 0) 8 where
  under := Tryz.underlying110
  info := by kernel_rfl
  zero := by decide +kernel
  pos := by decide
section
variable {P : Program}
theorem step_store_rowT {ops : Array Oper} {o : Oper} {a : Act} {w : World} {K : Act → World → Prop} {Q : Exit → Act → World → Prop} {X : Prop} (hw : o.guard = none) (ty : TypeId) (x y : Operand) (ho : o.op = .store ty x y)
    (g : Nat) (cs : Array Value) (hx : a.eval x = .pointer (some ⟨g, 0, none⟩)) (hy : a.eval y = .agg cs) (t : TypeId) (old : Array Value) (hg : w.heap[g]? = some (.cells old t (0, 0)))
    (hi : (P.info? ty).map (·.size) = some cs.size) (hold : old.size = cs.size) (h1 : cs.all (·.oneCell') = true)
    (h : ∀ w', w'.heap[g]? = some (.cells cs t (0, 0)) → w.grownBy w' (some g) → K (a.put o.dst undef) w') : if Region.wanted o (yielded ops a.tmps) = true then Oper.wp P o a w K Q else X := by
  rw [if_pos (by simp [Region.wanted, hw])]
  exact wp_store_row ty x y ho g cs hx hy t old hg hi hold h1 fun w' h2 h3 _ => h w' h2 h3
theorem step_alloc_rowT {ops : Array Oper} {o : Oper} {a : Act} {w : World} {K : Act → World → Prop} {Q : Exit → Act → World → Prop} {X : Prop} (hw : o.guard = none) (ty : TypeId) (ho : o.op = .alloc ty)
    (zs : Array Value) (hz : (P.info? ty).map (fun i => (i.zero, i.size)) = some (some (.agg zs), zs.size))
    (h : ∀ g w', w.heap.size ≤ g → w'.heap[g]? = some (.cells zs ty (0, 0)) → Below w.heap.size w w' → K (a.put o.dst (.pointer (some ⟨g, 0, none⟩))) w') : if Region.wanted o (yielded ops a.tmps) = true then Oper.wp P o a w K Q else X := by
  rw [if_pos (by simp [Region.wanted, hw])]
  have hq : ∃ i, P.info? ty = some i ∧ i.zero = some (.agg zs) := by
    cases hq : P.info? ty with
    | none => simp [hq] at hz
    | some i => simp [hq] at hz; exact ⟨i, rfl, hz.1⟩
  obtain ⟨i, hi, hzz⟩ := hq
  unfold Oper.wp execOp
  simp only [ho]
  simp [Instr.alloc, zeroValue, typeInfo, hi, hzz, newVar, Value.cells]
  exact h _ _ (Nat.le_refl _) (heap_alloc_new w (.cells zs ty)) (ext_alloc w _)
theorem wpList_appOwnG {α : Type} [Enc α] {S E : TypeId} {z : Value} {bytes : Nat} (hS : Slot P α S E z bytes) {w : World} {ops : Array Oper} {rest : List Oper} {o : Oper} {a : Act} {Q : Exit → Act → World → Prop} (hg : Region.wanted o (yielded ops a.tmps) = true) (s x : Operand)
    (hop : o.op = .call { callee := .builtin .append, args := #[s, x], argTypes := #[S, S] })
    (B0 B : Nat) (A A2 : Option Addr) (n m c c2 : Nat) (xs ys : List α) (F2 : Nat → Prop) (hs : a.eval s = .slice A n c) (hx : a.eval x = .slice A2 m c2) (hn : n = xs.length) (hm : m = ys.length)
    (ho : OwnQ E w B0 B A c xs) (hr : Src F2 w A2 ys) (hF : ∀ b, F2 b → B0 ≤ b ∧ Soft w b ∧ ∀ a, A = some a → b ≠ a.block) (hlen : (xs.length + ys.length) * (bytes + 1) ≤ 140737488355328) (hB : B ≤ w.heap.size)
    (hK : ∀ A' c' w', OwnQ E w' B0 B A' c' (xs ++ ys) → Below B w w' → w.grownBy w' (A.map (·.block)) → wpList P ops Q rest (a.put o.dst (.slice A' (xs ++ ys).length c')) w') : wpList P ops Q (o :: rest) a w :=
  wpList_step fun _ hK2 => by
    rw [if_pos hg]
    subst hn hm
    obtain ⟨A', c', w', hrun, h1, h2, h3⟩ := run_appOwn hS o.type ho c2 F2 hr hF hlen hB
    unfold Oper.wp execOp
    simp only [hop, resolve, invoke, builtin, Sem.run_bind, Sem.run_pure, Result.andThen_ok, List.map_toArray, List.map_cons, List.map_nil, hs, hx, hrun]
    exact hK2 _ _ (hK A' c' w' h1 h2 h3)
end
def lenV : Value → Nat
  | .slice _ n _ => n
  | _ => 0
theorem rep_int {F : Nat → Prop} {w : World} {x : Int} (h : I64 x) : Enc.rep F w x [Value.int .i64 x] := ⟨rfl, h⟩
/-- A right tree's road: where it stands after j forks. -/
def OnWay (ns : List Nd) (k : Dg) (root : Int) (os : List Int) (m : Int) : Prop :=
  os.length ≤ 256 ∧ 0 ≤ m ∧ m ≤ ns.length ∧ (∃ b, 0 ≤ rgt ns (256 - os.length) m b) ∧ wayP ns k 256 root = ((wayP ns k (256 - os.length) m).1, os ++ (wayP ns k (256 - os.length) m).2) ∧
  (∀ o ∈ os, 0 ≤ o ∧ o ≤ ns.length)
theorem onway_start {ns : List Nd} {k : Dg} {root : Int} (h0 : 0 ≤ root) (h1 : root ≤ ns.length) (hr : 0 ≤ rgt ns 256 root z0) : OnWay ns k root [] root :=
  ⟨by simp, h0, h1, ⟨z0, hr⟩, by simp, fun o ho => by simp at ho⟩
theorem onway_end {ns : List Nd} {k : Dg} {root m : Int} {os : List Int} (h : OnWay ns k root os m) (hf : forkB ns m = false) : wayP ns k 256 root = (m, os) := by
  obtain ⟨_, _, _, _, h5, _⟩ := h
  have : wayP ns k (256 - os.length) m = (m, []) := by
    by_cases hz : m = 0
    · subst hz; exact wayP_zero
    · refine wayP_leaf ?_
      unfold forkB at hf
      rw [decide_eq_true hz, Bool.true_and] at hf
      simpa using hf
  rw [h5, this, List.append_nil]
theorem onway_next {ns : List Nd} {k : Dg} {root m : Int} {os : List Int} (ho : Ones ns) (h : OnWay ns k root os m) (hf : forkB ns m = true) :
    os.length < 256 ∧ 0 < m ∧ (ndAt ns m).leaf = false ∧ (kb k.1 os.length = 1 → OnWay ns k root (os ++ [(ndAt ns m).l]) (ndAt ns m).r) ∧ (kb k.1 os.length = 0 → OnWay ns k root (os ++ [(ndAt ns m).r]) (ndAt ns m).l) := by
  obtain ⟨h1, h2, h3, ⟨b, h4⟩, h5, h6⟩ := h
  unfold forkB at hf
  simp only [Bool.and_eq_true, decide_eq_true_eq, Bool.not_eq_true'] at hf
  obtain ⟨hz, hl⟩ := hf
  obtain ⟨f, hf, r1, r2, _, _⟩ := fork_parts hz hl h4
  obtain ⟨j, hj, rfl, hx, hone⟩ := ones_at ho (by omega) h3
  rw [hx] at hl
  obtain ⟨k1, k2, k3, k4, _⟩ := one_fork hone hl
  rw [← hx] at k1 k2 k3 k4 hl
  have hlt : os.length < 256 := by omega
  have he : 256 - (os.length + 1) = f := by omega
  have hfd : 255 - f = os.length := by omega
  rw [hf, wayP_fork hz hl, hfd] at h5
  have hq : ∀ x : Int, (0 ≤ x ∧ x ≤ ns.length) → ∀ o ∈ os ++ [x], 0 ≤ o ∧ o ≤ ns.length := fun x hx o hm => by
    rcases List.mem_append.1 hm with h | h
    · exact h6 o h
    · simp at h; subst h; exact hx
  refine ⟨hlt, by omega, hl, fun hb => ⟨by simp; omega, k3, by omega, ⟨_, by rw [List.length_append, List.length_singleton, he]; exact r2⟩, ?_, hq _ ⟨k1, by omega⟩⟩, fun hb => ⟨by simp; omega, k1, by omega, ⟨_, by rw [List.length_append, List.length_singleton, he]; exact r1⟩, ?_, hq _ ⟨k3, by omega⟩⟩⟩
  · rw [h5, if_pos hb, List.length_append, List.length_singleton, he]; simp
  · rw [h5, if_neg (by omega), List.length_append, List.length_singleton, he]; simp

set_option maxHeartbeats 2000000 in
theorem PRoadT_any (F : Nat → Prop) (A : Option Addr) (c : Nat) (ns : List Nd) (root : Int) (k : Dg) (w : World) (hr : Row F w A ns) (hc : ns.length ≤ 1000000) (hm : mayT ⟨ns, root⟩ = true) :
    Calls Tryz.prog 69 #[.agg #[.slice A ns.length c, .int .i64 root], .agg (k.1.map bv).toArray] w fun e w' => ∃ A' c', e = .returned (.tuple #[.int .i64 (wayP ns k 256 root).1, .slice A' (wayP ns k 256 root).2.length c']) ∧ OwnR 3 w' w.heap.size A' c' (wayP ns k 256 root).2 ∧ Below w.heap.size w w' := by
  obtain ⟨-, m1, m2, ho, m3⟩ := mayT_iff.1 hm
  dsimp only at m1 m2 ho m3
  obtain ⟨hb0, hk0, W0⟩ := boxesTDp w A ns.length c root k 76 26
  have hr0 := hr.bel W0
  have hu := Tryz.underlying26
  have hut := Tryz.underlying76
  have hu2 := Tryz.underlying107
  have hiT := hid (show (Tryz.prog.info? 76).map (·.size) = some ([Value.slice A ns.length c, .int .i64 root]).length from sizeTrie)
  have hi := hid (sizeDgT k)
  have y1 := hb0.rt
  have hB := fun d (hd : d < 256) W => PTBit_is k d hd _ W rfl
  have hstart := hid (onway_start (k := k) m1 m2 m3)
  have hnx := fun os m => @onway_next ns k root m os ho
  have hen := fun os m => @onway_end ns k root m os
  replace hnx := hid hnx
  replace hen := hid hen
  generalize hdk : k.1.map bv = dk at *
  clear hr hm m1 m2 m3 hdk
  go_enter Tryz.func69, Tryz.ntmps69
  go_wp2
  generalize (w.alloc (.cells #[.slice A ns.length c, .int .i64 root] 76)).alloc (.cells dk.toArray 26) = w0 at *
  go_loopw [4, 5] (fun v4 v5 wr => ∃ (m : Int) (os : List Int) (A5 : Option Addr) (c5 : Nat), v4 = .int .i64 m ∧ v5 = .slice A5 os.length c5 ∧ OwnR 3 wr w0.heap.size A5 c5 os ∧ OnWay ns k root os m ∧ Below w0.heap.size w0 wr) (fun _ v5 _ => 257 - lenV v5)
  case atStart => exact ⟨root, [], none, 0, rfl, rfl, OwnR.nil _ _, hstart.out, Below.refl _ _⟩
  case round =>
    obtain ⟨m, os, A5, c5, rfl, rfl, hown, hon, hbw⟩ := hrel
    have T1 := hb0.bel hbw
    have k1 := rangeBel2 hbw hk0
    have r1 := hr0.bel hbw
    have hm0 := hon.2.1
    have hm1 := hon.2.2.1
    have hF := fun W hW => PIsFork_any F A c ns root m W hW hm0 hm1 (by omega)
    cases hfk : forkB ns m with
    | false =>
      have hend := hid (hen.out os m hon hfk)
      rw [hfk] at hF
      replace hF := hid hF
      replace hon := trivial
      have y2 := T1.rt
      go_wp2_with (first
        | ((with_reducible refine wpList_load_rng rfl 76 (.tmp 2) rfl w.heap.size 0 rfl [Value.slice A ns.length c, .int .i64 root] _ ?_ hut rfl hiT.out ?_); exact T1.all))
      refine (hF.out _ r1).mono ?_
      rintro e w2 ⟨rfl, hb2⟩
      have o2 := hid (hown.bel hb2)
      go_wp2
      go_ret2
      rw [hend.out]
      exact ⟨A5, c5, rfl, OwnR.base o2.out W0.size, W0.trans ((hbw.trans (hb2.mono hbw.size)).mono W0.size)⟩
    | true =>
      obtain ⟨hlt, hm2, hl, n1, n0⟩ := hnx.out os m hon hfk
      rw [hfk] at hF
      replace hF := hid hF
      replace hon := trivial
      obtain ⟨j, hj, rfl, hx⟩ : ∃ (j : Nat) (hj : j < ns.length), m = (j : Int) + 1 ∧ ndAt ns m = ns[j] := by
        obtain ⟨j, rfl⟩ : ∃ j : Nat, m = (j : Int) + 1 := ⟨(m - 1).toNat, by omega⟩
        exact ⟨j, by omega, rfl, ndAt_at (by omega)⟩
      rw [hx] at n1 n0 hl
      obtain ⟨q, o, hAe, A', c', hR, hv1, hv2, hv3, hI1, hI2⟩ := row_nd r1 hj
      subst hAe
      have hRd := fun W (hW : W.rangeAt q (o + j * 36) (ndC ns[j] A' c')) => PRoads_at q o j ns.length c root ns[j] A' c' W hW hj (by omega)
      have hBt := hB os.length hlt
      have hbb := kb_lt k.1 os.length
      replace n1 := hid n1
      replace n0 := hid n0
      replace hI1 := hid hI1
      replace hI2 := hid hI2
      clear hnx hen hB hv1 hv2 hv3 hm0 hm1 hm2 hl hx hstart
      generalize ndC ns[j] A' c' = xs at *
      generalize ns[j].l = l at *
      generalize ns[j].r = rr at *
      generalize kb k.1 os.length = bb at *
      replace hR := hid hR
      replace hRd := hid hRd
      replace hBt := hid hBt
      have y2 := T1.rt
      go_wp2_with (first
        | ((with_reducible refine wpList_load_rng rfl 76 (.tmp 2) rfl w.heap.size 0 rfl [Value.slice (some ⟨q, o, none⟩) ns.length c, .int .i64 root] _ ?_ hut rfl hiT.out ?_); exact T1.all))
      refine (hF.out _ r1).mono ?_
      rintro e w2 ⟨rfl, hb2⟩
      have T2 := T1.bel hb2
      have k2 := rangeBel2 hb2 k1
      have R2 := hid (rangeBel2 hb2 hR.out)
      have o2 := hid (hown.bel hb2)
      have W2 := hid (hbw.trans (hb2.mono hbw.size))
      have hlo := hid (Nat.le_trans hbw.size hb2.size)
      have hbk := hid (o2.out.blk)
      clear T1 k1 r1 hR hown hb2 hF hbw y2
      rcases (show bb = 0 ∨ bb = 1 by omega) with rfl | rfl
      · have i1 : IntKind.u8.wrap ((1 : Int) - 0) = 1 := by decide
        have hn2 := hid (n0.out rfl)
        go_wp2
        refine wp_region_noPanic ?_
        refine wp_region_held_drew (S := fun w' => Below w2.heap.size w2 w') (by kernel_rfl) ?_ (fun hHeld => ?_)
        · exact bel_drew w2
        refine' wpAnyH_take (i := 0) (oi := _) (v := _) rfl (by kernel_rfl) (by kernel_rfl) (by kernel_rfl) (fun _ _ _ h => h) (yieldsIf_load_mid (by rfl) _ _ rfl _ _ rfl _ _ (fun _ h => rangeBel2 h T2.all) hut rfl hiT.out) (by assumption) ?_
        try simp only [Act.put, sQa, sQb, sQc, gQa, gQb, gQc]
        refine' wpAnyH_take (i := 1) (oi := _) (v := ?_) rfl (by kernel_rfl) (by kernel_rfl) (by kernel_rfl) (fun _ _ _ h => h) (Or.inl ⟨by rfl, ?_⟩) (by assumption) ?_
        rotate_left
        · intro W hSw
          go_simp
          first | done | (with_reducible rfl)
        try simp only [Act.put, sQa, sQb, sQc, gQa, gQb, gQc]
        refine' wpAnyH_take (i := 3) (oi := _) (v := _) rfl (by kernel_rfl) (by kernel_rfl) (by kernel_rfl) (fun _ _ _ h => h) (yieldsIf_load_mid (by rfl) _ _ rfl _ _ rfl _ _ (fun _ h => rangeBel2 h k2) hu rfl hi.out) (by assumption) ?_
        try simp only [Act.put, sQa, sQb, sQc, gQa, gQb, gQc]
        refine' wpAnyH_take (i := 4) (oi := _) (v := ?_) rfl (by kernel_rfl) (by kernel_rfl) (by kernel_rfl) (fun _ _ _ h => h) (Or.inl ⟨by rfl, ?_⟩) (by assumption) ?_
        rotate_left
        · intro W hSw
          go_simp
          first | done | (with_reducible rfl)
        try simp only [Act.put, sQa, sQb, sQc, gQa, gQb, gQc]
        refine' wpAnyH_take (i := 5) (oi := _) (v := ?_) rfl (by kernel_rfl) (by kernel_rfl) (by kernel_rfl) (fun _ _ _ h => h) (Or.inl ⟨by rfl, ?_⟩) (by assumption) ?_
        rotate_left
        · intro W hSw
          go_simp
          first | done | (with_reducible rfl)
        try simp only [Act.put, sQa, sQb, sQc, gQa, gQb, gQc]
        refine wpAnyH_ready (rs := [2, 7]) (by kernel_rfl) (by simp) ?_
        refine AllReadyH.cons (o := _) rfl (fun K hK => ?_) ?_
        · skip
          go_simp
          refine (hRd.out _ (rangeBel2 hHeld R2.out)).mono ?_
          rintro e w8 ⟨rfl, hB⟩
          try replace e6 := (hB.block _ (block_lt e6)).trans e6
          go_wp2_with fail
          refine hK.out _ _ ?_ (fun hHeld => ?_)
          · exact hHeld.trans (hB.mono hHeld.size)
          clear hK K
          try simp only [Act.put, sQa, sQb, sQc, gQa, gQb, gQc]
          refine wpAnyH_ready (rs := [6, 7]) (by kernel_rfl) (by simp) ?_
          refine AllReadyH.cons (o := _) rfl (fun K hK => ?_) ?_
          · skip
            go_simp
            refine (hBt.out _).mono ?_
            rintro e w8 ⟨rfl, hB⟩
            try replace e6 := (hB.block _ (block_lt e6)).trans e6
            go_wp2_with fail
            refine hK.out _ _ ?_ (fun hHeld => ?_)
            · exact hHeld.trans (hB.mono hHeld.size)
            clear hK K
            try simp only [Act.put, sQa, sQb, sQc, gQa, gQb, gQc]
            refine wpAnyH_ready (rs := [7]) (by kernel_rfl) (by simp) ?_
            refine AllReadyH.cons (o := _) rfl (fun K hK => ?_) AllReadyH.nil
            refine step_alloc_rowT rfl 107 rfl z2C zInfo2 ?_
            intro g6 w8 b6 e6 hB
            have m6 := Nat.le_trans hHeld.size b6
            refine hK.out _ _ ?_ (fun hHeld => ?_)
            · exact hHeld.trans (hB.mono hHeld.size)
            clear hK K
            try simp only [Act.put, sQa, sQb, sQc, gQa, gQb, gQc]
            refine wpAnyH_ready (rs := [8]) (by kernel_rfl) (by simp) ?_
            refine AllReadyH.cons (o := _) rfl (fun K hK => ?_) AllReadyH.nil
            refine step_store_rowT rfl 107 (.tmp 6) (.tmp 16) rfl g6 _ rfl rfl 107 z2C e6 size2 rfl (one2 l rr) ?_
            intro w9 d6 hG
            refine hK.out _ _ ?_ (fun hHeld => ?_)
            · exact hHeld.grown hG hHeld.size (by intro k hk; injection hk with hk; omega)
            clear hK K
            try simp only [Act.put, sQa, sQb, sQc, gQa, gQb, gQc]
            refine' wpAnyH_take (i := 9) (oi := _) (v := ?_) rfl (by kernel_rfl) (by kernel_rfl) (by kernel_rfl) (fun _ _ _ h => h) (Or.inl ⟨by rfl, ?_⟩) (by assumption) ?_
            rotate_left
            · intro W hSw
              go_simp
              first | done | (with_reducible rfl)
            try simp only [Act.put, sQa, sQb, sQc, gQa, gQb, gQc]
            refine wpAnyH_done (by kernel_rfl) ?_ _
            refine NoPanic.normal ?_
            have q9 := rangeOf (l := [Value.int .i64 l, .int .i64 rr]) d6
            have c0 := q9 1 _ rfl
            rw [Nat.zero_add] at c0
            have o9 := hid (o2.out.bel hHeld)
            have W9 := hid (W2.out.trans (hHeld.mono W2.out.size))
            have lt6 := hid (block_lt d6)
            have lo9 := hid (Nat.le_trans hlo.out hHeld.size)
            clear d6 o2 hHeld R2 T2 k2
            try clear hB
            try clear hG
            try clear e6
            go_wp2_with (first
              | (with_reducible refine wpList_buildOne slotInt (by decide) rfl (.tmp 25) rfl [Value.int .i64 rr] rfl rfl ?_)
              | (at_builtin; refine wpList_appOwnG slotInt rfl (.tmp 21) (.tmp 26) rfl w0.heap.size w0.heap.size A5 _ os.length 1 c5 1 os [rr] (fun _ => False) rfl rfl rfl rfl (o9.out.alloc _) (src_alloc (rep_int hI2.out)) (fun b hb => hb.elim) (by have := hlt; simp only [List.length_singleton]; omega) (by have := lo9.out; rw [World.size_alloc]; omega) ?_; intro A6 c6 w11 ho11 hB11 hG11; have q11 := rangeAt_kept q9 (w' := w11) (fun hl => (hG11.block g6 (by have := lt6.out; rw [World.size_alloc]; omega) (ne_map fun a ha => ⟨(hbk.out a ha).1, Nat.lt_of_lt_of_le (hbk.out a ha).2 m6⟩)).trans ((ext_alloc w9 (.cells [Value.int .i64 rr].toArray 3)).block g6 hl)); have c1 := q11 0 _ rfl; rw [Nat.zero_add] at c1; have ho := hid ho11; have W11 := hid (W9.out.trans ((((ext_alloc w9 (.cells [Value.int .i64 rr].toArray 3)).mono lo9.out)).trans hB11)); clear ho11 hB11 hG11))
            go_roundw
            case rel => exact ⟨l, os ++ [rr], A6, c6, rfl, (by rw [List.length_append]; rfl), ho.out, hn2.out, W11.out⟩
            case measure => simp [lenV]; omega
          refine AllReadyH.cons (o := _) rfl (fun K hK => ?_) ?_
          · skip
            refine step_alloc_rowT rfl 107 rfl z2C zInfo2 ?_
            intro g6 w8 b6 e6 hB
            have m6 := Nat.le_trans hHeld.size b6
            refine hK.out _ _ ?_ (fun hHeld => ?_)
            · exact hHeld.trans (hB.mono hHeld.size)
            clear hK K
            try simp only [Act.put, sQa, sQb, sQc, gQa, gQb, gQc]
            refine wpAnyH_ready (rs := [6]) (by kernel_rfl) (by simp) ?_
            refine AllReadyH.cons (o := _) rfl (fun K hK => ?_) AllReadyH.nil
            go_simp
            refine (hBt.out _).mono ?_
            rintro e w8 ⟨rfl, hB⟩
            try replace e6 := (hB.block _ (block_lt e6)).trans e6
            go_wp2_with fail
            refine hK.out _ _ ?_ (fun hHeld => ?_)
            · exact hHeld.trans (hB.mono hHeld.size)
            clear hK K
            try simp only [Act.put, sQa, sQb, sQc, gQa, gQb, gQc]
            refine wpAnyH_ready (rs := [8]) (by kernel_rfl) (by simp) ?_
            refine AllReadyH.cons (o := _) rfl (fun K hK => ?_) AllReadyH.nil
            refine step_store_rowT rfl 107 (.tmp 6) (.tmp 16) rfl g6 _ rfl rfl 107 z2C e6 size2 rfl (one2 l rr) ?_
            intro w9 d6 hG
            refine hK.out _ _ ?_ (fun hHeld => ?_)
            · exact hHeld.grown hG hHeld.size (by intro k hk; injection hk with hk; omega)
            clear hK K
            try simp only [Act.put, sQa, sQb, sQc, gQa, gQb, gQc]
            refine' wpAnyH_take (i := 9) (oi := _) (v := ?_) rfl (by kernel_rfl) (by kernel_rfl) (by kernel_rfl) (fun _ _ _ h => h) (Or.inl ⟨by rfl, ?_⟩) (by assumption) ?_
            rotate_left
            · intro W hSw
              go_simp
              first | done | (with_reducible rfl)
            try simp only [Act.put, sQa, sQb, sQc, gQa, gQb, gQc]
            refine wpAnyH_done (by kernel_rfl) ?_ _
            refine NoPanic.normal ?_
            have q9 := rangeOf (l := [Value.int .i64 l, .int .i64 rr]) d6
            have c0 := q9 1 _ rfl
            rw [Nat.zero_add] at c0
            have o9 := hid (o2.out.bel hHeld)
            have W9 := hid (W2.out.trans (hHeld.mono W2.out.size))
            have lt6 := hid (block_lt d6)
            have lo9 := hid (Nat.le_trans hlo.out hHeld.size)
            clear d6 o2 hHeld R2 T2 k2
            try clear hB
            try clear hG
            try clear e6
            go_wp2_with (first
              | (with_reducible refine wpList_buildOne slotInt (by decide) rfl (.tmp 25) rfl [Value.int .i64 rr] rfl rfl ?_)
              | (at_builtin; refine wpList_appOwnG slotInt rfl (.tmp 21) (.tmp 26) rfl w0.heap.size w0.heap.size A5 _ os.length 1 c5 1 os [rr] (fun _ => False) rfl rfl rfl rfl (o9.out.alloc _) (src_alloc (rep_int hI2.out)) (fun b hb => hb.elim) (by have := hlt; simp only [List.length_singleton]; omega) (by have := lo9.out; rw [World.size_alloc]; omega) ?_; intro A6 c6 w11 ho11 hB11 hG11; have q11 := rangeAt_kept q9 (w' := w11) (fun hl => (hG11.block g6 (by have := lt6.out; rw [World.size_alloc]; omega) (ne_map fun a ha => ⟨(hbk.out a ha).1, Nat.lt_of_lt_of_le (hbk.out a ha).2 m6⟩)).trans ((ext_alloc w9 (.cells [Value.int .i64 rr].toArray 3)).block g6 hl)); have c1 := q11 0 _ rfl; rw [Nat.zero_add] at c1; have ho := hid ho11; have W11 := hid (W9.out.trans ((((ext_alloc w9 (.cells [Value.int .i64 rr].toArray 3)).mono lo9.out)).trans hB11)); clear ho11 hB11 hG11))
            go_roundw
            case rel => exact ⟨l, os ++ [rr], A6, c6, rfl, (by rw [List.length_append]; rfl), ho.out, hn2.out, W11.out⟩
            case measure => simp [lenV]; omega
          exact AllReadyH.nil
        refine AllReadyH.cons (o := _) rfl (fun K hK => ?_) ?_
        · skip
          refine step_alloc_rowT rfl 107 rfl z2C zInfo2 ?_
          intro g6 w8 b6 e6 hB
          have m6 := Nat.le_trans hHeld.size b6
          refine hK.out _ _ ?_ (fun hHeld => ?_)
          · exact hHeld.trans (hB.mono hHeld.size)
          clear hK K
          try simp only [Act.put, sQa, sQb, sQc, gQa, gQb, gQc]
          refine wpAnyH_ready (rs := [2]) (by kernel_rfl) (by simp) ?_
          refine AllReadyH.cons (o := _) rfl (fun K hK => ?_) AllReadyH.nil
          go_simp
          refine (hRd.out _ (rangeBel2 hHeld R2.out)).mono ?_
          rintro e w8 ⟨rfl, hB⟩
          try replace e6 := (hB.block _ (block_lt e6)).trans e6
          go_wp2_with fail
          refine hK.out _ _ ?_ (fun hHeld => ?_)
          · exact hHeld.trans (hB.mono hHeld.size)
          clear hK K
          try simp only [Act.put, sQa, sQb, sQc, gQa, gQb, gQc]
          refine wpAnyH_ready (rs := [6]) (by kernel_rfl) (by simp) ?_
          refine AllReadyH.cons (o := _) rfl (fun K hK => ?_) AllReadyH.nil
          go_simp
          refine (hBt.out _).mono ?_
          rintro e w8 ⟨rfl, hB⟩
          try replace e6 := (hB.block _ (block_lt e6)).trans e6
          go_wp2_with fail
          refine hK.out _ _ ?_ (fun hHeld => ?_)
          · exact hHeld.trans (hB.mono hHeld.size)
          clear hK K
          try simp only [Act.put, sQa, sQb, sQc, gQa, gQb, gQc]
          refine wpAnyH_ready (rs := [8]) (by kernel_rfl) (by simp) ?_
          refine AllReadyH.cons (o := _) rfl (fun K hK => ?_) AllReadyH.nil
          refine step_store_rowT rfl 107 (.tmp 6) (.tmp 16) rfl g6 _ rfl rfl 107 z2C e6 size2 rfl (one2 l rr) ?_
          intro w9 d6 hG
          refine hK.out _ _ ?_ (fun hHeld => ?_)
          · exact hHeld.grown hG hHeld.size (by intro k hk; injection hk with hk; omega)
          clear hK K
          try simp only [Act.put, sQa, sQb, sQc, gQa, gQb, gQc]
          refine' wpAnyH_take (i := 9) (oi := _) (v := ?_) rfl (by kernel_rfl) (by kernel_rfl) (by kernel_rfl) (fun _ _ _ h => h) (Or.inl ⟨by rfl, ?_⟩) (by assumption) ?_
          rotate_left
          · intro W hSw
            go_simp
            first | done | (with_reducible rfl)
          try simp only [Act.put, sQa, sQb, sQc, gQa, gQb, gQc]
          refine wpAnyH_done (by kernel_rfl) ?_ _
          refine NoPanic.normal ?_
          have q9 := rangeOf (l := [Value.int .i64 l, .int .i64 rr]) d6
          have c0 := q9 1 _ rfl
          rw [Nat.zero_add] at c0
          have o9 := hid (o2.out.bel hHeld)
          have W9 := hid (W2.out.trans (hHeld.mono W2.out.size))
          have lt6 := hid (block_lt d6)
          have lo9 := hid (Nat.le_trans hlo.out hHeld.size)
          clear d6 o2 hHeld R2 T2 k2
          try clear hB
          try clear hG
          try clear e6
          go_wp2_with (first
            | (with_reducible refine wpList_buildOne slotInt (by decide) rfl (.tmp 25) rfl [Value.int .i64 rr] rfl rfl ?_)
            | (at_builtin; refine wpList_appOwnG slotInt rfl (.tmp 21) (.tmp 26) rfl w0.heap.size w0.heap.size A5 _ os.length 1 c5 1 os [rr] (fun _ => False) rfl rfl rfl rfl (o9.out.alloc _) (src_alloc (rep_int hI2.out)) (fun b hb => hb.elim) (by have := hlt; simp only [List.length_singleton]; omega) (by have := lo9.out; rw [World.size_alloc]; omega) ?_; intro A6 c6 w11 ho11 hB11 hG11; have q11 := rangeAt_kept q9 (w' := w11) (fun hl => (hG11.block g6 (by have := lt6.out; rw [World.size_alloc]; omega) (ne_map fun a ha => ⟨(hbk.out a ha).1, Nat.lt_of_lt_of_le (hbk.out a ha).2 m6⟩)).trans ((ext_alloc w9 (.cells [Value.int .i64 rr].toArray 3)).block g6 hl)); have c1 := q11 0 _ rfl; rw [Nat.zero_add] at c1; have ho := hid ho11; have W11 := hid (W9.out.trans ((((ext_alloc w9 (.cells [Value.int .i64 rr].toArray 3)).mono lo9.out)).trans hB11)); clear ho11 hB11 hG11))
          go_roundw
          case rel => exact ⟨l, os ++ [rr], A6, c6, rfl, (by rw [List.length_append]; rfl), ho.out, hn2.out, W11.out⟩
          case measure => simp [lenV]; omega
        exact AllReadyH.nil
      · have i1 : IntKind.u8.wrap ((1 : Int) - 1) = 0 := by decide
        have hn2 := hid (n1.out rfl)
        go_wp2
        refine wp_region_noPanic ?_
        refine wp_region_held_drew (S := fun w' => Below w2.heap.size w2 w') (by kernel_rfl) ?_ (fun hHeld => ?_)
        · exact bel_drew w2
        refine' wpAnyH_take (i := 0) (oi := _) (v := _) rfl (by kernel_rfl) (by kernel_rfl) (by kernel_rfl) (fun _ _ _ h => h) (yieldsIf_load_mid (by rfl) _ _ rfl _ _ rfl _ _ (fun _ h => rangeBel2 h T2.all) hut rfl hiT.out) (by assumption) ?_
        try simp only [Act.put, sQa, sQb, sQc, gQa, gQb, gQc]
        refine' wpAnyH_take (i := 1) (oi := _) (v := ?_) rfl (by kernel_rfl) (by kernel_rfl) (by kernel_rfl) (fun _ _ _ h => h) (Or.inl ⟨by rfl, ?_⟩) (by assumption) ?_
        rotate_left
        · intro W hSw
          go_simp
          first | done | (with_reducible rfl)
        try simp only [Act.put, sQa, sQb, sQc, gQa, gQb, gQc]
        refine' wpAnyH_take (i := 3) (oi := _) (v := _) rfl (by kernel_rfl) (by kernel_rfl) (by kernel_rfl) (fun _ _ _ h => h) (yieldsIf_load_mid (by rfl) _ _ rfl _ _ rfl _ _ (fun _ h => rangeBel2 h k2) hu rfl hi.out) (by assumption) ?_
        try simp only [Act.put, sQa, sQb, sQc, gQa, gQb, gQc]
        refine' wpAnyH_take (i := 4) (oi := _) (v := ?_) rfl (by kernel_rfl) (by kernel_rfl) (by kernel_rfl) (fun _ _ _ h => h) (Or.inl ⟨by rfl, ?_⟩) (by assumption) ?_
        rotate_left
        · intro W hSw
          go_simp
          first | done | (with_reducible rfl)
        try simp only [Act.put, sQa, sQb, sQc, gQa, gQb, gQc]
        refine' wpAnyH_take (i := 5) (oi := _) (v := ?_) rfl (by kernel_rfl) (by kernel_rfl) (by kernel_rfl) (fun _ _ _ h => h) (Or.inl ⟨by rfl, ?_⟩) (by assumption) ?_
        rotate_left
        · intro W hSw
          go_simp
          first | done | (with_reducible rfl)
        try simp only [Act.put, sQa, sQb, sQc, gQa, gQb, gQc]
        refine wpAnyH_ready (rs := [2, 7]) (by kernel_rfl) (by simp) ?_
        refine AllReadyH.cons (o := _) rfl (fun K hK => ?_) ?_
        · skip
          go_simp
          refine (hRd.out _ (rangeBel2 hHeld R2.out)).mono ?_
          rintro e w8 ⟨rfl, hB⟩
          try replace e6 := (hB.block _ (block_lt e6)).trans e6
          go_wp2_with fail
          refine hK.out _ _ ?_ (fun hHeld => ?_)
          · exact hHeld.trans (hB.mono hHeld.size)
          clear hK K
          try simp only [Act.put, sQa, sQb, sQc, gQa, gQb, gQc]
          refine wpAnyH_ready (rs := [6, 7]) (by kernel_rfl) (by simp) ?_
          refine AllReadyH.cons (o := _) rfl (fun K hK => ?_) ?_
          · skip
            go_simp
            refine (hBt.out _).mono ?_
            rintro e w8 ⟨rfl, hB⟩
            try replace e6 := (hB.block _ (block_lt e6)).trans e6
            go_wp2_with fail
            refine hK.out _ _ ?_ (fun hHeld => ?_)
            · exact hHeld.trans (hB.mono hHeld.size)
            clear hK K
            try simp only [Act.put, sQa, sQb, sQc, gQa, gQb, gQc]
            refine wpAnyH_ready (rs := [7]) (by kernel_rfl) (by simp) ?_
            refine AllReadyH.cons (o := _) rfl (fun K hK => ?_) AllReadyH.nil
            refine step_alloc_rowT rfl 107 rfl z2C zInfo2 ?_
            intro g6 w8 b6 e6 hB
            have m6 := Nat.le_trans hHeld.size b6
            refine hK.out _ _ ?_ (fun hHeld => ?_)
            · exact hHeld.trans (hB.mono hHeld.size)
            clear hK K
            try simp only [Act.put, sQa, sQb, sQc, gQa, gQb, gQc]
            refine wpAnyH_ready (rs := [8]) (by kernel_rfl) (by simp) ?_
            refine AllReadyH.cons (o := _) rfl (fun K hK => ?_) AllReadyH.nil
            refine step_store_rowT rfl 107 (.tmp 6) (.tmp 16) rfl g6 _ rfl rfl 107 z2C e6 size2 rfl (one2 l rr) ?_
            intro w9 d6 hG
            refine hK.out _ _ ?_ (fun hHeld => ?_)
            · exact hHeld.grown hG hHeld.size (by intro k hk; injection hk with hk; omega)
            clear hK K
            try simp only [Act.put, sQa, sQb, sQc, gQa, gQb, gQc]
            refine' wpAnyH_take (i := 9) (oi := _) (v := ?_) rfl (by kernel_rfl) (by kernel_rfl) (by kernel_rfl) (fun _ _ _ h => h) (Or.inl ⟨by rfl, ?_⟩) (by assumption) ?_
            rotate_left
            · intro W hSw
              go_simp
              first | done | (with_reducible rfl)
            try simp only [Act.put, sQa, sQb, sQc, gQa, gQb, gQc]
            refine wpAnyH_done (by kernel_rfl) ?_ _
            refine NoPanic.normal ?_
            have q9 := rangeOf (l := [Value.int .i64 l, .int .i64 rr]) d6
            have c0 := q9 0 _ rfl
            rw [Nat.zero_add] at c0
            have o9 := hid (o2.out.bel hHeld)
            have W9 := hid (W2.out.trans (hHeld.mono W2.out.size))
            have lt6 := hid (block_lt d6)
            have lo9 := hid (Nat.le_trans hlo.out hHeld.size)
            clear d6 o2 hHeld R2 T2 k2
            try clear hB
            try clear hG
            try clear e6
            go_wp2_with (first
              | (with_reducible refine wpList_buildOne slotInt (by decide) rfl (.tmp 25) rfl [Value.int .i64 l] rfl rfl ?_)
              | (at_builtin; refine wpList_appOwnG slotInt rfl (.tmp 21) (.tmp 26) rfl w0.heap.size w0.heap.size A5 _ os.length 1 c5 1 os [l] (fun _ => False) rfl rfl rfl rfl (o9.out.alloc _) (src_alloc (rep_int hI1.out)) (fun b hb => hb.elim) (by have := hlt; simp only [List.length_singleton]; omega) (by have := lo9.out; rw [World.size_alloc]; omega) ?_; intro A6 c6 w11 ho11 hB11 hG11; have q11 := rangeAt_kept q9 (w' := w11) (fun hl => (hG11.block g6 (by have := lt6.out; rw [World.size_alloc]; omega) (ne_map fun a ha => ⟨(hbk.out a ha).1, Nat.lt_of_lt_of_le (hbk.out a ha).2 m6⟩)).trans ((ext_alloc w9 (.cells [Value.int .i64 l].toArray 3)).block g6 hl)); have c1 := q11 1 _ rfl; rw [Nat.zero_add] at c1; have ho := hid ho11; have W11 := hid (W9.out.trans ((((ext_alloc w9 (.cells [Value.int .i64 l].toArray 3)).mono lo9.out)).trans hB11)); clear ho11 hB11 hG11))
            go_roundw
            case rel => exact ⟨rr, os ++ [l], A6, c6, rfl, (by rw [List.length_append]; rfl), ho.out, hn2.out, W11.out⟩
            case measure => simp [lenV]; omega
          refine AllReadyH.cons (o := _) rfl (fun K hK => ?_) ?_
          · skip
            refine step_alloc_rowT rfl 107 rfl z2C zInfo2 ?_
            intro g6 w8 b6 e6 hB
            have m6 := Nat.le_trans hHeld.size b6
            refine hK.out _ _ ?_ (fun hHeld => ?_)
            · exact hHeld.trans (hB.mono hHeld.size)
            clear hK K
            try simp only [Act.put, sQa, sQb, sQc, gQa, gQb, gQc]
            refine wpAnyH_ready (rs := [6]) (by kernel_rfl) (by simp) ?_
            refine AllReadyH.cons (o := _) rfl (fun K hK => ?_) AllReadyH.nil
            go_simp
            refine (hBt.out _).mono ?_
            rintro e w8 ⟨rfl, hB⟩
            try replace e6 := (hB.block _ (block_lt e6)).trans e6
            go_wp2_with fail
            refine hK.out _ _ ?_ (fun hHeld => ?_)
            · exact hHeld.trans (hB.mono hHeld.size)
            clear hK K
            try simp only [Act.put, sQa, sQb, sQc, gQa, gQb, gQc]
            refine wpAnyH_ready (rs := [8]) (by kernel_rfl) (by simp) ?_
            refine AllReadyH.cons (o := _) rfl (fun K hK => ?_) AllReadyH.nil
            refine step_store_rowT rfl 107 (.tmp 6) (.tmp 16) rfl g6 _ rfl rfl 107 z2C e6 size2 rfl (one2 l rr) ?_
            intro w9 d6 hG
            refine hK.out _ _ ?_ (fun hHeld => ?_)
            · exact hHeld.grown hG hHeld.size (by intro k hk; injection hk with hk; omega)
            clear hK K
            try simp only [Act.put, sQa, sQb, sQc, gQa, gQb, gQc]
            refine' wpAnyH_take (i := 9) (oi := _) (v := ?_) rfl (by kernel_rfl) (by kernel_rfl) (by kernel_rfl) (fun _ _ _ h => h) (Or.inl ⟨by rfl, ?_⟩) (by assumption) ?_
            rotate_left
            · intro W hSw
              go_simp
              first | done | (with_reducible rfl)
            try simp only [Act.put, sQa, sQb, sQc, gQa, gQb, gQc]
            refine wpAnyH_done (by kernel_rfl) ?_ _
            refine NoPanic.normal ?_
            have q9 := rangeOf (l := [Value.int .i64 l, .int .i64 rr]) d6
            have c0 := q9 0 _ rfl
            rw [Nat.zero_add] at c0
            have o9 := hid (o2.out.bel hHeld)
            have W9 := hid (W2.out.trans (hHeld.mono W2.out.size))
            have lt6 := hid (block_lt d6)
            have lo9 := hid (Nat.le_trans hlo.out hHeld.size)
            clear d6 o2 hHeld R2 T2 k2
            try clear hB
            try clear hG
            try clear e6
            go_wp2_with (first
              | (with_reducible refine wpList_buildOne slotInt (by decide) rfl (.tmp 25) rfl [Value.int .i64 l] rfl rfl ?_)
              | (at_builtin; refine wpList_appOwnG slotInt rfl (.tmp 21) (.tmp 26) rfl w0.heap.size w0.heap.size A5 _ os.length 1 c5 1 os [l] (fun _ => False) rfl rfl rfl rfl (o9.out.alloc _) (src_alloc (rep_int hI1.out)) (fun b hb => hb.elim) (by have := hlt; simp only [List.length_singleton]; omega) (by have := lo9.out; rw [World.size_alloc]; omega) ?_; intro A6 c6 w11 ho11 hB11 hG11; have q11 := rangeAt_kept q9 (w' := w11) (fun hl => (hG11.block g6 (by have := lt6.out; rw [World.size_alloc]; omega) (ne_map fun a ha => ⟨(hbk.out a ha).1, Nat.lt_of_lt_of_le (hbk.out a ha).2 m6⟩)).trans ((ext_alloc w9 (.cells [Value.int .i64 l].toArray 3)).block g6 hl)); have c1 := q11 1 _ rfl; rw [Nat.zero_add] at c1; have ho := hid ho11; have W11 := hid (W9.out.trans ((((ext_alloc w9 (.cells [Value.int .i64 l].toArray 3)).mono lo9.out)).trans hB11)); clear ho11 hB11 hG11))
            go_roundw
            case rel => exact ⟨rr, os ++ [l], A6, c6, rfl, (by rw [List.length_append]; rfl), ho.out, hn2.out, W11.out⟩
            case measure => simp [lenV]; omega
          exact AllReadyH.nil
        refine AllReadyH.cons (o := _) rfl (fun K hK => ?_) ?_
        · skip
          refine step_alloc_rowT rfl 107 rfl z2C zInfo2 ?_
          intro g6 w8 b6 e6 hB
          have m6 := Nat.le_trans hHeld.size b6
          refine hK.out _ _ ?_ (fun hHeld => ?_)
          · exact hHeld.trans (hB.mono hHeld.size)
          clear hK K
          try simp only [Act.put, sQa, sQb, sQc, gQa, gQb, gQc]
          refine wpAnyH_ready (rs := [2]) (by kernel_rfl) (by simp) ?_
          refine AllReadyH.cons (o := _) rfl (fun K hK => ?_) AllReadyH.nil
          go_simp
          refine (hRd.out _ (rangeBel2 hHeld R2.out)).mono ?_
          rintro e w8 ⟨rfl, hB⟩
          try replace e6 := (hB.block _ (block_lt e6)).trans e6
          go_wp2_with fail
          refine hK.out _ _ ?_ (fun hHeld => ?_)
          · exact hHeld.trans (hB.mono hHeld.size)
          clear hK K
          try simp only [Act.put, sQa, sQb, sQc, gQa, gQb, gQc]
          refine wpAnyH_ready (rs := [6]) (by kernel_rfl) (by simp) ?_
          refine AllReadyH.cons (o := _) rfl (fun K hK => ?_) AllReadyH.nil
          go_simp
          refine (hBt.out _).mono ?_
          rintro e w8 ⟨rfl, hB⟩
          try replace e6 := (hB.block _ (block_lt e6)).trans e6
          go_wp2_with fail
          refine hK.out _ _ ?_ (fun hHeld => ?_)
          · exact hHeld.trans (hB.mono hHeld.size)
          clear hK K
          try simp only [Act.put, sQa, sQb, sQc, gQa, gQb, gQc]
          refine wpAnyH_ready (rs := [8]) (by kernel_rfl) (by simp) ?_
          refine AllReadyH.cons (o := _) rfl (fun K hK => ?_) AllReadyH.nil
          refine step_store_rowT rfl 107 (.tmp 6) (.tmp 16) rfl g6 _ rfl rfl 107 z2C e6 size2 rfl (one2 l rr) ?_
          intro w9 d6 hG
          refine hK.out _ _ ?_ (fun hHeld => ?_)
          · exact hHeld.grown hG hHeld.size (by intro k hk; injection hk with hk; omega)
          clear hK K
          try simp only [Act.put, sQa, sQb, sQc, gQa, gQb, gQc]
          refine' wpAnyH_take (i := 9) (oi := _) (v := ?_) rfl (by kernel_rfl) (by kernel_rfl) (by kernel_rfl) (fun _ _ _ h => h) (Or.inl ⟨by rfl, ?_⟩) (by assumption) ?_
          rotate_left
          · intro W hSw
            go_simp
            first | done | (with_reducible rfl)
          try simp only [Act.put, sQa, sQb, sQc, gQa, gQb, gQc]
          refine wpAnyH_done (by kernel_rfl) ?_ _
          refine NoPanic.normal ?_
          have q9 := rangeOf (l := [Value.int .i64 l, .int .i64 rr]) d6
          have c0 := q9 0 _ rfl
          rw [Nat.zero_add] at c0
          have o9 := hid (o2.out.bel hHeld)
          have W9 := hid (W2.out.trans (hHeld.mono W2.out.size))
          have lt6 := hid (block_lt d6)
          have lo9 := hid (Nat.le_trans hlo.out hHeld.size)
          clear d6 o2 hHeld R2 T2 k2
          try clear hB
          try clear hG
          try clear e6
          go_wp2_with (first
            | (with_reducible refine wpList_buildOne slotInt (by decide) rfl (.tmp 25) rfl [Value.int .i64 l] rfl rfl ?_)
            | (at_builtin; refine wpList_appOwnG slotInt rfl (.tmp 21) (.tmp 26) rfl w0.heap.size w0.heap.size A5 _ os.length 1 c5 1 os [l] (fun _ => False) rfl rfl rfl rfl (o9.out.alloc _) (src_alloc (rep_int hI1.out)) (fun b hb => hb.elim) (by have := hlt; simp only [List.length_singleton]; omega) (by have := lo9.out; rw [World.size_alloc]; omega) ?_; intro A6 c6 w11 ho11 hB11 hG11; have q11 := rangeAt_kept q9 (w' := w11) (fun hl => (hG11.block g6 (by have := lt6.out; rw [World.size_alloc]; omega) (ne_map fun a ha => ⟨(hbk.out a ha).1, Nat.lt_of_lt_of_le (hbk.out a ha).2 m6⟩)).trans ((ext_alloc w9 (.cells [Value.int .i64 l].toArray 3)).block g6 hl)); have c1 := q11 1 _ rfl; rw [Nat.zero_add] at c1; have ho := hid ho11; have W11 := hid (W9.out.trans ((((ext_alloc w9 (.cells [Value.int .i64 l].toArray 3)).mono lo9.out)).trans hB11)); clear ho11 hB11 hG11))
          go_roundw
          case rel => exact ⟨rr, os ++ [l], A6, c6, rfl, (by rw [List.length_append]; rfl), ho.out, hn2.out, W11.out⟩
          case measure => simp [lenV]; omega
        exact AllReadyH.nil
end Go.Proofs.YtapnhdpgogfceaaGreatDoor

/- (TreeLg)
  Contracts of the landed package tree: sum, Road.
-/
namespace Go.Proofs.YtapnhdpgogfceaaGreatDoor
open Go.RowKit
set_option linter.unusedVariables false
set_option linter.unusedSimpArgs false
set_option maxRecDepth 100000

theorem PSum_any (F : Nat → Prop) (A : Option Addr) (c : Nat) (ns : List Nd) (root : Int) (ho : Ones ns) (hc : ns.length ≤ 9223372036854775807) : ∀ (e : Nat) (n : Int) (b : Dg) (w : World), 0 ≤ n → n ≤ ns.length → 0 ≤ rgt ns e n b → Row F w A ns → Tab w →
    Calls Tryz.prog 42 #[.agg (smC A ns.length c root noneD).toArray, .int .i64 n] w fun r w' => r = .returned (.agg ((sumP ns e n).map bv).toArray) ∧ Below w.heap.size w w' := by
  intro e
  induction e with
  | zero =>
    intro n b w h0 hn hr hrow hT
    by_cases hz : n = 0
    · subst hz
      rw [sumP_zero]
      exact PSum_zero A ns.length c root noneD w
    · cases hl : (ndAt ns n).leaf with
      | true =>
        rw [sumP_leaf hz hl]
        obtain ⟨j, hj, rfl, hx, hone⟩ := ones_at ho (by omega) hn
        have hv := (one_leaf hone (by rw [← hx]; exact hl)).1
        rw [← hx] at hv
        refine PSum_leaf F A c ns root noneD _ w hrow hc (by omega) hn hl ?_ hT
        unfold valB at hv
        simp at hv
        omega
      | false => rw [rgt_end hz hl] at hr; omega
  | succ e ih =>
    intro n b w h0 hn hr hrow hT
    by_cases hz : n = 0
    · subst hz
      rw [sumP_zero]
      exact PSum_zero A ns.length c root noneD w
    · cases hl : (ndAt ns n).leaf with
      | true =>
        rw [sumP_leaf hz hl]
        obtain ⟨j, hj, rfl, hx, hone⟩ := ones_at ho (by omega) hn
        have hv := (one_leaf hone (by rw [← hx]; exact hl)).1
        rw [← hx] at hv
        refine PSum_leaf F A c ns root noneD _ w hrow hc (by omega) hn hl ?_ hT
        unfold valB at hv
        simp at hv
        omega
      | false =>
        obtain ⟨f, hf, r1, r2, _, _⟩ := fork_parts hz hl hr
        obtain rfl : e = f := by omega
        obtain ⟨j, hj, rfl, hx, hone⟩ := ones_at ho (by omega) hn
        obtain ⟨k1, k2, k3, k4, _⟩ := one_fork hone (by rw [← hx]; exact hl)
        rw [← hx] at k1 k2 k3 k4
        rw [sumP_fork hz hl]
        exact PSum_fork F A c ns root noneD _ ⟨sumP ns e (ndAt ns ((j : Int) + 1)).l, sumP_length⟩ ⟨sumP ns e (ndAt ns ((j : Int) + 1)).r, sumP_length⟩ w hrow hc (by omega) hn hl hT
          (fun W hW hTW => ih _ _ W k1 (by omega) r1 hW hTW) (fun W hW hTW => ih _ _ W k3 (by omega) r2 hW hTW)
theorem sideL_get (ns : List Nd) (os : List Int) (i : Nat) (o : Int) (h : os[i]? = some o) : (sideL ns os)[i]? = some ⟨sumP ns (255 - i) o, sumP_length⟩ := by
  obtain ⟨hi, rfl⟩ := List.getElem?_eq_some_iff.1 h
  rw [List.getElem?_eq_getElem (by rw [sideL_length]; exact hi), sideL_at ns os i hi]
theorem take_get {α : Type} {l : List α} {i : Nat} {x : α} (h : l[i]? = some x) : l.take (i + 1) = l.take i ++ [x] := by
  obtain ⟨hi, rfl⟩ := List.getElem?_eq_some_iff.1 h
  exact List.take_succ_eq_append_getElem hi
theorem row_int {F : Nat → Prop} {w : World} {A : Option Addr} {xs : List Int} (h : Row F w A xs) {j : Nat} (hj : j < xs.length) : ∃ b o, A = some ⟨b, o, none⟩ ∧ w.cell? ⟨b, o + j, none⟩ = some (.int .i64 xs[j]) := by
  obtain ⟨b, o, rfl, _, _, h3⟩ := h (by omega)
  obtain ⟨vs, ⟨rfl, _⟩, h2⟩ := h3 j _ (List.getElem?_eq_getElem hj)
  have h4 := h2 0 _ rfl
  rw [Nat.add_zero, show Enc.size Int = 1 from rfl, Nat.mul_one] at h4
  exact ⟨b, o, rfl, h4⟩
theorem OwnQ.keptAt {α : Type} [Enc α] {E : TypeId} {w w' : World} {B0 B g : Nat} {A : Option Addr} {c : Nat} {xs : List α} (h : OwnQ E w B0 B A c xs) (hg : w.grownBy w' (some g)) (h0 : g < B0) (h1 : g < B) : OwnQ E w' B0 B A c xs := by
  have hb := h.blk
  obtain ⟨F, k1, k2⟩ := h
  refine ⟨F, k1.kept (fun a ha hl => hg.block _ hl fun e => ?_) (fun b hf hl => hg.block b hl fun e => ?_), fun b hf => ⟨(k2 b hf).1, (k2 b hf).2.kept (hg.block b (k2 b hf).2.lt fun e => ?_)⟩⟩
  · have := (hb a ha).1; injection e with e; omega
  · have := (k2 b hf).1; injection e with e; omega
  · have := (k2 b hf).1; injection e with e; omega
theorem slotDg : Slot Tryz.prog Dg 28 26 (.agg z32) 32 where
  under := Tryz.underlying28
  info := by kernel_rfl
  zero := by decide +kernel
  pos := by decide
theorem res_nd {fn : Func} {p u v : Tmp} (h : fn.results = #[.cell p 47, .tmp u, .tmp v]) (tmps : Array Value) (w : World) (g : Nat) (cs : Array Value) (e1 : tmps.getD p undef = .pointer (some ⟨g, 0, none⟩))
    (hg : w.heap[g]? = some (.cells cs 47 (0, 0))) (hs : cs.size = 36) : (results fn tmps).run Tryz.prog w = .ok (.tuple #[.agg cs, tmps.getD u undef, tmps.getD v undef]) w := by
  have h2 := run_loadVar_mid (P := Tryz.prog) w g 0 47 cs.toList _ (rangeOf hg) Tryz.underlying47 rfl (by rw [Array.length_toList, hs]; exact sizeNd)
  have e2 : tmps[p]?.getD undef = .pointer (some ⟨g, 0, none⟩) := by simpa using e1
  simp only [results, h]
  simp [Sem.run_bind, Result.andThen, e2, asAddr, Sem.run_pure, h2]

theorem boxes3 (w : World) (A : Option Addr) (n c : Nat) (root : Int) (b : Dg) :
    BoxT (((w.alloc (.cells #[.slice A n c, .int .i64 root] 24)).alloc (.cells (b.1.map bv).toArray 26)).alloc (.cells zNdC 47)) w.heap.size A n c root ∧
    (((w.alloc (.cells #[.slice A n c, .int .i64 root] 24)).alloc (.cells (b.1.map bv).toArray 26)).alloc (.cells zNdC 47)).rangeAt (w.heap.size + 1) 0 (b.1.map bv) ∧
    (((w.alloc (.cells #[.slice A n c, .int .i64 root] 24)).alloc (.cells (b.1.map bv).toArray 26)).alloc (.cells zNdC 47)).heap[w.heap.size + 1 + 1]? = some (.cells zNdC 47) ∧
    Below w.heap.size w (((w.alloc (.cells #[.slice A n c, .int .i64 root] 24)).alloc (.cells (b.1.map bv).toArray 26)).alloc (.cells zNdC 47)) := by
  obtain ⟨h1, h2, h3⟩ := boxesTDp w A n c root b 24 26
  have h4 := heap_alloc_new ((w.alloc (.cells #[.slice A n c, .int .i64 root] 24)).alloc (.cells (b.1.map bv).toArray 26)) (.cells zNdC 47)
  simp only [World.size_alloc] at h4
  exact ⟨h1.bel (ext_alloc _ _), rangeBel2 (ext_alloc _ _) h2, h4, ext_trans h3 (ext_alloc _ _)⟩

set_option maxHeartbeats 2000000 in
theorem PRoad_any (F : Nat → Prop) (A : Option Addr) (c : Nat) (ns : List Nd) (root : Int) (k : Dg) (w : World) (hr : Row F w A ns) (hc : ns.length ≤ 1000000) (hT : Tab w) :
    Calls Tryz.prog 44 #[.agg #[.slice A ns.length c, .int .i64 root], .agg (k.1.map bv).toArray] w fun e w' => ∃ A1 c1 A2 c2, e = .returned (.tuple #[.agg (ndC (endN ⟨ns, root⟩ k) A1 c1).toArray, .slice A2 (sidesM ⟨ns, root⟩ k).length c2, .int .i64 (if mayT ⟨ns, root⟩ = true then 0 else 8)]) ∧
      Own 5 w' w.heap.size A1 c1 (endN ⟨ns, root⟩ k).v ∧ OwnR 26 w' w.heap.size A2 c2 (sidesM ⟨ns, root⟩ k) ∧ Below w.heap.size w w' := by
  obtain ⟨hb0, hk0, hz0, W0⟩ := boxes3 w A ns.length c root k
  have hr0 := hr.bel W0
  have hT0 := hid (hT.bel W0 hT.low)
  have hlow := hid hT.low
  have hu := Tryz.underlying26
  have hut := Tryz.underlying24
  have hutr := Tryz.underlying76
  have hus := Tryz.underlying78
  have hun := Tryz.underlying47
  have hiT := hid (show (Tryz.prog.info? 24).map (·.size) = some ([Value.slice A ns.length c, .int .i64 root]).length from sizeTr)
  have hiTr := hid (show (Tryz.prog.info? 76).map (·.size) = some ([Value.slice A ns.length c, .int .i64 root]).length from sizeTrie)
  have hi := hid (sizeDgT k)
  have hbu := hid (show Tryz.prog.built 47 [] = some (ndC nd0 none 0).toArray by kernel_rfl)
  have hiS := fun x A2 c2 => hid (show (Tryz.prog.info? 47).map (·.size) = some (ndC x A2 c2).toArray.size by rw [List.size_toArray, len_nd]; exact sizeNd)
  have hzs := fun x A2 c2 => hid (show zNdC.size = (ndC x A2 c2).toArray.size by rw [zSizeNd, List.size_toArray, len_nd])
  have hone := fun x A2 c2 => hid (one_nd x A2 c2)
  obtain ⟨m, hm⟩ : ∃ m, mayT ⟨ns, root⟩ = m := ⟨_, rfl⟩
  have hC := fun W hW => PTCheck_is F A c ns root m W hW (by omega) hm
  replace hz0 := hid hz0
  replace hC := hid hC
  cases m with
  | false =>
    rw [show endN ⟨ns, root⟩ k = nd0 by unfold endN; rw [hm]; rfl, show sidesM ⟨ns, root⟩ k = [] by unfold sidesM; rw [hm]; rfl, hm]
    have hl0 := len_nd nd0 none 0
    have hOw : ∀ W, Own 5 W w.heap.size none 0 nd0.v := fun W => Own.nil W _
    have hiz := hiS nd0 none 0
    have hzz := hzs nd0 none 0
    have honez := hone nd0 none 0
    clear hiS hzs hone
    generalize hnd : nd0 = x0 at *
    generalize hcz : ndC x0 none 0 = cz at *
    generalize hdk : k.1.map bv = dk at *
    go_enter Tryz.func44, Tryz.ntmps44
    go_wp2_with (first
      | (with_reducible refine wpList_alloc_row rfl 47 rfl zNdC zInfoNd ?_)
      | ((with_reducible refine wpList_load_rng rfl 24 (.tmp 2) rfl w.heap.size 0 rfl [Value.slice A ns.length c, .int .i64 root] _ ?_ hut rfl hiT.out ?_); exact hb0.all))
    generalize ((w.alloc (.cells #[.slice A ns.length c, .int .i64 root] 24)).alloc (.cells dk.toArray 26)).alloc (.cells zNdC 47) = w0 at *
    refine (hC.out _ hr0).mono ?_
    rintro e w3 ⟨rfl, hb3⟩
    have z3 := hid ((hb3.block _ (block_lt hz0.out)).trans hz0.out)
    have W3 := hid (W0.trans (hb3.mono W0.size))
    go_wp2_with (first
      | ((with_reducible refine wpList_built rfl 47 _ rfl cz.toArray [] ?_ ?_ ?_); exact hbu.out; rfl)
      | ((with_reducible refine wpList_store_row rfl 47 (.tmp 4) (.tmp 17) rfl (w.heap.size + 1 + 1) _ rfl rfl 47 zNdC ?_ ?_ ?_ ?_ ?_); exact z3.out; exact hiz.out; exact hzz.out; exact honez.out; intro w4 hg4 hb4 hs4))
    exact bodyPost_ret (res_nd Tryz.results44 _ _ (w.heap.size + 1 + 1) _ rfl hg4 (by rw [List.size_toArray]; exact hl0)) rfl ⟨none, 0, none, 0, by rw [hcz]; rfl, hOw _, OwnR.nil _ _, W3.out.grown hb4 W3.out.size (fun g e => by injection e with e; omega)⟩
  | true =>
    obtain ⟨-, m1, m2, ho, m3⟩ := mayT_iff.1 hm
    dsimp only at m1 m2 ho m3
    obtain ⟨⟨w1, w2, w3⟩, w4, w5⟩ := way_spec (k := k) ho 256 root z0 (Nat.le_refl _) m1 m2 m3 zr_z0
    have hRd := fun W hW => PRoadT_any F A c ns root k W hW hc hm
    have hNs := fun W hTW => PNewSummed_any A ns.length c root W hTW
    have hSm := fun (i : Nat) (o : Int) (hio : (wayP ns k 256 root).2[i]? = some o) (W : World) (hW : Row F W A ns) (hTW : Tab W) => (show Calls Tryz.prog 42 #[.agg (smC A ns.length c root noneD).toArray, .int .i64 o] W fun r w' => r = .returned (.agg ((sumP ns (255 - i) o).map bv).toArray) ∧ Below W.heap.size W w' from by
      obtain ⟨c1, c2, b', c3, c4⟩ := w5 i o hio
      exact PSum_any F A c ns root ho (by omega) (255 - i) o b' W c1 c2 (by rw [show 256 - 1 - i = 255 - i by omega] at c3; exact c3) hW hTW)
    have hside : sidesM ⟨ns, root⟩ k = sideL ns (wayP ns k 256 root).2 := by unfold sidesM; rw [hm]; rfl
    have hsl := sideL_length ns (wayP ns k 256 root).2
    have hsa := sideL_get ns (wayP ns k 256 root).2
    have hendv : endN ⟨ns, root⟩ k = if (wayP ns k 256 root).1 = 0 then nd0 else ndAt ns (wayP ns k 256 root).1 := by unfold endN; rw [hm]; rfl
    have hend : ∀ W, Row F W A ns → ∃ A' c', Calls Tryz.prog 65 #[.agg #[.slice A ns.length c, .int .i64 root], .int .i64 (wayP ns k 256 root).1] W (fun e w' => e = .returned (.agg (ndC (endN ⟨ns, root⟩ k) A' c').toArray) ∧ Below W.heap.size W w') ∧ Rd W A' (endN ⟨ns, root⟩ k).v := fun W hW => by
      rw [hendv]
      by_cases hz : (wayP ns k 256 root).1 = 0
      · rw [if_pos hz, hz]
        exact ⟨none, 0, PNode_zero A ns.length c root W, fun hn => absurd hn (by simp [nd0])⟩
      · rw [if_neg hz]
        obtain ⟨j, hj, hje, hx, _⟩ := ones_at ho (by omega) w2
        rw [hx, hje]
        obtain ⟨q, o, rfl, A', c', hR, _, _, hv3, _⟩ := row_nd hW hj
        exact ⟨A', c', PNode_at q o j ns.length c root ns[j] A' c' W hR hj (by omega), hv3.rd⟩
    have hvl : (endN ⟨ns, root⟩ k).v.length ≤ 1000000 := by
      rw [hendv]
      split
      · simp [nd0]
      · rename_i hz
        obtain ⟨j, hj, hje, hx, hone1⟩ := ones_at ho (by omega) w2
        rcases w3 with h | h
        · exact absurd h hz
        · rw [hx] at h ⊢
          have := (one_leaf hone1 h).1
          unfold valB at this
          simp at this
          omega
    rw [hside, hm]
    have hlS := len_sm A ns.length c root noneD
    have hSz := hid (show (Tryz.prog.info? 78).map (·.size) = some (smC A ns.length c root noneD).toArray.size by rw [List.size_toArray, len_sm]; exact sizeSm)
    have hSl := hid (show (Tryz.prog.info? 78).map (·.size) = some (smC A ns.length c root noneD).length by rw [len_sm]; exact sizeSm)
    have hSzz := hid (show zSmC.size = (smC A ns.length c root noneD).toArray.size by rw [zSizeSm, List.size_toArray, len_sm])
    have hSone := hid (one_sm A ns.length c root noneD)
    have hBS := fun (W : World) (g : Nat) (tt : TypeId) (h : W.heap[g]? = some (.cells (smC A ns.length c root noneD).toArray tt (0, 0))) => BoxS.of (rangeOf h)
    generalize sideL ns (wayP ns k 256 root).2 = L at *
    generalize (wayP ns k 256 root).2 = os at *
    generalize (wayP ns k 256 root).1 = en at *
    generalize endN ⟨ns, root⟩ k = x at *
    clear hside hendv w1 w2 w3 w5 m1 m2 m3 hm hbu hr hT
    replace hRd := hid hRd
    replace hNs := hid hNs
    replace hSm := hid hSm
    replace hend := hid hend
    replace hsa := hid hsa
    replace hBS := hid hBS
    generalize hcs : smC A ns.length c root noneD = cs at *
    replace hcs := hid hcs
    generalize hdk : k.1.map bv = dk at *
    go_enter Tryz.func44, Tryz.ntmps44
    go_wp2_with (first
      | (with_reducible refine wpList_alloc_row rfl 47 rfl zNdC zInfoNd ?_)
      | ((with_reducible refine wpList_load_rng rfl 24 (.tmp 2) rfl w.heap.size 0 rfl [Value.slice A ns.length c, .int .i64 root] _ ?_ hut rfl hiT.out ?_); exact hb0.all))
    generalize ((w.alloc (.cells #[.slice A ns.length c, .int .i64 root] 24)).alloc (.cells dk.toArray 26)).alloc (.cells zNdC 47) = w0 at *
    refine (hC.out _ hr0).mono ?_
    rintro e w3 ⟨rfl, hb3⟩
    have t3 := hb0.all
    replace t3 := rangeBel2 hb3 t3
    have k3 := rangeBel2 hb3 hk0
    have r3 := hid (hr0.bel hb3)
    have T3 := hid (hT0.out.bel hb3 (Nat.lt_of_lt_of_le hlow.out W0.size))
    have z3 := hid ((hb3.block _ (block_lt hz0.out)).trans hz0.out)
    have W3 := hid (W0.trans (hb3.mono W0.size))
    clear hb0 hk0 hr0 hT0 hz0 hb3 hC
    go_wp2_with (first
      | ((with_reducible refine wpList_load_rng rfl 24 (.tmp 2) rfl w.heap.size 0 rfl [Value.slice A ns.length c, .int .i64 root] _ ?_ hut rfl hiT.out ?_); exact t3))
    refine (hNs.out _ T3.out).mono ?_
    rintro e w4 ⟨rfl, hb4⟩
    have k4 := rangeBel2 hb4 k3
    have r4 := hid (r3.out.bel hb4)
    have T4 := hid (T3.out.bel hb4 (Nat.lt_of_lt_of_le hlow.out W3.out.size))
    have z4 := hid ((hb4.block _ (block_lt z3.out)).trans z3.out)
    have W4 := hid (W3.out.trans (hb4.mono W3.out.size))
    have e4 := hid (heap_alloc_new w4 (.cells zSmC 78))
    clear t3 k3 r3 T3 z3 W3 hb4 hNs
    go_wp2_with (first
      | (with_reducible refine wpList_alloc_row rfl 78 rfl zSmC zInfoSm ?_)
      | ((with_reducible refine wpList_store_row rfl 78 (.tmp 8) (.tmp 20) rfl _ _ rfl rfl 78 zSmC ?_ ?_ ?_ ?_ ?_); exact e4.out; exact hSz.out; exact hSzz.out; exact hSone.out; intro w5 hg5 hb5 hs5; have X5 := hid (xnewP rfl hb5); have S5 := hBS.out _ _ _ hg5; have s5 := S5.trie; have k5 := rangeBel2 X5.out k4; have r5 := hid (r4.out.bel X5.out); have T5 := hid (T4.out.bel X5.out (Nat.lt_of_lt_of_le hlow.out W4.out.size)); have z5 := hid ((X5.out.block _ (block_lt z4.out)).trans z4.out); have W5 := hid (W4.out.trans (X5.out.mono W4.out.size)); clear hg5 hb5 hs5)
      | ((with_reducible refine wpList_load_rng rfl 76 (.tmp 22) rfl w4.heap.size 0 rfl [Value.slice A ns.length c, .int .i64 root] _ ?_ hutr rfl hiTr.out ?_); exact s5)
      | ((with_reducible refine wpList_load_rng rfl 26 (.tmp 24) rfl (w.heap.size + 1) 0 rfl dk _ ?_ hu rfl hi.out ?_); exact k5)
      | ((with_reducible refine wpList_load_rng rfl 26 (.tmp 3) rfl (w.heap.size + 1) 0 rfl dk _ ?_ hu rfl hi.out ?_); exact k5))
    refine (hRd.out _ r5.out).mono ?_
    rintro e w6 ⟨A5, c5, rfl, ho5, hb6⟩
    have S6 := S5.bel hb6
    have r6 := hid (r5.out.bel hb6)
    have T6 := hid (T5.out.bel hb6 (Nat.lt_of_lt_of_le hlow.out W5.out.size))
    have z6 := hid ((hb6.block _ (block_lt z5.out)).trans z5.out)
    have W6 := hid (W5.out.trans (hb6.mono W5.out.size))
    have o6 := ho5.row
    have q6 := ho5.cap
    clear k4 r4 T4 z4 W4 e4 X5 S5 s5 k5 r5 T5 z5 W5 ho5 hb6 hRd
    go_wp2
    go_loopw [5, 30] (fun v5 v30 wr => ∃ (j : Nat) (A6 : Option Addr) (c6 : Nat), j ≤ os.length ∧ v30 = .int .i64 j ∧ v5 = .slice A6 (L.take j).length c6 ∧ OwnR 26 wr w6.heap.size A6 c6 (L.take j) ∧ Below w6.heap.size w6 wr) (fun _ v30 _ => os.length - (intOf v30).toNat)
    case atStart => exact ⟨0, none, 0, Nat.zero_le _, rfl, rfl, OwnR.nil _ _, Below.refl _ _⟩
    case round =>
      obtain ⟨j, A6, c6, hj, rfl, rfl, hown, hbw⟩ := hrel
      have S7 := S6.bel hbw
      have r7 := hid (r6.out.bel hbw)
      have T7 := hid (T6.out.bel hbw (Nat.lt_of_lt_of_le hlow.out W6.out.size))
      have W7 := hid (W6.out.trans (hbw.mono W6.out.size))
      have z7 := hid ((hbw.block _ (block_lt z6.out)).trans z6.out)
      by_cases hlt : j < os.length
      · obtain ⟨qb, qo, hAe, hc0⟩ := row_int (o6.bel hbw) hlt
        subst hAe
        have hget := hsa.out j os[j] (List.getElem?_eq_getElem hlt)
        have htk := take_get hget
        have hxl : (L.take j).length = j := by rw [List.length_take]; omega
        have hSj := hid (hSm.out j os[j] (List.getElem?_eq_getElem hlt))
        have al7 := S7.all
        rw [hcs.out] at al7
        have hD : (sumP ns (255 - j) os[j]).length = 32 := sumP_length
        have hDl : ((sumP ns (255 - j) os[j]).map bv).length = Enc.size Dg := by rw [List.length_map, hD]; rfl
        generalize hdg : (⟨sumP ns (255 - j) os[j], sumP_length⟩ : Dg) = dg at *
        have hdv : sumP ns (255 - j) os[j] = dg.1 := by rw [← hdg]
        rw [hdv] at hDl hSj
        clear hdg hdv hD hget
        generalize hy : L.take (j + 1) = y at *
        generalize hx0 : L.take j = x0 at *
        generalize os[j] = oj at *
        have hyl : y.length = j + 1 := by rw [htk, List.length_append, hxl]; rfl
        replace hy := hid hy
        replace htk := hid htk
        replace hxl := hid hxl
        replace hyl := hid hyl
        replace hown := hid hown
        have hbs := hid hbw.size
        clear S7 hx0
        go_wp2_with (first
          | ((with_reducible refine wpList_load_rng rfl 78 (.tmp 8) rfl w4.heap.size 0 rfl cs _ ?_ hus rfl hSl.out ?_); exact al7))
        refine (hSj.out _ r7.out T7.out).mono ?_
        rintro e w8 ⟨rfl, hb8⟩
        have own8 := hid (hown.out.bel hb8)
        have W8 := hid (hbw.trans (hb8.mono hbw.size))
        have s8 := hid (Nat.le_trans hbs.out hb8.size)
        go_wp2_with (first
          | ((with_reducible refine wpList_buildOne slotDg (by decide) rfl (.tmp 37) rfl (dg.1.map bv) ?_ hDl ?_); rfl)
          | (at_builtin; refine wpList_appOwn slotDg rfl (.tmp 34) (.tmp 38) rfl w6.heap.size w6.heap.size A6 _ x0.length 1 c6 1 x0 [dg] (fun _ => False) rfl rfl rfl rfl (own8.out.alloc _) (src_alloc (show Enc.rep (fun _ => False) w8 dg (dg.1.map bv) from rfl)) (fun b hb => hb.elim) (by have := hxl.out; have := hlt; simp only [List.length_singleton]; omega) (by have := s8.out; rw [World.size_alloc]; omega) ?_; intro A7 c7 w9 ho9 hb9; have own9 := hid ho9; have W9 := hid (W8.out.trans (((ext_alloc w8 (.cells (dg.1.map bv).toArray 26)).mono s8.out).trans hb9)); clear ho9 hb9))
        go_roundw
        case rel =>
          exact ⟨j + 1, A7, c7, by omega, by go_num, by rw [hy.out, hyl.out, hxl.out], by rw [hy.out, htk.out]; exact own9.out, W9.out⟩
        case measure => simp [intOf]; omega
      · obtain rfl : j = os.length := by omega
        rw [← hsl, List.take_length] at hown ⊢
        have s7 := S7.trie
        obtain ⟨A', c', hNd, hrd⟩ := hend.out _ r7.out
        have own7 := hid hown
        replace hNd := hid hNd
        replace hrd := hid hrd
        clear hown S7
        go_wp2_with (first
          | ((with_reducible refine wpList_load_rng rfl 76 (.tmp 41) rfl w4.heap.size 0 rfl [Value.slice A ns.length c, .int .i64 root] _ ?_ hutr rfl hiTr.out ?_); exact s7))
        refine hNd.out.mono ?_
        rintro e w8 ⟨rfl, hb8⟩
        have rd8 := hrd.out.bel hb8
        have own8 := hid (own7.out.bel hb8)
        have z8 := hid ((hb8.block _ (block_lt z7.out)).trans z7.out)
        have W8 := hid (W7.out.trans (hb8.mono W7.out.size))
        go_wp2_with fail
        refine (PTwinNode_any x A' c' _ rd8 hvl).mono ?_
        rintro e w9 ⟨A9, c9, rfl, ho9, hb9⟩
        have own9 := hid (own8.out.bel hb9)
        have z9 := hid ((hb9.block _ (block_lt z8.out)).trans z8.out)
        have W9 := hid (W8.out.trans (hb9.mono W8.out.size))
        have ho := hid ho9
        have hx9 := hid (len_nd x A9 c9)
        have hlo := hid (block_lt z8.out)
        have hlo8 := hid W8.out.size
        have hlo6 := hid (block_lt z6.out)
        have hlo6w := hid W6.out.size
        clear rd8 own8 z8 hb9 hb8 own7 hrd hNd s7 ho9
        go_wp2_with (first
          | ((with_reducible refine wpList_store_row rfl 47 (.tmp 4) (.tmp 45) rfl (w.heap.size + 1 + 1) _ rfl rfl 47 zNdC ?_ ?_ ?_ ?_ ?_); exact z9.out; exact (hiS x A9 c9).out; exact (hzs x A9 c9).out; exact (hone x A9 c9).out; intro w10 hg4 hb4 hs4))
        refine bodyPost_ret (res_nd Tryz.results44 _ _ (w.heap.size + 1 + 1) _ rfl hg4 (by rw [List.size_toArray]; exact hx9.out)) rfl ⟨A9, c9, A6, c6, rfl, ?_, ?_, W9.out.grown hb4 W9.out.size (fun g e => by injection e with e; omega)⟩
        · exact ((ho.out.kept hb4 fun a ha e => by have h1 := (ho.out.blk a ha).1; injection e with e; have h2 := hlo.out; omega).base hlo8.out)
        · exact OwnR.base (OwnQ.keptAt own9.out hb4 hlo6.out hlo6.out) hlo6w.out
end Go.Proofs.YtapnhdpgogfceaaGreatDoor

/- (TreeLh)
  Contracts of the landed package tree: Sum.
-/
namespace Go.Proofs.YtapnhdpgogfceaaGreatDoor
open Go.RowKit
set_option linter.unusedVariables false
set_option linter.unusedSimpArgs false
set_option maxRecDepth 100000

/-- What Sum tells: equal to the document's text's sumT by rfl. -/
def sumM (t : Tr) : Dg := if mayT t = true then ⟨sumP t.ns 256 t.root, sumP_length⟩ else z0
theorem boxesTZM (w : World) (A : Option Addr) (n c : Nat) (root : Int) :
    BoxT ((w.alloc (.cells #[.slice A n c, .int .i64 root] 24)).alloc (.cells z32 26)) w.heap.size A n c root ∧
    ((w.alloc (.cells #[.slice A n c, .int .i64 root] 24)).alloc (.cells z32 26)).heap[w.heap.size + 1]? = some (.cells z32 26) ∧
    Below w.heap.size w ((w.alloc (.cells #[.slice A n c, .int .i64 root] 24)).alloc (.cells z32 26)) := by
  have h2 := heap_alloc_new (w.alloc (.cells #[.slice A n c, .int .i64 root] 24)) (.cells z32 26)
  rw [World.size_alloc] at h2
  exact ⟨(BoxT.new w A n c root _).bel (ext_alloc _ _), h2, ext_trans (ext_alloc _ _) (ext_alloc _ _)⟩
set_option maxHeartbeats 1000000 in
theorem PTSum_any (F : Nat → Prop) (A : Option Addr) (c : Nat) (ns : List Nd) (root : Int) (w : World) (hr : Row F w A ns) (hc : ns.length ≤ 1000000) (hT : Tab w) :
    Calls Tryz.prog 22 #[.agg #[.slice A ns.length c, .int .i64 root]] w fun e w' => e = .returned (.tuple #[.agg ((sumM ⟨ns, root⟩).1.map bv).toArray, .int .i64 (if mayT ⟨ns, root⟩ = true then 0 else 8)]) ∧ Below w.heap.size w w' := by
  obtain ⟨T0, h1, W0⟩ := boxesTZM w A ns.length c root
  have hr0 := hr.bel W0
  have hut := Tryz.underlying24
  have hiT := hid (show (Tryz.prog.info? 24).map (·.size) = some ([Value.slice A ns.length c, .int .i64 root]).length from sizeTr)
  obtain ⟨m, hm⟩ : ∃ m, mayT ⟨ns, root⟩ = m := ⟨_, rfl⟩
  have hC := hid (fun W hW => PTCheck_is F A c ns root m W hW (by omega) hm)
  have hz := hid (show Tryz.prog.built 26 [] = some (z0.1.map bv).toArray by kernel_rfl)
  have zz := bvs_all z0.1
  have zs : ((z0.1.map bv).toArray).size = 32 := by simp [z0.2]
  have zd : ((sumM ⟨ns, root⟩).1.map bv).toArray.size = 32 := by simp [(sumM ⟨ns, root⟩).2]
  have zo := bvs_all (sumM ⟨ns, root⟩).1
  replace h1 := hid h1
  rw [hm]
  cases m with
  | false =>
    rw [show sumM ⟨ns, root⟩ = z0 by unfold sumM; rw [hm]; rfl]
    clear zd zo
    generalize z0.1.map bv = dz at *
    go_enter Tryz.func22, Tryz.ntmps22
    go_wp2_with (first
      | (with_reducible refine wpList_alloc_row rfl 26 rfl z32 info32 ?_)
      | ((with_reducible refine wpList_load_rng rfl 24 (.tmp 1) rfl w.heap.size 0 rfl [Value.slice A ns.length c, .int .i64 root] _ ?_ hut rfl hiT.out ?_); exact T0.all))
    generalize (w.alloc (.cells #[.slice A ns.length c, .int .i64 root] 24)).alloc (.cells z32 26) = w0 at *
    refine (hC.out _ hr0).mono ?_
    rintro e w2 ⟨rfl, hb⟩
    have h2 := hid ((hb.block _ (block_lt h1.out)).trans h1.out)
    have W2 := hid (W0.trans (hb.mono W0.size))
    go_wp2_with (first
      | ((with_reducible refine wpList_built rfl 26 _ rfl dz.toArray [] ?_ ?_ ?_); exact hz.out; rfl)
      | ((with_reducible refine wpList_store_row rfl 26 (.tmp 2) (.tmp 9) rfl (w.heap.size + 1) _ rfl rfl 26 z32 ?_ ?_ ?_ ?_ ?_); exact h2.out; (rw [zs]; exact size32); (rw [zs]; exact z32_size); exact zz; intro w3 hg3 hb3 hs3))
    exact bodyPost_ret (res_dig rfl _ _ (w.heap.size + 1) _ rfl hg3 zs) rfl ⟨rfl, W2.out.grown hb3 W2.out.size (fun g e => by injection e with e; omega)⟩
  | true =>
    obtain ⟨-, m1, m2, ho, m3⟩ := mayT_iff.1 hm
    dsimp only at m1 m2 ho m3
    have hNs := hid (fun W hTW => PNewSummed_any A ns.length c root W hTW)
    have hSm := fun W hW hTW => PSum_any F A c ns root ho (by omega) 256 root z0 W m1 m2 m3 hW hTW
    rw [show sumP ns 256 root = (sumM ⟨ns, root⟩).1 by unfold sumM; rw [hm]; rfl] at hSm
    generalize sumM ⟨ns, root⟩ = S at *
    generalize smC A ns.length c root noneD = cs at *
    replace hSm := hid hSm
    clear zz zs
    go_enter Tryz.func22, Tryz.ntmps22
    go_wp2_with (first
      | (with_reducible refine wpList_alloc_row rfl 26 rfl z32 info32 ?_)
      | ((with_reducible refine wpList_load_rng rfl 24 (.tmp 1) rfl w.heap.size 0 rfl [Value.slice A ns.length c, .int .i64 root] _ ?_ hut rfl hiT.out ?_); exact T0.all))
    generalize (w.alloc (.cells #[.slice A ns.length c, .int .i64 root] 24)).alloc (.cells z32 26) = w0 at *
    refine (hC.out _ hr0).mono ?_
    rintro e w2 ⟨rfl, hb⟩
    have T2 := T0.bel hb
    have h2 := hid ((hb.block _ (block_lt h1.out)).trans h1.out)
    have W2 := hid (W0.trans (hb.mono W0.size))
    have hs2 := hid (block_lt h2.out)
    have hTx := fun (x : World) (h : Below (w.heap.size + 1) w2 x) => hT.bel (W2.out.trans (h.mono (Nat.le_succ _))) hT.low
    have hRx := fun (x : World) (h : Below (w.heap.size + 1) w2 x) => hr.bel (W2.out.trans (h.mono (Nat.le_succ _)))
    replace hTx := hid hTx
    replace hRx := hid hRx
    clear T0 hr0 h1 hb W0 hT hr
    have e1 := h2.out
    go_wp2
    refine wp_region_noPanic ?_
    refine wp_region_held_drew (S := fun w' => Below (w.heap.size + 1) w2 w') (by kernel_rfl) ?_ (fun hHeld => ?_)
    · exact (bel_drew w2).mono (Nat.le_of_lt hs2.out)
    refine' wpAnyH_take (i := 0) (oi := _) (v := _) rfl (by kernel_rfl) (by kernel_rfl) (by kernel_rfl) (fun _ _ _ h => h) (yieldsIf_load_mid (by rfl) _ _ rfl _ _ rfl _ _ (fun _ h => rangeAt_kept T2.all (fun _ => h.block _ (Nat.lt_succ_self _))) hut rfl hiT.out) (by assumption) ?_
    try simp only [Act.put, sQa, sQb, sQc, gQa, gQb, gQc]
    refine' wpAnyH_take (i := 2) (oi := _) (v := ?_) rfl (by kernel_rfl) (by kernel_rfl) (by kernel_rfl) (fun _ _ _ h => h) (Or.inl ⟨by rfl, ?_⟩) (by assumption) ?_
    rotate_left
    · intro W hSw
      go_simp
      first | done | (with_reducible rfl)
    try simp only [Act.put, sQa, sQb, sQc, gQa, gQb, gQc]
    refine' wpAnyH_take (i := 3) (oi := _) (v := ?_) rfl (by kernel_rfl) (by kernel_rfl) (by kernel_rfl) (fun _ _ _ h => h) (Or.inl ⟨by rfl, ?_⟩) (by assumption) ?_
    rotate_left
    · intro W hSw
      have hCell := (hSw.cell (Nat.lt_succ_self _)).trans T2.rt
      go_simp
      first | done | (with_reducible rfl)
    try simp only [Act.put, sQa, sQb, sQc, gQa, gQb, gQc]
    refine wpAnyH_ready (rs := [1]) (by kernel_rfl) (by simp) ?_
    refine AllReadyH.cons (o := _) rfl (fun K hK => ?_) AllReadyH.nil
    go_simp
    refine (hNs.out _ (hTx.out _ hHeld)).mono ?_
    rintro e5 w5 ⟨rfl, hB⟩
    replace e1 := (hB.block _ (block_lt e1)).trans e1
    go_wp2_with fail
    refine hK.out _ _ ?_ (fun hHeld => ?_)
    · exact hHeld.trans (hB.mono (Nat.le_trans (Nat.le_of_lt hs2.out) hHeld.size))
    clear hK K
    try simp only [Act.put, sQa, sQb, sQc, gQa, gQb, gQc]
    refine wpAnyH_ready (rs := [4]) (by kernel_rfl) (by simp) ?_
    refine AllReadyH.cons (o := _) rfl (fun K hK => ?_) AllReadyH.nil
    go_simp
    refine (hSm.out _ (hRx.out _ hHeld) (hTx.out _ hHeld)).mono ?_
    rintro e6 w6 ⟨rfl, hB⟩
    replace e1 := (hB.block _ (block_lt e1)).trans e1
    go_wp2_with fail
    refine hK.out _ _ ?_ (fun hHeld => ?_)
    · exact hHeld.trans (hB.mono (Nat.le_trans (Nat.le_of_lt hs2.out) hHeld.size))
    clear hK K
    try simp only [Act.put, sQa, sQb, sQc, gQa, gQb, gQc]
    refine wpAnyH_ready (rs := [5]) (by kernel_rfl) (by simp) ?_
    refine AllReadyH.cons (o := _) rfl (fun K hK => ?_) AllReadyH.nil
    refine step_store_row rfl 26 (.tmp 2) (.tmp 15) rfl (w.heap.size + 1) _ rfl rfl 26 z32 e1 (by rw [zd]; exact size32) (by rw [zd]; exact z32_size) zo ?_
    intro w8 d6 hG
    refine hK.out _ _ ?_ (fun hHeld => ?_)
    · exact hHeld.grown hG (Nat.le_trans (Nat.le_of_lt hs2.out) hHeld.size) (fun g e => by injection e with e; omega)
    clear hK K
    try simp only [Act.put, sQa, sQb, sQc, gQa, gQb, gQc]
    refine' wpAnyH_take (i := 6) (oi := _) (v := ?_) rfl (by kernel_rfl) (by kernel_rfl) (by kernel_rfl) (fun _ _ _ h => h) (Or.inl ⟨by rfl, ?_⟩) (by assumption) ?_
    rotate_left
    · intro W hSw
      go_simp
      first | done | (with_reducible rfl)
    try simp only [Act.put, sQa, sQb, sQc, gQa, gQb, gQc]
    refine wpAnyH_done (by kernel_rfl) ?_ _
    refine NoPanic.normal ?_
    go_wp2
    refine bodyPost_ret (res_dig rfl _ _ (w.heap.size + 1) _ rfl d6 zd) rfl ⟨rfl, W2.out.trans (hHeld.mono (Nat.le_succ _))⟩
end Go.Proofs.YtapnhdpgogfceaaGreatDoor
