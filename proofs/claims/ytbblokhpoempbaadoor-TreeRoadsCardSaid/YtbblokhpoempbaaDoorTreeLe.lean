/-
  Contracts of the landed package tree: newSummed, sum.
-/
import Derived.Test.YtbblokhpoempbaaDoorTreeLd
import Derived.Test.YtbblokhpoempbaaDoorPrR
namespace Go.Proofs.YtbblokhpoempbaaDoor
open Go.RowKit
set_option linter.unusedVariables false
set_option linter.unusedSimpArgs false
set_option maxRecDepth 100000

/-- A summed trie's cells. -/
def smC (A : Option Addr) (n c : Nat) (root : Int) (d : Dg) : List Value := [.slice A n c, .int .i64 root] ++ d.1.map bv
def zSmC : Array Value := (smC none 0 0 0 z0).toArray
theorem len_sm (A : Option Addr) (n c : Nat) (root : Int) (d : Dg) : (smC A n c root d).length = 34 := by simp [smC, d.2]
theorem zInfoSm : (Tryd.prog.info? 107).map (fun i => (i.zero, i.size)) = some (some (.agg zSmC), zSmC.size) := by kernel_rfl
theorem zSizeSm : zSmC.size = 34 := by decide +kernel
theorem sizeSm : (Tryd.prog.info? 107).map (·.size) = some 34 := by kernel_rfl
theorem one_sm (A : Option Addr) (n c : Nat) (root : Int) (d : Dg) : (smC A n c root d).toArray.all (·.oneCell') = true := all_oneCell_toArray fun u hu => by
  simp only [smC, List.cons_append, List.nil_append, List.mem_cons] at hu
  rcases hu with rfl | rfl | h
  · rfl
  · rfl
  · exact bvs_one _ u h
theorem placesSm : (match Tryd.prog.info? 107, Tryd.prog.underlying 107 with
    | some it, some (.struct fields) => (fields.toList.mapM (fun f => (Tryd.prog.info? f.type).map fun i => (f.offset, i.size))).map fun pl => (it.zero, pl)
    | _, _ => none) = some (some (.agg zSmC), [(0, 2), (2, 32)]) := by kernel_rfl
theorem built_sm (A : Option Addr) (n c : Nat) (root : Int) (d : Dg) : Tryd.prog.built 107 [(0, .agg #[.slice A n c, .int .i64 root]), (1, .agg (d.1.map bv).toArray)] = some (smC A n c root d).toArray := by
  have h := placesSm
  unfold Program.built
  cases hi : Tryd.prog.info? 107 with
  | none => rw [hi] at h; cases h
  | some it =>
    cases hd : Tryd.prog.underlying 107 with
    | none => rw [hi, hd] at h; cases h
    | some de =>
      cases de with
      | struct fields =>
        rw [hi, hd] at h
        simp only at h ⊢
        obtain ⟨pl, hpl, h2⟩ := Option.map_eq_some_iff.1 h
        injection h2 with h3 h4
        rw [h3, hpl, h4]
        simp only
        have hk : (d.1.map bv).length = 32 := by rw [List.length_map]; exact d.2
        have c0 : (Value.agg #[.slice A n c, .int .i64 root]).cells = #[Value.slice A n c, .int .i64 root] := rfl
        have c1 : (Value.agg (d.1.map bv).toArray).cells = (d.1.map bv).toArray := rfl
        have cz : (Value.agg zSmC).cells = zSmC := rfl
        rw [fill_cons (off := 0) (by rw [c0]; rfl) (by rw [c0, cz, zSizeSm]; show 0 + 2 ≤ 34; decide)]
        have e1 : lay (Value.agg zSmC).cells.toList 0 (Value.agg #[.slice A n c, .int .i64 root]).cells.toList = smC A n c root z0 := by
          rw [c0, cz]
          rfl
        rw [e1, fill_cons (off := 2) (by rw [c1, List.size_toArray, hk]; rfl) (by rw [c1, List.size_toArray, hk, List.size_toArray, len_sm]; decide), Instr.fill]
        congr 2
        rw [c1]
        have hz : (z0.1.map bv).length = 32 := by decide +kernel
        simp only [lay, smC, List.cons_append, List.nil_append, List.take_succ_cons, List.take_zero, hk]
        rw [List.drop_of_length_le (by simp [hz])]
        simp
      | _ => rw [hi, hd] at h; cases h
/-- A summed trie in a box. -/
structure BoxS (W : World) (g : Nat) (A : Option Addr) (n c : Nat) (root : Int) (d : Dg) : Prop where
  all : W.rangeAt g 0 (smC A n c root d)
  trie : W.rangeAt g 0 [.slice A n c, .int .i64 root]
  none : W.rangeAt g 2 (d.1.map bv)
theorem BoxS.of {W : World} {g : Nat} {A : Option Addr} {n c : Nat} {root : Int} {d : Dg} (h : W.rangeAt g 0 (smC A n c root d)) : BoxS W g A n c root d := by
  refine ⟨h, fun j v hv => h j v ?_, ?_⟩
  · unfold smC
    rw [List.getElem?_append_left (List.getElem?_eq_some_iff.1 hv).1]; exact hv
  · have := range_sub (xs := [Value.slice A n c, .int .i64 root]) (ys := d.1.map bv) (zs := []) (by simpa [smC] using h) 2 rfl
    rw [Nat.zero_add] at this
    exact this
theorem BoxS.bel {W W' : World} {g : Nat} {A : Option Addr} {n c : Nat} {root : Int} {d : Dg} (h : BoxS W g A n c root d) (hb : Below W.heap.size W W') : BoxS W' g A n c root d := BoxS.of (rangeBel2 hb h.all)
theorem BoxS.new (W : World) (A : Option Addr) (n c : Nat) (root : Int) (d : Dg) (t : TypeId) : BoxS (W.alloc (.cells (smC A n c root d).toArray t)) W.heap.size A n c root d := BoxS.of (rangeOf (heap_alloc_new W _))

def noneD : Dg := ⟨sha256 [0], S8.bytes_len _⟩
set_option maxHeartbeats 1000000 in
theorem PNewSummed_any (A : Option Addr) (n c : Nat) (root : Int) (w : World) (hT : Tab w) :
    Calls Tryd.prog 69 #[.agg #[.slice A n c, .int .i64 root]] w fun e w' => e = .returned (.agg (smC A n c root noneD).toArray) ∧ Below w.heap.size w w' := by
  have W0 := ext_trans (ext_alloc w (.cells #[.slice A n c, .int .i64 root] 49)) (ext_alloc _ (.cells zSmC 107))
  have T0 := (BoxT.new w A n c root 49).bel (ext_alloc _ (.cells zSmC 107))
  have h1 := heap_alloc_new (w.alloc (.cells #[.slice A n c, .int .i64 root] 49)) (.cells zSmC 107)
  rw [World.size_alloc] at h1
  have hT0 := hid (hT.bel W0 hT.low)
  have hlow := hid hT.low
  have hsz := hid (show ((w.alloc (.cells #[.slice A n c, .int .i64 root] 49)).alloc (.cells zSmC 107)).heap.size = w.heap.size + 2 by simp)
  have hut := Tryd.underlying49
  have hus := Tryd.underlying107
  have hiT := hid (show (Tryd.prog.info? 49).map (·.size) = some ([Value.slice A n c, .int .i64 root]).length from sizeTr)
  have hbt := hid (built_trie A n c root)
  have hbs := hid (built_sm A n c root noneD)
  have hiS := hid (show (Tryd.prog.info? 107).map (·.size) = some (smC A n c root noneD).toArray.size by rw [List.size_toArray, len_sm]; exact sizeSm)
  have hzs := hid (show zSmC.size = (smC A n c root noneD).toArray.size by rw [zSizeSm, List.size_toArray, len_sm])
  have hone := hid (one_sm A n c root noneD)
  have hN := fun W hTW => TNone_any W hTW
  rw [show sha256 [0] = noneD.1 from rfl] at hN
  generalize smC A n c root noneD = cs at *
  generalize noneD.1.map bv = dn at *
  replace hN := hid hN
  replace h1 := hid h1
  go_enter Tryd.func69, Tryd.ntmps69
  go_wp2_with (first
    | (with_reducible refine wpList_alloc_row rfl 107 rfl zSmC zInfoSm ?_))
  generalize (w.alloc (.cells #[.slice A n c, .int .i64 root] 49)).alloc (.cells zSmC 107) = w0 at *
  have e1 := h1.out
  refine wp_region_noPanic ?_
  refine wp_region_held_drew (S := fun w' => Below (w.heap.size + 1) w0 w') (by kernel_rfl) ?_ (fun hHeld => ?_)
  · exact (bel_drew w0).mono (by rw [hsz.out]; omega)
  refine' wpAnyH_take (i := 0) (oi := _) (v := _) rfl (by kernel_rfl) (by kernel_rfl) (by kernel_rfl) (fun _ _ _ h => h) (yieldsIf_load_mid (by rfl) _ _ rfl _ _ rfl _ _ (fun _ h => rangeAt_kept T0.all (fun _ => h.block _ (by omega))) hut rfl hiT.out) (by assumption) ?_
  try simp only [Act.put, List.setIfInBounds_toArray, List.set_cons_zero, List.set_cons_succ, List.getElem_toArray, List.getElem_cons_succ, List.getElem_cons_zero]
  refine' wpAnyH_take (i := 1) (oi := _) (v := _) rfl (by kernel_rfl) (by kernel_rfl) (by kernel_rfl) (fun _ _ _ h => h) (yieldsIf_build (by rfl) _ _ rfl _ _ (hbt.out) rfl) (by assumption) ?_
  try simp only [Act.put, List.setIfInBounds_toArray, List.set_cons_zero, List.set_cons_succ, List.getElem_toArray, List.getElem_cons_succ, List.getElem_cons_zero]
  refine wpAnyH_ready (rs := [2]) (by kernel_rfl) (by simp) ?_
  refine AllReadyH.cons (o := _) rfl (fun K hK => ?_) AllReadyH.nil
  go_simp
  refine (hN.out _ (hT0.out.bel hHeld (Nat.lt_succ_of_lt hlow.out))).mono ?_
  rintro e5 w5 ⟨rfl, hB⟩
  replace e1 := (hB.block _ (block_lt e1)).trans e1
  go_wp2_with fail
  refine hK.out _ _ ?_ (fun hHeld => ?_)
  · exact hHeld.trans (hB.mono (Nat.le_trans (by rw [hsz.out]; omega) hHeld.size))
  clear hK K
  try simp only [Act.put, List.setIfInBounds_toArray, List.set_cons_zero, List.set_cons_succ, List.getElem_toArray, List.getElem_cons_succ, List.getElem_cons_zero]
  refine' wpAnyH_take (i := 3) (oi := _) (v := _) rfl (by kernel_rfl) (by kernel_rfl) (by kernel_rfl) (fun _ _ _ h => h) (yieldsIf_build (by rfl) _ _ rfl _ _ (hbs.out) rfl) (by assumption) ?_
  try simp only [Act.put, List.setIfInBounds_toArray, List.set_cons_zero, List.set_cons_succ, List.getElem_toArray, List.getElem_cons_succ, List.getElem_cons_zero]
  refine wpAnyH_ready (rs := [4]) (by kernel_rfl) (by simp) ?_
  refine AllReadyH.cons (o := _) rfl (fun K hK => ?_) AllReadyH.nil
  refine step_store_row rfl 107 (.tmp 2) (.tmp 6) rfl (w.heap.size + 1) _ rfl rfl 107 zSmC e1 hiS.out hzs.out hone.out ?_
  intro w8 d6 hG
  refine hK.out _ _ ?_ (fun hHeld => ?_)
  · exact hHeld.grown hG (Nat.le_trans (by rw [hsz.out]; omega) hHeld.size) (fun g e => by injection e with e; omega)
  clear hK K
  try simp only [Act.put, List.setIfInBounds_toArray, List.set_cons_zero, List.set_cons_succ, List.getElem_toArray, List.getElem_cons_succ, List.getElem_cons_zero]
  refine wpAnyH_done (by kernel_rfl) ?_ _
  refine NoPanic.normal ?_
  go_wp2
  refine bodyPost_ret (results_cell_row Tryd.results69 _ _ (w.heap.size + 1) 107 _ (0, 0) _ rfl d6 hus rfl hiS.out) rfl ⟨rfl, W0.trans (hHeld.mono (Nat.le_succ _))⟩

theorem boxesS (w : World) (A : Option Addr) (n c : Nat) (root : Int) (d : Dg) :
    BoxS ((w.alloc (.cells (smC A n c root d).toArray 107)).alloc (.cells z32 23)) w.heap.size A n c root d ∧
    ((w.alloc (.cells (smC A n c root d).toArray 107)).alloc (.cells z32 23)).heap[w.heap.size + 1]? = some (.cells z32 23) ∧
    Below w.heap.size w ((w.alloc (.cells (smC A n c root d).toArray 107)).alloc (.cells z32 23)) := by
  have h2 := heap_alloc_new (w.alloc (.cells (smC A n c root d).toArray 107)) (.cells z32 23)
  rw [World.size_alloc] at h2
  exact ⟨(BoxS.new w A n c root d _).bel (ext_alloc _ _), h2, ext_trans (ext_alloc _ _) (ext_alloc _ _)⟩
theorem PSum_zero (A : Option Addr) (n c : Nat) (root : Int) (d : Dg) (w : World) :
    Calls Tryd.prog 70 #[.agg (smC A n c root d).toArray, .int .i64 0] w fun e w' => e = .returned (.agg (d.1.map bv).toArray) ∧ Below w.heap.size w w' := by
  obtain ⟨S0, h1, W0⟩ := boxesS w A n c root d
  have hu := Tryd.underlying23
  have hi := hid (sizeDgT d)
  have z1 : ((d.1.map bv).toArray).size = 32 := by simp [d.2]
  have o1 := bvs_all d.1
  have s2 := hid S0.none
  replace h1 := hid h1
  clear S0
  generalize smC A n c root d = cs at *
  generalize d.1.map bv = dd at *
  go_enter Tryd.func70, Tryd.ntmps70
  go_wp2_with (first
    | (with_reducible refine wpList_alloc_row rfl 23 rfl z32 info32 ?_)
    | ((with_reducible refine wpList_load_rng rfl 23 (.tmp 11) rfl w.heap.size 2 rfl dd _ ?_ hu rfl hi.out ?_); exact s2.out)
    | ((with_reducible refine wpList_store_row rfl 23 (.tmp 4) (.tmp 12) rfl (w.heap.size + 1) _ rfl rfl 23 z32 ?_ ?_ ?_ ?_ ?_); exact h1.out; (rw [z1]; exact size32); (rw [z1]; exact z32_size); exact o1; intro w4 hg4 hb4 hs4))
  refine bodyPost_ret (results_cell_row Tryd.results70 _ _ (w.heap.size + 1) 23 _ (0, 0) _ rfl hg4 hu rfl (by rw [z1]; exact size32)) rfl ⟨rfl, W0.grown hb4 W0.size (fun g e => by injection e with e; omega)⟩

theorem rd_at {w : World} {b o : Nat} {k : Dg} (h : w.rangeAt b o (k.1.map bv)) : Rd w (some ⟨b, o, none⟩) k.1 := fun _ => ⟨b, o, rfl, fun j x hx => h j (bv x) (by rw [List.getElem?_map, hx]; rfl)⟩
set_option maxHeartbeats 1600000 in
theorem PSum_leaf (F : Nat → Prop) (A : Option Addr) (c : Nat) (ns : List Nd) (root : Int) (d : Dg) (n : Int) (w : World) (hr : Row F w A ns) (hc : ns.length ≤ 9223372036854775807) (h0 : 0 < n) (hn : n ≤ ns.length) (hl : (ndAt ns n).leaf = true) (hv : (ndAt ns n).v.length ≤ 64) (hT : Tab w) :
    Calls Tryd.prog 70 #[.agg (smC A ns.length c root d).toArray, .int .i64 n] w fun e w' => e = .returned (.agg ((sha256 (tagB 1 [(ndAt ns n).k.1, (ndAt ns n).v])).map bv).toArray) ∧ Below w.heap.size w w' := by
  obtain ⟨S0, h1, W0⟩ := boxesS w A ns.length c root d
  have hr0 := hr.bel W0
  have hu := Tryd.underlying23
  have hut := Tryd.underlying94
  have hun := Tryd.underlying55
  have hiT := hid (show (Tryd.prog.info? 94).map (·.size) = some ([Value.slice A ns.length c, .int .i64 root]).length from sizeTrie)
  have hT0 := hid (hT.bel W0 hT.low)
  have hlow := hid (Nat.lt_of_lt_of_le hT.low W0.size)
  have hLf := fun W hW => PIsLeaf_any F A c ns root n W hW (by omega) hn hc
  rw [show leafB ns n = true by unfold leafB; rw [hl, decide_eq_true (by omega)]; rfl] at hLf
  have hne : (n == 0) = false := beq_eq_false_iff_ne.2 (by omega)
  obtain ⟨j, hj, rfl, hx⟩ : ∃ (j : Nat) (hj : j < ns.length), n = (j : Int) + 1 ∧ ndAt ns n = ns[j] := by
    obtain ⟨j, rfl⟩ : ∃ j : Nat, n = (j : Int) + 1 := ⟨(n - 1).toNat, by omega⟩
    exact ⟨j, by omega, rfl, ndAt_at (by omega)⟩
  rw [hx] at hv ⊢
  have hkl := ns[j].k.2
  have hO := fun W A (hW : Rds W A [ns[j].k.1, ns[j].v]) (hTW : Tab W) => TOf_any 1 A 2 2 [ns[j].k.1, ns[j].v] W hW rfl (by simp) (tag2_leP 1 (by omega) hv) hTW
  obtain ⟨dg, hdg⟩ : ∃ dg, dg = sha256 (tagB 1 [ns[j].k.1, ns[j].v]) := ⟨_, rfl⟩
  rw [← hdg] at hO ⊢
  have ld : dg.length = 32 := by rw [hdg]; exact S8.bytes_len _
  have z1 : ((dg.map bv).toArray).size = 32 := by simp [ld]
  have o1 := bvs_all dg
  clear hdg hr hT hl
  have hsl := run_all32P
  replace h1 := hid h1
  replace hO := hid hO
  replace hLf := hid hLf
  have S0t := hid S0.trie
  clear S0
  generalize smC A ns.length c root d = cs at *
  go_enter Tryd.func70, Tryd.ntmps70
  go_wp2_with (first
    | (with_reducible refine wpList_alloc_row rfl 23 rfl z32 info32 ?_)
    | ((with_reducible refine wpList_load_rng rfl 94 (.tmp 13) rfl w.heap.size 0 rfl [Value.slice A ns.length c, .int .i64 root] _ ?_ hut rfl hiT.out ?_); exact S0t.out))
  generalize (w.alloc (.cells cs.toArray 107)).alloc (.cells z32 23) = w0 at *
  refine (hLf.out _ hr0).mono ?_
  rintro r w5 ⟨rfl, hb5⟩
  have s5 := rangeBel2 hb5 S0t.out
  have r5 := hr0.bel hb5
  have h5 := hid ((hb5.block _ (block_lt h1.out)).trans h1.out)
  have T5 := hid (hT0.out.bel hb5 hlow.out)
  have l5 := hid (Nat.lt_of_lt_of_le hlow.out hb5.size)
  have W5 := hid (W0.trans (hb5.mono W0.size))
  obtain ⟨q, o, hAe, A', c', hR, hv1, hv2, hv3, _⟩ := row_nd r5 hj
  subst hAe
  have hN := fun W (hW : W.rangeAt q (o + j * 36) (ndC ns[j] A' c')) => PNode_at q o j ns.length c root ns[j] A' c' W hW hj hc
  have hiS := hid (show (Tryd.prog.info? 55).map (·.size) = some (ndC ns[j] A' c').toArray.size by rw [List.size_toArray, len_nd]; exact sizeNd)
  have hzs := hid (show zNdC.size = (ndC ns[j] A' c').toArray.size by rw [zSizeNd, List.size_toArray, len_nd])
  have hone := hid (one_nd ns[j] A' c')
  have hBx := fun (W : World) (g : Nat) (t : TypeId) (h : W.heap[g]? = some (.cells (ndC ns[j] A' c').toArray t (0, 0))) => BoxN.heap h
  have hR2 := fun W (g : Nat) (hW : Rd W (some ⟨g, 1, none⟩) ns[j].k.1) (hV : Rd W A' ns[j].v) => rds_two W (some ⟨g, 1, none⟩) A' 32 c' ns[j].k.1 ns[j].v 24 hW hV ⟨by omega, by unfold maxLen; omega⟩ ⟨hv1, hv2⟩
  rw [hkl] at hR2
  have v5 := hid hv3.rd
  clear hr0 hb5 hLf hT0 S0t h1 hlow W0
  go_wp2_with (first
    | ((with_reducible refine wpList_load_rng rfl 94 (.tmp 17) rfl w.heap.size 0 rfl [Value.slice (some ⟨q, o, none⟩) ns.length c, .int .i64 root] _ ?_ hut rfl hiT.out ?_); exact s5))
  refine (hN _ hR).mono ?_
  rintro r w6 ⟨rfl, hb6⟩
  have h6 := hid ((hb6.block _ (block_lt h5.out)).trans h5.out)
  have T6 := hid (T5.out.bel hb6 l5.out)
  have l6 := hid (Nat.lt_of_lt_of_le l5.out hb6.size)
  have W6 := hid (W5.out.trans (hb6.mono W5.out.size))
  have v6 := hid (v5.out.bel hb6)
  have e6 := hid (heap_alloc_new w6 (.cells zNdC 55))
  clear s5 r5 hR hN hb6 h5 T5 l5 W5 v5
  go_wp2_with (first
    | (with_reducible refine wpList_alloc_row rfl 55 rfl zNdC zInfoNd ?_)
    | ((with_reducible refine wpList_store_row rfl 55 (.tmp 5) (.tmp 20) rfl _ _ rfl rfl 55 zNdC ?_ ?_ ?_ ?_ ?_); exact e6.out; exact hiS.out; exact hzs.out; exact hone.out; intro w7 hg7 hb7 hs7; have X7 := hid (xnewP rfl hb7); have N7 := hBx _ _ _ hg7; have y7 := N7.val; have k7 := rd_at N7.key; have v7 := v6.out.bel X7.out; have T7 := hid (T6.out.bel X7.out l6.out); have l7 := hid (Nat.lt_of_lt_of_le l6.out X7.out.size); have h7 := hid ((X7.out.block _ (block_lt h6.out)).trans h6.out); have W7 := hid (W6.out.trans (X7.out.mono W6.out.size)); clear hg7 hb7 hs7))
  go_still_tail 4, (by kernel_rfl)
  have B8 := (ext_alloc w7 (.cells #[.slice (some ⟨w6.heap.size, 1, none⟩) 32 32, .slice A' ns[j].v.length c'] 24)).trans ((bel_drew (w7.alloc (.cells #[.slice (some ⟨w6.heap.size, 1, none⟩) 32 32, .slice A' ns[j].v.length c'] 24))).mono (ext_alloc w7 _).size)
  have R8 := hid ((hR2 w7 _ k7 v7).bel (bel_drew _))
  have T8 := hid (T7.out.bel B8 l7.out)
  have h8 := hid ((B8.block _ (block_lt h7.out)).trans h7.out)
  have W8 := hid (W7.out.trans (B8.mono W7.out.size))
  clear B8 hR2 k7 v7 T7 h7 W7 N7 y7 h6 T6 W6 v6 e6 X7 hBx
  go_wp2_with fail
  refine (hO.out _ _ R8.out T8.out).mono ?_
  rintro e w9 ⟨rfl, hb9⟩
  have h9 := hid ((hb9.block _ (block_lt h8.out)).trans h8.out)
  have W9 := hid (W8.out.trans (hb9.mono W8.out.size))
  clear hb9
  go_wp2_with (first
    | ((with_reducible refine wpList_store_row rfl 23 (.tmp 4) (.tmp 26) rfl _ _ rfl rfl 23 z32 ?_ ?_ ?_ ?_ ?_); exact h9.out; (rw [z1]; exact size32); (rw [z1]; exact z32_size); exact o1; intro w10 hg4 hb4 hs4))
  refine bodyPost_ret (results_cell_row Tryd.results70 _ _ (w.heap.size + 1) 23 _ (0, 0) _ rfl hg4 hu rfl (by rw [z1]; exact size32)) rfl ⟨rfl, W9.out.grown hb4 W9.out.size (fun g e => by injection e with e; omega)⟩

set_option maxHeartbeats 4000000 in
theorem PSum_fork (F : Nat → Prop) (A : Option Addr) (c : Nat) (ns : List Nd) (root : Int) (d : Dg) (n : Int) (g0 g1 : Dg) (w : World) (hr : Row F w A ns) (hc : ns.length ≤ 9223372036854775807) (h0 : 0 < n) (hn : n ≤ ns.length) (hl : (ndAt ns n).leaf = false) (hT : Tab w)
    (i0 : ∀ W, Row F W A ns → Tab W → Calls Tryd.prog 70 #[.agg (smC A ns.length c root d).toArray, .int .i64 (ndAt ns n).l] W fun e w' => e = .returned (.agg (g0.1.map bv).toArray) ∧ Below W.heap.size W w')
    (i1 : ∀ W, Row F W A ns → Tab W → Calls Tryd.prog 70 #[.agg (smC A ns.length c root d).toArray, .int .i64 (ndAt ns n).r] W fun e w' => e = .returned (.agg (g1.1.map bv).toArray) ∧ Below W.heap.size W w') :
    Calls Tryd.prog 70 #[.agg (smC A ns.length c root d).toArray, .int .i64 n] w fun e w' => e = .returned (.agg ((sha256 (tagB 2 [g0.1, g1.1])).map bv).toArray) ∧ Below w.heap.size w w' := by
  obtain ⟨S0, h1, W0⟩ := boxesS w A ns.length c root d
  have hr0 := hr.bel W0
  have hu := Tryd.underlying23
  have hut := Tryd.underlying94
  have hus := Tryd.underlying107
  have hiT := hid (show (Tryd.prog.info? 94).map (·.size) = some ([Value.slice A ns.length c, .int .i64 root]).length from sizeTrie)
  have hiSm := hid (show (Tryd.prog.info? 107).map (·.size) = some (smC A ns.length c root d).length by rw [len_sm]; exact sizeSm)
  have hT0 := hid (hT.bel W0 hT.low)
  have hlow := hid (Nat.lt_of_lt_of_le hT.low W0.size)
  have hLf := fun W hW => PIsLeaf_any F A c ns root n W hW (by omega) hn hc
  rw [show leafB ns n = false by unfold leafB; rw [hl, decide_eq_true (by omega)]; rfl] at hLf
  have hne : (n == 0) = false := beq_eq_false_iff_ne.2 (by omega)
  obtain ⟨j, hj, rfl, hx⟩ : ∃ (j : Nat) (hj : j < ns.length), n = (j : Int) + 1 ∧ ndAt ns n = ns[j] := by
    obtain ⟨j, rfl⟩ : ∃ j : Nat, n = (j : Int) + 1 := ⟨(n - 1).toNat, by omega⟩
    exact ⟨j, by omega, rfl, ndAt_at (by omega)⟩
  rw [hx] at i0 i1
  obtain ⟨g0, l0⟩ := g0
  obtain ⟨g1, l1⟩ := g1
  dsimp only at i0 i1 ⊢
  have hO := fun W A (hW : Rds W A [g0, g1]) (hTW : Tab W) => TOf_any 2 A 2 2 [g0, g1] W hW rfl (by simp) (tag2_leP 2 (by omega) (by omega)) hTW
  have hR := fun W p q (hW : Rd W (some ⟨p, 0, none⟩) g0) (hV : Rd W (some ⟨q, 0, none⟩) g1) => rds_two W (some ⟨p, 0, none⟩) (some ⟨q, 0, none⟩) 32 32 g0 g1 24 hW hV ⟨by omega, by unfold maxLen; omega⟩ ⟨by omega, by unfold maxLen; omega⟩
  rw [l0, l1] at hR
  obtain ⟨dg, hdg⟩ : ∃ dg, dg = sha256 (tagB 2 [g0, g1]) := ⟨_, rfl⟩
  rw [← hdg] at hO ⊢
  have ld : dg.length = 32 := by rw [hdg]; exact S8.bytes_len _
  have z1 : ((dg.map bv).toArray).size = 32 := by simp [ld]
  have o1 := bvs_all dg
  have y0 : ((g0.map bv).toArray).size = 32 := by simp [l0]
  have p0 := bvs_all g0
  have y1 : ((g1.map bv).toArray).size = 32 := by simp [l1]
  have p1 := bvs_all g1
  clear hdg hr hT hl
  have hsl := run_all32P
  replace h1 := hid h1
  replace hO := hid hO
  replace hR := hid hR
  replace hLf := hid hLf
  replace i0 := hid i0
  replace i1 := hid i1
  have hu2 := Tryd.underlying139
  generalize hcs : smC A ns.length c root d = cs at *
  replace hcs := hid hcs
  have S0t := hid S0.trie
  replace S0 := hid S0
  go_enter Tryd.func70, Tryd.ntmps70
  go_wp2_with (first
    | (with_reducible refine wpList_alloc_row rfl 23 rfl z32 info32 ?_)
    | ((with_reducible refine wpList_load_rng rfl 94 (.tmp 13) rfl w.heap.size 0 rfl [Value.slice A ns.length c, .int .i64 root] _ ?_ hut rfl hiT.out ?_); exact S0t.out))
  generalize (w.alloc (.cells cs.toArray 107)).alloc (.cells z32 23) = w0 at *
  refine (hLf.out _ hr0).mono ?_
  rintro r w5 ⟨rfl, hb5⟩
  have s5 := rangeBel2 hb5 S0t.out
  have a5 := S0.out.bel hb5
  have r5 := hr0.bel hb5
  have h5 := hid ((hb5.block _ (block_lt h1.out)).trans h1.out)
  have T5 := hid (hT0.out.bel hb5 hlow.out)
  have l5 := hid (Nat.lt_of_lt_of_le hlow.out hb5.size)
  have W5 := hid (W0.trans (hb5.mono W0.size))
  obtain ⟨q, o, hAe, A', c', hRw, hv1, hv2, hv3, _⟩ := row_nd r5 hj
  subst hAe
  have hN := fun W (hW : W.rangeAt q (o + j * 36) (ndC ns[j] A' c')) => PRoads_at q o j ns.length c root ns[j] A' c' W hW hj hc
  clear hr0 hb5 hLf hT0 S0t S0 h1 hlow W0 hv1 hv2 hv3
  generalize ndC ns[j] A' c' = xs at *
  generalize ns[j].l = l at *
  generalize ns[j].r = rr at *
  go_wp2_with (first
    | ((with_reducible refine wpList_load_rng rfl 94 (.tmp 27) rfl w.heap.size 0 rfl [Value.slice (some ⟨q, o, none⟩) ns.length c, .int .i64 root] _ ?_ hut rfl hiT.out ?_); exact s5))
  refine (hN _ hRw).mono ?_
  rintro r w6 ⟨rfl, hb6⟩
  have a6 := hid (a5.bel hb6)
  have r6 := hid (r5.bel hb6)
  have h6 := hid ((hb6.block _ (block_lt h5.out)).trans h5.out)
  have T6 := hid (T5.out.bel hb6 l5.out)
  have l6 := hid (Nat.lt_of_lt_of_le l5.out hb6.size)
  have W6 := hid (W5.out.trans (hb6.mono W5.out.size))
  have e6 := hid (heap_alloc_new w6 (.cells z2C 139))
  clear s5 a5 r5 hRw hN hb6 h5 T5 l5 W5
  go_wp2_with (first
    | (with_reducible refine wpList_alloc_row rfl 139 rfl z2C zInfo2 ?_)
    | ((with_reducible refine wpList_store_row rfl 139 (.tmp 6) (.tmp 30) rfl _ _ rfl rfl 139 z2C ?_ ?_ ?_ ?_ ?_); exact e6.out; exact size2; rfl; exact one2 l rr; intro w7 hg7 hb7 hs7; have X7 := hid (xnewP rfl hb7); have a7 := a6.out.bel X7.out; have r7 := hid (r6.out.bel X7.out); have q7 := rangeOf (l := [Value.int .i64 l, .int .i64 rr]) hg7; have c0 := q7 0 _ rfl; have c1 := q7 1 _ rfl; rw [Nat.zero_add] at c0 c1; have T7 := hid (T6.out.bel X7.out l6.out); have l7 := hid (Nat.lt_of_lt_of_le l6.out X7.out.size); have h7 := hid ((X7.out.block _ (block_lt h6.out)).trans h6.out); have W7 := hid (W6.out.trans (X7.out.mono W6.out.size)); clear hg7 hb7 hs7))
  have al7 := a7.all
  rw [hcs.out] at al7
  clear a6 r6 h6 T6 l6 W6 e6 X7 a7 q7
  refine wp_region_noPanic ?_
  refine wp_region_held_drew (S := fun w' => Below w7.heap.size w7 w') (by kernel_rfl) ?_ (fun hHeld => ?_)
  · exact bel_drew w7
  refine' wpAnyH_take (i := 0) (oi := _) (v := _) rfl (by kernel_rfl) (by kernel_rfl) (by kernel_rfl) (fun _ _ _ h => h) (yieldsIf_load_mid (by rfl) _ _ rfl _ _ rfl _ _ (fun _ h => rangeBel2 h al7) hus rfl hiSm.out) (by assumption) ?_
  try simp only [Act.put, List.setIfInBounds_toArray, List.set_cons_zero, List.set_cons_succ, List.getElem_toArray, List.getElem_cons_succ, List.getElem_cons_zero]
  refine' wpAnyH_take (i := 1) (oi := _) (v := ?_) rfl (by kernel_rfl) (by kernel_rfl) (by kernel_rfl) (fun _ _ _ h => h) (Or.inl ⟨by rfl, ?_⟩) (by assumption) ?_
  rotate_left
  · intro W hSw
    go_simp
    first | done | (with_reducible rfl)
  try simp only [Act.put, List.setIfInBounds_toArray, List.set_cons_zero, List.set_cons_succ, List.getElem_toArray, List.getElem_cons_succ, List.getElem_cons_zero]
  refine' wpAnyH_take (i := 2) (oi := _) (v := ?_) rfl (by kernel_rfl) (by kernel_rfl) (by kernel_rfl) (fun _ _ _ h => h) (Or.inl ⟨by rfl, ?_⟩) (by assumption) ?_
  rotate_left
  · intro W hSw
    have hCell := (hSw.cell (World.block_lt_of_cell? _ _ c0)).trans c0
    go_simp
    first | done | (with_reducible rfl)
  try simp only [Act.put, List.setIfInBounds_toArray, List.set_cons_zero, List.set_cons_succ, List.getElem_toArray, List.getElem_cons_succ, List.getElem_cons_zero]
  refine' wpAnyH_take (i := 4) (oi := _) (v := _) rfl (by kernel_rfl) (by kernel_rfl) (by kernel_rfl) (fun _ _ _ h => h) (yieldsIf_load_mid (by rfl) _ _ rfl _ _ rfl _ _ (fun _ h => rangeBel2 h al7) hus rfl hiSm.out) (by assumption) ?_
  try simp only [Act.put, List.setIfInBounds_toArray, List.set_cons_zero, List.set_cons_succ, List.getElem_toArray, List.getElem_cons_succ, List.getElem_cons_zero]
  refine' wpAnyH_take (i := 5) (oi := _) (v := ?_) rfl (by kernel_rfl) (by kernel_rfl) (by kernel_rfl) (fun _ _ _ h => h) (Or.inl ⟨by rfl, ?_⟩) (by assumption) ?_
  rotate_left
  · intro W hSw
    go_simp
    first | done | (with_reducible rfl)
  try simp only [Act.put, List.setIfInBounds_toArray, List.set_cons_zero, List.set_cons_succ, List.getElem_toArray, List.getElem_cons_succ, List.getElem_cons_zero]
  refine' wpAnyH_take (i := 6) (oi := _) (v := ?_) rfl (by kernel_rfl) (by kernel_rfl) (by kernel_rfl) (fun _ _ _ h => h) (Or.inl ⟨by rfl, ?_⟩) (by assumption) ?_
  rotate_left
  · intro W hSw
    have hCell := (hSw.cell (World.block_lt_of_cell? _ _ c1)).trans c1
    go_simp
    first | done | (with_reducible rfl)
  try simp only [Act.put, List.setIfInBounds_toArray, List.set_cons_zero, List.set_cons_succ, List.getElem_toArray, List.getElem_cons_succ, List.getElem_cons_zero]
  refine wpAnyH_ready (rs := [3, 8, 9]) (by kernel_rfl) (by simp) ?_
  refine AllReadyH.cons (o := _) rfl (fun K hK => ?_) ?_
  · skip
    go_simp
    refine (i0.out _ (r7.out.bel hHeld) (T7.out.bel hHeld l7.out)).mono ?_
    rintro e w8 ⟨rfl, hB⟩
    try replace e6 := (hB.block _ (block_lt e6)).trans e6
    try replace e7 := (hB.block _ (block_lt e7)).trans e7
    go_wp2_with fail
    refine hK.out _ _ ?_ (fun hHeld => ?_)
    · exact hHeld.trans (hB.mono hHeld.size)
    clear hK K
    try simp only [Act.put, List.setIfInBounds_toArray, List.set_cons_zero, List.set_cons_succ, List.getElem_toArray, List.getElem_cons_succ, List.getElem_cons_zero]
    refine wpAnyH_ready (rs := [7, 8, 9]) (by kernel_rfl) (by simp) ?_
    refine AllReadyH.cons (o := _) rfl (fun K hK => ?_) ?_
    · skip
      go_simp
      refine (i1.out _ (r7.out.bel hHeld) (T7.out.bel hHeld l7.out)).mono ?_
      rintro e w8 ⟨rfl, hB⟩
      try replace e6 := (hB.block _ (block_lt e6)).trans e6
      try replace e7 := (hB.block _ (block_lt e7)).trans e7
      go_wp2_with fail
      refine hK.out _ _ ?_ (fun hHeld => ?_)
      · exact hHeld.trans (hB.mono hHeld.size)
      clear hK K
      try simp only [Act.put, List.setIfInBounds_toArray, List.set_cons_zero, List.set_cons_succ, List.getElem_toArray, List.getElem_cons_succ, List.getElem_cons_zero]
      refine wpAnyH_ready (rs := [8, 9]) (by kernel_rfl) (by simp) ?_
      refine AllReadyH.cons (o := _) rfl (fun K hK => ?_) ?_
      · skip
        refine step_alloc_row rfl 23 rfl z32 info32 ?_
        intro g6 w8 b6 e6 hB
        have m6 := Nat.le_trans hHeld.size b6
        try have n67 : g6 ≠ g7 := fun h => by have := block_lt e7; omega
        try replace e7 := (hB.block _ (block_lt e7)).trans e7
        refine hK.out _ _ ?_ (fun hHeld => ?_)
        · exact hHeld.trans (hB.mono hHeld.size)
        clear hK K
        try simp only [Act.put, List.setIfInBounds_toArray, List.set_cons_zero, List.set_cons_succ, List.getElem_toArray, List.getElem_cons_succ, List.getElem_cons_zero]
        refine wpAnyH_ready (rs := [9]) (by kernel_rfl) (by simp) ?_
        refine AllReadyH.cons (o := _) rfl (fun K hK => ?_) AllReadyH.nil
        refine step_alloc_row rfl 23 rfl z32 info32 ?_
        intro g7 w8 b7 e7 hB
        have m7 := Nat.le_trans hHeld.size b7
        try have n67 : g6 ≠ g7 := fun h => by have := block_lt e6; omega
        try replace e6 := (hB.block _ (block_lt e6)).trans e6
        refine hK.out _ _ ?_ (fun hHeld => ?_)
        · exact hHeld.trans (hB.mono hHeld.size)
        clear hK K
        try simp only [Act.put, List.setIfInBounds_toArray, List.set_cons_zero, List.set_cons_succ, List.getElem_toArray, List.getElem_cons_succ, List.getElem_cons_zero]
        refine wpAnyH_ready (rs := [10]) (by kernel_rfl) (by simp) ?_
        refine AllReadyH.cons (o := _) rfl (fun K hK => ?_) AllReadyH.nil
        refine step_store_row rfl 23 (.tmp 7) (.tmp 34) rfl g6 _ rfl rfl 23 z32 e6 (by rw [y0]; exact size32) (by rw [y0]; exact z32_size) p0 ?_
        intro w8 d6 hG
        replace e7 := (hG.block _ (block_lt e7) (by simpa using n67.symm)).trans e7
        refine hK.out _ _ ?_ (fun hHeld => ?_)
        · exact hHeld.grown hG hHeld.size (by intro k hk; injection hk with hk; omega)
        clear hK K
        try simp only [Act.put, List.setIfInBounds_toArray, List.set_cons_zero, List.set_cons_succ, List.getElem_toArray, List.getElem_cons_succ, List.getElem_cons_zero]
        refine wpAnyH_ready (rs := [11]) (by kernel_rfl) (by simp) ?_
        refine AllReadyH.cons (o := _) rfl (fun K hK => ?_) AllReadyH.nil
        refine step_store_row rfl 23 (.tmp 8) (.tmp 38) rfl g7 _ rfl rfl 23 z32 e7 (by rw [y1]; exact size32) (by rw [y1]; exact z32_size) p1 ?_
        intro w9 d7 hG
        replace d6 := (hG.block _ (block_lt d6) (by simpa using n67)).trans d6
        refine hK.out _ _ ?_ (fun hHeld => ?_)
        · exact hHeld.grown hG hHeld.size (by intro k hk; injection hk with hk; omega)
        clear hK K
        try simp only [Act.put, List.setIfInBounds_toArray, List.set_cons_zero, List.set_cons_succ, List.getElem_toArray, List.getElem_cons_succ, List.getElem_cons_zero]
        refine wpAnyH_done (by kernel_rfl) ?_ _
        refine NoPanic.normal ?_
        have hz9 := hid ((hHeld.block _ (block_lt h7.out)).trans h7.out)
        have W9 := hid (W7.out.trans (hHeld.mono W7.out.size))
        have hT9 := hid (T7.out.bel hHeld l7.out)
        have l9 := hid (Nat.lt_of_lt_of_le l7.out hHeld.size)
        have D6 := hid (rd_blockP d6)
        have D7 := hid (rd_blockP d7)
        clear r7 h7 W7 T7 l7 c0 c1 al7 i0 i1 d6 d7 hHeld
        try clear hB
        try clear hG
        try clear e6 e7
        go_wp2_with fail
        go_still_tail 2, (by kernel_rfl)
        have B2 := (ext_alloc w9 (.cells #[.slice (some ⟨g6, 0, none⟩) 32 32, .slice (some ⟨g7, 0, none⟩) 32 32] 24)).trans ((bel_drew (w9.alloc (.cells #[.slice (some ⟨g6, 0, none⟩) 32 32, .slice (some ⟨g7, 0, none⟩) 32 32] 24))).mono (ext_alloc w9 _).size)
        have hR2 := hid ((hR.out _ _ _ D6.out D7.out).bel (bel_drew _))
        have hT2 := hid (hT9.out.bel B2 l9.out)
        replace hz9 := hid ((B2.block _ (block_lt hz9.out)).trans hz9.out)
        replace W9 := hid (W9.out.trans (B2.mono W9.out.size))
        clear B2 D6 D7 hT9 hR
        go_wp2_with fail
        refine (hO.out _ _ hR2.out hT2.out).mono ?_
        rintro e w10 ⟨rfl, hb10⟩
        have R3 := hid ((hb10.block _ (block_lt hz9.out)).trans hz9.out)
        have W3 := hid (W9.out.trans (hb10.mono W9.out.size))
        clear hb10
        go_wp2_with (first
          | ((with_reducible refine wpList_store_row rfl 23 (.tmp 4) (.tmp 42) rfl _ _ rfl rfl 23 z32 ?_ ?_ ?_ ?_ ?_); exact R3.out; (rw [z1]; exact size32); (rw [z1]; exact z32_size); exact o1; intro w12 hg4 hb4 hs4))
        refine bodyPost_ret (results_cell_row Tryd.results70 _ _ (w.heap.size + 1) 23 _ (0, 0) _ rfl hg4 hu rfl (by rw [z1]; exact size32)) rfl ⟨rfl, W3.out.grown hb4 W3.out.size (by intro k hk; injection hk with hk; omega)⟩
      refine AllReadyH.cons (o := _) rfl (fun K hK => ?_) ?_
      · skip
        refine step_alloc_row rfl 23 rfl z32 info32 ?_
        intro g7 w8 b7 e7 hB
        have m7 := Nat.le_trans hHeld.size b7
        try have n67 : g6 ≠ g7 := fun h => by have := block_lt e6; omega
        try replace e6 := (hB.block _ (block_lt e6)).trans e6
        refine hK.out _ _ ?_ (fun hHeld => ?_)
        · exact hHeld.trans (hB.mono hHeld.size)
        clear hK K
        try simp only [Act.put, List.setIfInBounds_toArray, List.set_cons_zero, List.set_cons_succ, List.getElem_toArray, List.getElem_cons_succ, List.getElem_cons_zero]
        refine wpAnyH_ready (rs := [8]) (by kernel_rfl) (by simp) ?_
        refine AllReadyH.cons (o := _) rfl (fun K hK => ?_) AllReadyH.nil
        refine step_alloc_row rfl 23 rfl z32 info32 ?_
        intro g6 w8 b6 e6 hB
        have m6 := Nat.le_trans hHeld.size b6
        try have n67 : g6 ≠ g7 := fun h => by have := block_lt e7; omega
        try replace e7 := (hB.block _ (block_lt e7)).trans e7
        refine hK.out _ _ ?_ (fun hHeld => ?_)
        · exact hHeld.trans (hB.mono hHeld.size)
        clear hK K
        try simp only [Act.put, List.setIfInBounds_toArray, List.set_cons_zero, List.set_cons_succ, List.getElem_toArray, List.getElem_cons_succ, List.getElem_cons_zero]
        refine wpAnyH_ready (rs := [10]) (by kernel_rfl) (by simp) ?_
        refine AllReadyH.cons (o := _) rfl (fun K hK => ?_) AllReadyH.nil
        refine step_store_row rfl 23 (.tmp 7) (.tmp 34) rfl g6 _ rfl rfl 23 z32 e6 (by rw [y0]; exact size32) (by rw [y0]; exact z32_size) p0 ?_
        intro w8 d6 hG
        replace e7 := (hG.block _ (block_lt e7) (by simpa using n67.symm)).trans e7
        refine hK.out _ _ ?_ (fun hHeld => ?_)
        · exact hHeld.grown hG hHeld.size (by intro k hk; injection hk with hk; omega)
        clear hK K
        try simp only [Act.put, List.setIfInBounds_toArray, List.set_cons_zero, List.set_cons_succ, List.getElem_toArray, List.getElem_cons_succ, List.getElem_cons_zero]
        refine wpAnyH_ready (rs := [11]) (by kernel_rfl) (by simp) ?_
        refine AllReadyH.cons (o := _) rfl (fun K hK => ?_) AllReadyH.nil
        refine step_store_row rfl 23 (.tmp 8) (.tmp 38) rfl g7 _ rfl rfl 23 z32 e7 (by rw [y1]; exact size32) (by rw [y1]; exact z32_size) p1 ?_
        intro w9 d7 hG
        replace d6 := (hG.block _ (block_lt d6) (by simpa using n67)).trans d6
        refine hK.out _ _ ?_ (fun hHeld => ?_)
        · exact hHeld.grown hG hHeld.size (by intro k hk; injection hk with hk; omega)
        clear hK K
        try simp only [Act.put, List.setIfInBounds_toArray, List.set_cons_zero, List.set_cons_succ, List.getElem_toArray, List.getElem_cons_succ, List.getElem_cons_zero]
        refine wpAnyH_done (by kernel_rfl) ?_ _
        refine NoPanic.normal ?_
        have hz9 := hid ((hHeld.block _ (block_lt h7.out)).trans h7.out)
        have W9 := hid (W7.out.trans (hHeld.mono W7.out.size))
        have hT9 := hid (T7.out.bel hHeld l7.out)
        have l9 := hid (Nat.lt_of_lt_of_le l7.out hHeld.size)
        have D6 := hid (rd_blockP d6)
        have D7 := hid (rd_blockP d7)
        clear r7 h7 W7 T7 l7 c0 c1 al7 i0 i1 d6 d7 hHeld
        try clear hB
        try clear hG
        try clear e6 e7
        go_wp2_with fail
        go_still_tail 2, (by kernel_rfl)
        have B2 := (ext_alloc w9 (.cells #[.slice (some ⟨g6, 0, none⟩) 32 32, .slice (some ⟨g7, 0, none⟩) 32 32] 24)).trans ((bel_drew (w9.alloc (.cells #[.slice (some ⟨g6, 0, none⟩) 32 32, .slice (some ⟨g7, 0, none⟩) 32 32] 24))).mono (ext_alloc w9 _).size)
        have hR2 := hid ((hR.out _ _ _ D6.out D7.out).bel (bel_drew _))
        have hT2 := hid (hT9.out.bel B2 l9.out)
        replace hz9 := hid ((B2.block _ (block_lt hz9.out)).trans hz9.out)
        replace W9 := hid (W9.out.trans (B2.mono W9.out.size))
        clear B2 D6 D7 hT9 hR
        go_wp2_with fail
        refine (hO.out _ _ hR2.out hT2.out).mono ?_
        rintro e w10 ⟨rfl, hb10⟩
        have R3 := hid ((hb10.block _ (block_lt hz9.out)).trans hz9.out)
        have W3 := hid (W9.out.trans (hb10.mono W9.out.size))
        clear hb10
        go_wp2_with (first
          | ((with_reducible refine wpList_store_row rfl 23 (.tmp 4) (.tmp 42) rfl _ _ rfl rfl 23 z32 ?_ ?_ ?_ ?_ ?_); exact R3.out; (rw [z1]; exact size32); (rw [z1]; exact z32_size); exact o1; intro w12 hg4 hb4 hs4))
        refine bodyPost_ret (results_cell_row Tryd.results70 _ _ (w.heap.size + 1) 23 _ (0, 0) _ rfl hg4 hu rfl (by rw [z1]; exact size32)) rfl ⟨rfl, W3.out.grown hb4 W3.out.size (by intro k hk; injection hk with hk; omega)⟩
      exact AllReadyH.nil
    refine AllReadyH.cons (o := _) rfl (fun K hK => ?_) ?_
    · skip
      refine step_alloc_row rfl 23 rfl z32 info32 ?_
      intro g6 w8 b6 e6 hB
      have m6 := Nat.le_trans hHeld.size b6
      try have n67 : g6 ≠ g7 := fun h => by have := block_lt e7; omega
      try replace e7 := (hB.block _ (block_lt e7)).trans e7
      refine hK.out _ _ ?_ (fun hHeld => ?_)
      · exact hHeld.trans (hB.mono hHeld.size)
      clear hK K
      try simp only [Act.put, List.setIfInBounds_toArray, List.set_cons_zero, List.set_cons_succ, List.getElem_toArray, List.getElem_cons_succ, List.getElem_cons_zero]
      refine wpAnyH_ready (rs := [7, 9]) (by kernel_rfl) (by simp) ?_
      refine AllReadyH.cons (o := _) rfl (fun K hK => ?_) ?_
      · skip
        go_simp
        refine (i1.out _ (r7.out.bel hHeld) (T7.out.bel hHeld l7.out)).mono ?_
        rintro e w8 ⟨rfl, hB⟩
        try replace e6 := (hB.block _ (block_lt e6)).trans e6
        try replace e7 := (hB.block _ (block_lt e7)).trans e7
        go_wp2_with fail
        refine hK.out _ _ ?_ (fun hHeld => ?_)
        · exact hHeld.trans (hB.mono hHeld.size)
        clear hK K
        try simp only [Act.put, List.setIfInBounds_toArray, List.set_cons_zero, List.set_cons_succ, List.getElem_toArray, List.getElem_cons_succ, List.getElem_cons_zero]
        refine wpAnyH_ready (rs := [9]) (by kernel_rfl) (by simp) ?_
        refine AllReadyH.cons (o := _) rfl (fun K hK => ?_) AllReadyH.nil
        refine step_alloc_row rfl 23 rfl z32 info32 ?_
        intro g7 w8 b7 e7 hB
        have m7 := Nat.le_trans hHeld.size b7
        try have n67 : g6 ≠ g7 := fun h => by have := block_lt e6; omega
        try replace e6 := (hB.block _ (block_lt e6)).trans e6
        refine hK.out _ _ ?_ (fun hHeld => ?_)
        · exact hHeld.trans (hB.mono hHeld.size)
        clear hK K
        try simp only [Act.put, List.setIfInBounds_toArray, List.set_cons_zero, List.set_cons_succ, List.getElem_toArray, List.getElem_cons_succ, List.getElem_cons_zero]
        refine wpAnyH_ready (rs := [10]) (by kernel_rfl) (by simp) ?_
        refine AllReadyH.cons (o := _) rfl (fun K hK => ?_) AllReadyH.nil
        refine step_store_row rfl 23 (.tmp 7) (.tmp 34) rfl g6 _ rfl rfl 23 z32 e6 (by rw [y0]; exact size32) (by rw [y0]; exact z32_size) p0 ?_
        intro w8 d6 hG
        replace e7 := (hG.block _ (block_lt e7) (by simpa using n67.symm)).trans e7
        refine hK.out _ _ ?_ (fun hHeld => ?_)
        · exact hHeld.grown hG hHeld.size (by intro k hk; injection hk with hk; omega)
        clear hK K
        try simp only [Act.put, List.setIfInBounds_toArray, List.set_cons_zero, List.set_cons_succ, List.getElem_toArray, List.getElem_cons_succ, List.getElem_cons_zero]
        refine wpAnyH_ready (rs := [11]) (by kernel_rfl) (by simp) ?_
        refine AllReadyH.cons (o := _) rfl (fun K hK => ?_) AllReadyH.nil
        refine step_store_row rfl 23 (.tmp 8) (.tmp 38) rfl g7 _ rfl rfl 23 z32 e7 (by rw [y1]; exact size32) (by rw [y1]; exact z32_size) p1 ?_
        intro w9 d7 hG
        replace d6 := (hG.block _ (block_lt d6) (by simpa using n67)).trans d6
        refine hK.out _ _ ?_ (fun hHeld => ?_)
        · exact hHeld.grown hG hHeld.size (by intro k hk; injection hk with hk; omega)
        clear hK K
        try simp only [Act.put, List.setIfInBounds_toArray, List.set_cons_zero, List.set_cons_succ, List.getElem_toArray, List.getElem_cons_succ, List.getElem_cons_zero]
        refine wpAnyH_done (by kernel_rfl) ?_ _
        refine NoPanic.normal ?_
        have hz9 := hid ((hHeld.block _ (block_lt h7.out)).trans h7.out)
        have W9 := hid (W7.out.trans (hHeld.mono W7.out.size))
        have hT9 := hid (T7.out.bel hHeld l7.out)
        have l9 := hid (Nat.lt_of_lt_of_le l7.out hHeld.size)
        have D6 := hid (rd_blockP d6)
        have D7 := hid (rd_blockP d7)
        clear r7 h7 W7 T7 l7 c0 c1 al7 i0 i1 d6 d7 hHeld
        try clear hB
        try clear hG
        try clear e6 e7
        go_wp2_with fail
        go_still_tail 2, (by kernel_rfl)
        have B2 := (ext_alloc w9 (.cells #[.slice (some ⟨g6, 0, none⟩) 32 32, .slice (some ⟨g7, 0, none⟩) 32 32] 24)).trans ((bel_drew (w9.alloc (.cells #[.slice (some ⟨g6, 0, none⟩) 32 32, .slice (some ⟨g7, 0, none⟩) 32 32] 24))).mono (ext_alloc w9 _).size)
        have hR2 := hid ((hR.out _ _ _ D6.out D7.out).bel (bel_drew _))
        have hT2 := hid (hT9.out.bel B2 l9.out)
        replace hz9 := hid ((B2.block _ (block_lt hz9.out)).trans hz9.out)
        replace W9 := hid (W9.out.trans (B2.mono W9.out.size))
        clear B2 D6 D7 hT9 hR
        go_wp2_with fail
        refine (hO.out _ _ hR2.out hT2.out).mono ?_
        rintro e w10 ⟨rfl, hb10⟩
        have R3 := hid ((hb10.block _ (block_lt hz9.out)).trans hz9.out)
        have W3 := hid (W9.out.trans (hb10.mono W9.out.size))
        clear hb10
        go_wp2_with (first
          | ((with_reducible refine wpList_store_row rfl 23 (.tmp 4) (.tmp 42) rfl _ _ rfl rfl 23 z32 ?_ ?_ ?_ ?_ ?_); exact R3.out; (rw [z1]; exact size32); (rw [z1]; exact z32_size); exact o1; intro w12 hg4 hb4 hs4))
        refine bodyPost_ret (results_cell_row Tryd.results70 _ _ (w.heap.size + 1) 23 _ (0, 0) _ rfl hg4 hu rfl (by rw [z1]; exact size32)) rfl ⟨rfl, W3.out.grown hb4 W3.out.size (by intro k hk; injection hk with hk; omega)⟩
      refine AllReadyH.cons (o := _) rfl (fun K hK => ?_) ?_
      · skip
        refine step_alloc_row rfl 23 rfl z32 info32 ?_
        intro g7 w8 b7 e7 hB
        have m7 := Nat.le_trans hHeld.size b7
        try have n67 : g6 ≠ g7 := fun h => by have := block_lt e6; omega
        try replace e6 := (hB.block _ (block_lt e6)).trans e6
        refine hK.out _ _ ?_ (fun hHeld => ?_)
        · exact hHeld.trans (hB.mono hHeld.size)
        clear hK K
        try simp only [Act.put, List.setIfInBounds_toArray, List.set_cons_zero, List.set_cons_succ, List.getElem_toArray, List.getElem_cons_succ, List.getElem_cons_zero]
        refine wpAnyH_ready (rs := [7]) (by kernel_rfl) (by simp) ?_
        refine AllReadyH.cons (o := _) rfl (fun K hK => ?_) AllReadyH.nil
        go_simp
        refine (i1.out _ (r7.out.bel hHeld) (T7.out.bel hHeld l7.out)).mono ?_
        rintro e w8 ⟨rfl, hB⟩
        try replace e6 := (hB.block _ (block_lt e6)).trans e6
        try replace e7 := (hB.block _ (block_lt e7)).trans e7
        go_wp2_with fail
        refine hK.out _ _ ?_ (fun hHeld => ?_)
        · exact hHeld.trans (hB.mono hHeld.size)
        clear hK K
        try simp only [Act.put, List.setIfInBounds_toArray, List.set_cons_zero, List.set_cons_succ, List.getElem_toArray, List.getElem_cons_succ, List.getElem_cons_zero]
        refine wpAnyH_ready (rs := [10]) (by kernel_rfl) (by simp) ?_
        refine AllReadyH.cons (o := _) rfl (fun K hK => ?_) AllReadyH.nil
        refine step_store_row rfl 23 (.tmp 7) (.tmp 34) rfl g6 _ rfl rfl 23 z32 e6 (by rw [y0]; exact size32) (by rw [y0]; exact z32_size) p0 ?_
        intro w8 d6 hG
        replace e7 := (hG.block _ (block_lt e7) (by simpa using n67.symm)).trans e7
        refine hK.out _ _ ?_ (fun hHeld => ?_)
        · exact hHeld.grown hG hHeld.size (by intro k hk; injection hk with hk; omega)
        clear hK K
        try simp only [Act.put, List.setIfInBounds_toArray, List.set_cons_zero, List.set_cons_succ, List.getElem_toArray, List.getElem_cons_succ, List.getElem_cons_zero]
        refine wpAnyH_ready (rs := [11]) (by kernel_rfl) (by simp) ?_
        refine AllReadyH.cons (o := _) rfl (fun K hK => ?_) AllReadyH.nil
        refine step_store_row rfl 23 (.tmp 8) (.tmp 38) rfl g7 _ rfl rfl 23 z32 e7 (by rw [y1]; exact size32) (by rw [y1]; exact z32_size) p1 ?_
        intro w9 d7 hG
        replace d6 := (hG.block _ (block_lt d6) (by simpa using n67)).trans d6
        refine hK.out _ _ ?_ (fun hHeld => ?_)
        · exact hHeld.grown hG hHeld.size (by intro k hk; injection hk with hk; omega)
        clear hK K
        try simp only [Act.put, List.setIfInBounds_toArray, List.set_cons_zero, List.set_cons_succ, List.getElem_toArray, List.getElem_cons_succ, List.getElem_cons_zero]
        refine wpAnyH_done (by kernel_rfl) ?_ _
        refine NoPanic.normal ?_
        have hz9 := hid ((hHeld.block _ (block_lt h7.out)).trans h7.out)
        have W9 := hid (W7.out.trans (hHeld.mono W7.out.size))
        have hT9 := hid (T7.out.bel hHeld l7.out)
        have l9 := hid (Nat.lt_of_lt_of_le l7.out hHeld.size)
        have D6 := hid (rd_blockP d6)
        have D7 := hid (rd_blockP d7)
        clear r7 h7 W7 T7 l7 c0 c1 al7 i0 i1 d6 d7 hHeld
        try clear hB
        try clear hG
        try clear e6 e7
        go_wp2_with fail
        go_still_tail 2, (by kernel_rfl)
        have B2 := (ext_alloc w9 (.cells #[.slice (some ⟨g6, 0, none⟩) 32 32, .slice (some ⟨g7, 0, none⟩) 32 32] 24)).trans ((bel_drew (w9.alloc (.cells #[.slice (some ⟨g6, 0, none⟩) 32 32, .slice (some ⟨g7, 0, none⟩) 32 32] 24))).mono (ext_alloc w9 _).size)
        have hR2 := hid ((hR.out _ _ _ D6.out D7.out).bel (bel_drew _))
        have hT2 := hid (hT9.out.bel B2 l9.out)
        replace hz9 := hid ((B2.block _ (block_lt hz9.out)).trans hz9.out)
        replace W9 := hid (W9.out.trans (B2.mono W9.out.size))
        clear B2 D6 D7 hT9 hR
        go_wp2_with fail
        refine (hO.out _ _ hR2.out hT2.out).mono ?_
        rintro e w10 ⟨rfl, hb10⟩
        have R3 := hid ((hb10.block _ (block_lt hz9.out)).trans hz9.out)
        have W3 := hid (W9.out.trans (hb10.mono W9.out.size))
        clear hb10
        go_wp2_with (first
          | ((with_reducible refine wpList_store_row rfl 23 (.tmp 4) (.tmp 42) rfl _ _ rfl rfl 23 z32 ?_ ?_ ?_ ?_ ?_); exact R3.out; (rw [z1]; exact size32); (rw [z1]; exact z32_size); exact o1; intro w12 hg4 hb4 hs4))
        refine bodyPost_ret (results_cell_row Tryd.results70 _ _ (w.heap.size + 1) 23 _ (0, 0) _ rfl hg4 hu rfl (by rw [z1]; exact size32)) rfl ⟨rfl, W3.out.grown hb4 W3.out.size (by intro k hk; injection hk with hk; omega)⟩
      exact AllReadyH.nil
    refine AllReadyH.cons (o := _) rfl (fun K hK => ?_) ?_
    · skip
      refine step_alloc_row rfl 23 rfl z32 info32 ?_
      intro g7 w8 b7 e7 hB
      have m7 := Nat.le_trans hHeld.size b7
      try have n67 : g6 ≠ g7 := fun h => by have := block_lt e6; omega
      try replace e6 := (hB.block _ (block_lt e6)).trans e6
      refine hK.out _ _ ?_ (fun hHeld => ?_)
      · exact hHeld.trans (hB.mono hHeld.size)
      clear hK K
      try simp only [Act.put, List.setIfInBounds_toArray, List.set_cons_zero, List.set_cons_succ, List.getElem_toArray, List.getElem_cons_succ, List.getElem_cons_zero]
      refine wpAnyH_ready (rs := [7, 8]) (by kernel_rfl) (by simp) ?_
      refine AllReadyH.cons (o := _) rfl (fun K hK => ?_) ?_
      · skip
        go_simp
        refine (i1.out _ (r7.out.bel hHeld) (T7.out.bel hHeld l7.out)).mono ?_
        rintro e w8 ⟨rfl, hB⟩
        try replace e6 := (hB.block _ (block_lt e6)).trans e6
        try replace e7 := (hB.block _ (block_lt e7)).trans e7
        go_wp2_with fail
        refine hK.out _ _ ?_ (fun hHeld => ?_)
        · exact hHeld.trans (hB.mono hHeld.size)
        clear hK K
        try simp only [Act.put, List.setIfInBounds_toArray, List.set_cons_zero, List.set_cons_succ, List.getElem_toArray, List.getElem_cons_succ, List.getElem_cons_zero]
        refine wpAnyH_ready (rs := [8]) (by kernel_rfl) (by simp) ?_
        refine AllReadyH.cons (o := _) rfl (fun K hK => ?_) AllReadyH.nil
        refine step_alloc_row rfl 23 rfl z32 info32 ?_
        intro g6 w8 b6 e6 hB
        have m6 := Nat.le_trans hHeld.size b6
        try have n67 : g6 ≠ g7 := fun h => by have := block_lt e7; omega
        try replace e7 := (hB.block _ (block_lt e7)).trans e7
        refine hK.out _ _ ?_ (fun hHeld => ?_)
        · exact hHeld.trans (hB.mono hHeld.size)
        clear hK K
        try simp only [Act.put, List.setIfInBounds_toArray, List.set_cons_zero, List.set_cons_succ, List.getElem_toArray, List.getElem_cons_succ, List.getElem_cons_zero]
        refine wpAnyH_ready (rs := [10]) (by kernel_rfl) (by simp) ?_
        refine AllReadyH.cons (o := _) rfl (fun K hK => ?_) AllReadyH.nil
        refine step_store_row rfl 23 (.tmp 7) (.tmp 34) rfl g6 _ rfl rfl 23 z32 e6 (by rw [y0]; exact size32) (by rw [y0]; exact z32_size) p0 ?_
        intro w8 d6 hG
        replace e7 := (hG.block _ (block_lt e7) (by simpa using n67.symm)).trans e7
        refine hK.out _ _ ?_ (fun hHeld => ?_)
        · exact hHeld.grown hG hHeld.size (by intro k hk; injection hk with hk; omega)
        clear hK K
        try simp only [Act.put, List.setIfInBounds_toArray, List.set_cons_zero, List.set_cons_succ, List.getElem_toArray, List.getElem_cons_succ, List.getElem_cons_zero]
        refine wpAnyH_ready (rs := [11]) (by kernel_rfl) (by simp) ?_
        refine AllReadyH.cons (o := _) rfl (fun K hK => ?_) AllReadyH.nil
        refine step_store_row rfl 23 (.tmp 8) (.tmp 38) rfl g7 _ rfl rfl 23 z32 e7 (by rw [y1]; exact size32) (by rw [y1]; exact z32_size) p1 ?_
        intro w9 d7 hG
        replace d6 := (hG.block _ (block_lt d6) (by simpa using n67)).trans d6
        refine hK.out _ _ ?_ (fun hHeld => ?_)
        · exact hHeld.grown hG hHeld.size (by intro k hk; injection hk with hk; omega)
        clear hK K
        try simp only [Act.put, List.setIfInBounds_toArray, List.set_cons_zero, List.set_cons_succ, List.getElem_toArray, List.getElem_cons_succ, List.getElem_cons_zero]
        refine wpAnyH_done (by kernel_rfl) ?_ _
        refine NoPanic.normal ?_
        have hz9 := hid ((hHeld.block _ (block_lt h7.out)).trans h7.out)
        have W9 := hid (W7.out.trans (hHeld.mono W7.out.size))
        have hT9 := hid (T7.out.bel hHeld l7.out)
        have l9 := hid (Nat.lt_of_lt_of_le l7.out hHeld.size)
        have D6 := hid (rd_blockP d6)
        have D7 := hid (rd_blockP d7)
        clear r7 h7 W7 T7 l7 c0 c1 al7 i0 i1 d6 d7 hHeld
        try clear hB
        try clear hG
        try clear e6 e7
        go_wp2_with fail
        go_still_tail 2, (by kernel_rfl)
        have B2 := (ext_alloc w9 (.cells #[.slice (some ⟨g6, 0, none⟩) 32 32, .slice (some ⟨g7, 0, none⟩) 32 32] 24)).trans ((bel_drew (w9.alloc (.cells #[.slice (some ⟨g6, 0, none⟩) 32 32, .slice (some ⟨g7, 0, none⟩) 32 32] 24))).mono (ext_alloc w9 _).size)
        have hR2 := hid ((hR.out _ _ _ D6.out D7.out).bel (bel_drew _))
        have hT2 := hid (hT9.out.bel B2 l9.out)
        replace hz9 := hid ((B2.block _ (block_lt hz9.out)).trans hz9.out)
        replace W9 := hid (W9.out.trans (B2.mono W9.out.size))
        clear B2 D6 D7 hT9 hR
        go_wp2_with fail
        refine (hO.out _ _ hR2.out hT2.out).mono ?_
        rintro e w10 ⟨rfl, hb10⟩
        have R3 := hid ((hb10.block _ (block_lt hz9.out)).trans hz9.out)
        have W3 := hid (W9.out.trans (hb10.mono W9.out.size))
        clear hb10
        go_wp2_with (first
          | ((with_reducible refine wpList_store_row rfl 23 (.tmp 4) (.tmp 42) rfl _ _ rfl rfl 23 z32 ?_ ?_ ?_ ?_ ?_); exact R3.out; (rw [z1]; exact size32); (rw [z1]; exact z32_size); exact o1; intro w12 hg4 hb4 hs4))
        refine bodyPost_ret (results_cell_row Tryd.results70 _ _ (w.heap.size + 1) 23 _ (0, 0) _ rfl hg4 hu rfl (by rw [z1]; exact size32)) rfl ⟨rfl, W3.out.grown hb4 W3.out.size (by intro k hk; injection hk with hk; omega)⟩
      refine AllReadyH.cons (o := _) rfl (fun K hK => ?_) ?_
      · skip
        refine step_alloc_row rfl 23 rfl z32 info32 ?_
        intro g6 w8 b6 e6 hB
        have m6 := Nat.le_trans hHeld.size b6
        try have n67 : g6 ≠ g7 := fun h => by have := block_lt e7; omega
        try replace e7 := (hB.block _ (block_lt e7)).trans e7
        refine hK.out _ _ ?_ (fun hHeld => ?_)
        · exact hHeld.trans (hB.mono hHeld.size)
        clear hK K
        try simp only [Act.put, List.setIfInBounds_toArray, List.set_cons_zero, List.set_cons_succ, List.getElem_toArray, List.getElem_cons_succ, List.getElem_cons_zero]
        refine wpAnyH_ready (rs := [7]) (by kernel_rfl) (by simp) ?_
        refine AllReadyH.cons (o := _) rfl (fun K hK => ?_) AllReadyH.nil
        go_simp
        refine (i1.out _ (r7.out.bel hHeld) (T7.out.bel hHeld l7.out)).mono ?_
        rintro e w8 ⟨rfl, hB⟩
        try replace e6 := (hB.block _ (block_lt e6)).trans e6
        try replace e7 := (hB.block _ (block_lt e7)).trans e7
        go_wp2_with fail
        refine hK.out _ _ ?_ (fun hHeld => ?_)
        · exact hHeld.trans (hB.mono hHeld.size)
        clear hK K
        try simp only [Act.put, List.setIfInBounds_toArray, List.set_cons_zero, List.set_cons_succ, List.getElem_toArray, List.getElem_cons_succ, List.getElem_cons_zero]
        refine wpAnyH_ready (rs := [10]) (by kernel_rfl) (by simp) ?_
        refine AllReadyH.cons (o := _) rfl (fun K hK => ?_) AllReadyH.nil
        refine step_store_row rfl 23 (.tmp 7) (.tmp 34) rfl g6 _ rfl rfl 23 z32 e6 (by rw [y0]; exact size32) (by rw [y0]; exact z32_size) p0 ?_
        intro w8 d6 hG
        replace e7 := (hG.block _ (block_lt e7) (by simpa using n67.symm)).trans e7
        refine hK.out _ _ ?_ (fun hHeld => ?_)
        · exact hHeld.grown hG hHeld.size (by intro k hk; injection hk with hk; omega)
        clear hK K
        try simp only [Act.put, List.setIfInBounds_toArray, List.set_cons_zero, List.set_cons_succ, List.getElem_toArray, List.getElem_cons_succ, List.getElem_cons_zero]
        refine wpAnyH_ready (rs := [11]) (by kernel_rfl) (by simp) ?_
        refine AllReadyH.cons (o := _) rfl (fun K hK => ?_) AllReadyH.nil
        refine step_store_row rfl 23 (.tmp 8) (.tmp 38) rfl g7 _ rfl rfl 23 z32 e7 (by rw [y1]; exact size32) (by rw [y1]; exact z32_size) p1 ?_
        intro w9 d7 hG
        replace d6 := (hG.block _ (block_lt d6) (by simpa using n67)).trans d6
        refine hK.out _ _ ?_ (fun hHeld => ?_)
        · exact hHeld.grown hG hHeld.size (by intro k hk; injection hk with hk; omega)
        clear hK K
        try simp only [Act.put, List.setIfInBounds_toArray, List.set_cons_zero, List.set_cons_succ, List.getElem_toArray, List.getElem_cons_succ, List.getElem_cons_zero]
        refine wpAnyH_done (by kernel_rfl) ?_ _
        refine NoPanic.normal ?_
        have hz9 := hid ((hHeld.block _ (block_lt h7.out)).trans h7.out)
        have W9 := hid (W7.out.trans (hHeld.mono W7.out.size))
        have hT9 := hid (T7.out.bel hHeld l7.out)
        have l9 := hid (Nat.lt_of_lt_of_le l7.out hHeld.size)
        have D6 := hid (rd_blockP d6)
        have D7 := hid (rd_blockP d7)
        clear r7 h7 W7 T7 l7 c0 c1 al7 i0 i1 d6 d7 hHeld
        try clear hB
        try clear hG
        try clear e6 e7
        go_wp2_with fail
        go_still_tail 2, (by kernel_rfl)
        have B2 := (ext_alloc w9 (.cells #[.slice (some ⟨g6, 0, none⟩) 32 32, .slice (some ⟨g7, 0, none⟩) 32 32] 24)).trans ((bel_drew (w9.alloc (.cells #[.slice (some ⟨g6, 0, none⟩) 32 32, .slice (some ⟨g7, 0, none⟩) 32 32] 24))).mono (ext_alloc w9 _).size)
        have hR2 := hid ((hR.out _ _ _ D6.out D7.out).bel (bel_drew _))
        have hT2 := hid (hT9.out.bel B2 l9.out)
        replace hz9 := hid ((B2.block _ (block_lt hz9.out)).trans hz9.out)
        replace W9 := hid (W9.out.trans (B2.mono W9.out.size))
        clear B2 D6 D7 hT9 hR
        go_wp2_with fail
        refine (hO.out _ _ hR2.out hT2.out).mono ?_
        rintro e w10 ⟨rfl, hb10⟩
        have R3 := hid ((hb10.block _ (block_lt hz9.out)).trans hz9.out)
        have W3 := hid (W9.out.trans (hb10.mono W9.out.size))
        clear hb10
        go_wp2_with (first
          | ((with_reducible refine wpList_store_row rfl 23 (.tmp 4) (.tmp 42) rfl _ _ rfl rfl 23 z32 ?_ ?_ ?_ ?_ ?_); exact R3.out; (rw [z1]; exact size32); (rw [z1]; exact z32_size); exact o1; intro w12 hg4 hb4 hs4))
        refine bodyPost_ret (results_cell_row Tryd.results70 _ _ (w.heap.size + 1) 23 _ (0, 0) _ rfl hg4 hu rfl (by rw [z1]; exact size32)) rfl ⟨rfl, W3.out.grown hb4 W3.out.size (by intro k hk; injection hk with hk; omega)⟩
      exact AllReadyH.nil
    exact AllReadyH.nil
  refine AllReadyH.cons (o := _) rfl (fun K hK => ?_) ?_
  · skip
    refine step_alloc_row rfl 23 rfl z32 info32 ?_
    intro g6 w8 b6 e6 hB
    have m6 := Nat.le_trans hHeld.size b6
    try have n67 : g6 ≠ g7 := fun h => by have := block_lt e7; omega
    try replace e7 := (hB.block _ (block_lt e7)).trans e7
    refine hK.out _ _ ?_ (fun hHeld => ?_)
    · exact hHeld.trans (hB.mono hHeld.size)
    clear hK K
    try simp only [Act.put, List.setIfInBounds_toArray, List.set_cons_zero, List.set_cons_succ, List.getElem_toArray, List.getElem_cons_succ, List.getElem_cons_zero]
    refine wpAnyH_ready (rs := [3, 9]) (by kernel_rfl) (by simp) ?_
    refine AllReadyH.cons (o := _) rfl (fun K hK => ?_) ?_
    · skip
      go_simp
      refine (i0.out _ (r7.out.bel hHeld) (T7.out.bel hHeld l7.out)).mono ?_
      rintro e w8 ⟨rfl, hB⟩
      try replace e6 := (hB.block _ (block_lt e6)).trans e6
      try replace e7 := (hB.block _ (block_lt e7)).trans e7
      go_wp2_with fail
      refine hK.out _ _ ?_ (fun hHeld => ?_)
      · exact hHeld.trans (hB.mono hHeld.size)
      clear hK K
      try simp only [Act.put, List.setIfInBounds_toArray, List.set_cons_zero, List.set_cons_succ, List.getElem_toArray, List.getElem_cons_succ, List.getElem_cons_zero]
      refine wpAnyH_ready (rs := [7, 9]) (by kernel_rfl) (by simp) ?_
      refine AllReadyH.cons (o := _) rfl (fun K hK => ?_) ?_
      · skip
        go_simp
        refine (i1.out _ (r7.out.bel hHeld) (T7.out.bel hHeld l7.out)).mono ?_
        rintro e w8 ⟨rfl, hB⟩
        try replace e6 := (hB.block _ (block_lt e6)).trans e6
        try replace e7 := (hB.block _ (block_lt e7)).trans e7
        go_wp2_with fail
        refine hK.out _ _ ?_ (fun hHeld => ?_)
        · exact hHeld.trans (hB.mono hHeld.size)
        clear hK K
        try simp only [Act.put, List.setIfInBounds_toArray, List.set_cons_zero, List.set_cons_succ, List.getElem_toArray, List.getElem_cons_succ, List.getElem_cons_zero]
        refine wpAnyH_ready (rs := [9]) (by kernel_rfl) (by simp) ?_
        refine AllReadyH.cons (o := _) rfl (fun K hK => ?_) AllReadyH.nil
        refine step_alloc_row rfl 23 rfl z32 info32 ?_
        intro g7 w8 b7 e7 hB
        have m7 := Nat.le_trans hHeld.size b7
        try have n67 : g6 ≠ g7 := fun h => by have := block_lt e6; omega
        try replace e6 := (hB.block _ (block_lt e6)).trans e6
        refine hK.out _ _ ?_ (fun hHeld => ?_)
        · exact hHeld.trans (hB.mono hHeld.size)
        clear hK K
        try simp only [Act.put, List.setIfInBounds_toArray, List.set_cons_zero, List.set_cons_succ, List.getElem_toArray, List.getElem_cons_succ, List.getElem_cons_zero]
        refine wpAnyH_ready (rs := [10]) (by kernel_rfl) (by simp) ?_
        refine AllReadyH.cons (o := _) rfl (fun K hK => ?_) AllReadyH.nil
        refine step_store_row rfl 23 (.tmp 7) (.tmp 34) rfl g6 _ rfl rfl 23 z32 e6 (by rw [y0]; exact size32) (by rw [y0]; exact z32_size) p0 ?_
        intro w8 d6 hG
        replace e7 := (hG.block _ (block_lt e7) (by simpa using n67.symm)).trans e7
        refine hK.out _ _ ?_ (fun hHeld => ?_)
        · exact hHeld.grown hG hHeld.size (by intro k hk; injection hk with hk; omega)
        clear hK K
        try simp only [Act.put, List.setIfInBounds_toArray, List.set_cons_zero, List.set_cons_succ, List.getElem_toArray, List.getElem_cons_succ, List.getElem_cons_zero]
        refine wpAnyH_ready (rs := [11]) (by kernel_rfl) (by simp) ?_
        refine AllReadyH.cons (o := _) rfl (fun K hK => ?_) AllReadyH.nil
        refine step_store_row rfl 23 (.tmp 8) (.tmp 38) rfl g7 _ rfl rfl 23 z32 e7 (by rw [y1]; exact size32) (by rw [y1]; exact z32_size) p1 ?_
        intro w9 d7 hG
        replace d6 := (hG.block _ (block_lt d6) (by simpa using n67)).trans d6
        refine hK.out _ _ ?_ (fun hHeld => ?_)
        · exact hHeld.grown hG hHeld.size (by intro k hk; injection hk with hk; omega)
        clear hK K
        try simp only [Act.put, List.setIfInBounds_toArray, List.set_cons_zero, List.set_cons_succ, List.getElem_toArray, List.getElem_cons_succ, List.getElem_cons_zero]
        refine wpAnyH_done (by kernel_rfl) ?_ _
        refine NoPanic.normal ?_
        have hz9 := hid ((hHeld.block _ (block_lt h7.out)).trans h7.out)
        have W9 := hid (W7.out.trans (hHeld.mono W7.out.size))
        have hT9 := hid (T7.out.bel hHeld l7.out)
        have l9 := hid (Nat.lt_of_lt_of_le l7.out hHeld.size)
        have D6 := hid (rd_blockP d6)
        have D7 := hid (rd_blockP d7)
        clear r7 h7 W7 T7 l7 c0 c1 al7 i0 i1 d6 d7 hHeld
        try clear hB
        try clear hG
        try clear e6 e7
        go_wp2_with fail
        go_still_tail 2, (by kernel_rfl)
        have B2 := (ext_alloc w9 (.cells #[.slice (some ⟨g6, 0, none⟩) 32 32, .slice (some ⟨g7, 0, none⟩) 32 32] 24)).trans ((bel_drew (w9.alloc (.cells #[.slice (some ⟨g6, 0, none⟩) 32 32, .slice (some ⟨g7, 0, none⟩) 32 32] 24))).mono (ext_alloc w9 _).size)
        have hR2 := hid ((hR.out _ _ _ D6.out D7.out).bel (bel_drew _))
        have hT2 := hid (hT9.out.bel B2 l9.out)
        replace hz9 := hid ((B2.block _ (block_lt hz9.out)).trans hz9.out)
        replace W9 := hid (W9.out.trans (B2.mono W9.out.size))
        clear B2 D6 D7 hT9 hR
        go_wp2_with fail
        refine (hO.out _ _ hR2.out hT2.out).mono ?_
        rintro e w10 ⟨rfl, hb10⟩
        have R3 := hid ((hb10.block _ (block_lt hz9.out)).trans hz9.out)
        have W3 := hid (W9.out.trans (hb10.mono W9.out.size))
        clear hb10
        go_wp2_with (first
          | ((with_reducible refine wpList_store_row rfl 23 (.tmp 4) (.tmp 42) rfl _ _ rfl rfl 23 z32 ?_ ?_ ?_ ?_ ?_); exact R3.out; (rw [z1]; exact size32); (rw [z1]; exact z32_size); exact o1; intro w12 hg4 hb4 hs4))
        refine bodyPost_ret (results_cell_row Tryd.results70 _ _ (w.heap.size + 1) 23 _ (0, 0) _ rfl hg4 hu rfl (by rw [z1]; exact size32)) rfl ⟨rfl, W3.out.grown hb4 W3.out.size (by intro k hk; injection hk with hk; omega)⟩
      refine AllReadyH.cons (o := _) rfl (fun K hK => ?_) ?_
      · skip
        refine step_alloc_row rfl 23 rfl z32 info32 ?_
        intro g7 w8 b7 e7 hB
        have m7 := Nat.le_trans hHeld.size b7
        try have n67 : g6 ≠ g7 := fun h => by have := block_lt e6; omega
        try replace e6 := (hB.block _ (block_lt e6)).trans e6
        refine hK.out _ _ ?_ (fun hHeld => ?_)
        · exact hHeld.trans (hB.mono hHeld.size)
        clear hK K
        try simp only [Act.put, List.setIfInBounds_toArray, List.set_cons_zero, List.set_cons_succ, List.getElem_toArray, List.getElem_cons_succ, List.getElem_cons_zero]
        refine wpAnyH_ready (rs := [7]) (by kernel_rfl) (by simp) ?_
        refine AllReadyH.cons (o := _) rfl (fun K hK => ?_) AllReadyH.nil
        go_simp
        refine (i1.out _ (r7.out.bel hHeld) (T7.out.bel hHeld l7.out)).mono ?_
        rintro e w8 ⟨rfl, hB⟩
        try replace e6 := (hB.block _ (block_lt e6)).trans e6
        try replace e7 := (hB.block _ (block_lt e7)).trans e7
        go_wp2_with fail
        refine hK.out _ _ ?_ (fun hHeld => ?_)
        · exact hHeld.trans (hB.mono hHeld.size)
        clear hK K
        try simp only [Act.put, List.setIfInBounds_toArray, List.set_cons_zero, List.set_cons_succ, List.getElem_toArray, List.getElem_cons_succ, List.getElem_cons_zero]
        refine wpAnyH_ready (rs := [10]) (by kernel_rfl) (by simp) ?_
        refine AllReadyH.cons (o := _) rfl (fun K hK => ?_) AllReadyH.nil
        refine step_store_row rfl 23 (.tmp 7) (.tmp 34) rfl g6 _ rfl rfl 23 z32 e6 (by rw [y0]; exact size32) (by rw [y0]; exact z32_size) p0 ?_
        intro w8 d6 hG
        replace e7 := (hG.block _ (block_lt e7) (by simpa using n67.symm)).trans e7
        refine hK.out _ _ ?_ (fun hHeld => ?_)
        · exact hHeld.grown hG hHeld.size (by intro k hk; injection hk with hk; omega)
        clear hK K
        try simp only [Act.put, List.setIfInBounds_toArray, List.set_cons_zero, List.set_cons_succ, List.getElem_toArray, List.getElem_cons_succ, List.getElem_cons_zero]
        refine wpAnyH_ready (rs := [11]) (by kernel_rfl) (by simp) ?_
        refine AllReadyH.cons (o := _) rfl (fun K hK => ?_) AllReadyH.nil
        refine step_store_row rfl 23 (.tmp 8) (.tmp 38) rfl g7 _ rfl rfl 23 z32 e7 (by rw [y1]; exact size32) (by rw [y1]; exact z32_size) p1 ?_
        intro w9 d7 hG
        replace d6 := (hG.block _ (block_lt d6) (by simpa using n67)).trans d6
        refine hK.out _ _ ?_ (fun hHeld => ?_)
        · exact hHeld.grown hG hHeld.size (by intro k hk; injection hk with hk; omega)
        clear hK K
        try simp only [Act.put, List.setIfInBounds_toArray, List.set_cons_zero, List.set_cons_succ, List.getElem_toArray, List.getElem_cons_succ, List.getElem_cons_zero]
        refine wpAnyH_done (by kernel_rfl) ?_ _
        refine NoPanic.normal ?_
        have hz9 := hid ((hHeld.block _ (block_lt h7.out)).trans h7.out)
        have W9 := hid (W7.out.trans (hHeld.mono W7.out.size))
        have hT9 := hid (T7.out.bel hHeld l7.out)
        have l9 := hid (Nat.lt_of_lt_of_le l7.out hHeld.size)
        have D6 := hid (rd_blockP d6)
        have D7 := hid (rd_blockP d7)
        clear r7 h7 W7 T7 l7 c0 c1 al7 i0 i1 d6 d7 hHeld
        try clear hB
        try clear hG
        try clear e6 e7
        go_wp2_with fail
        go_still_tail 2, (by kernel_rfl)
        have B2 := (ext_alloc w9 (.cells #[.slice (some ⟨g6, 0, none⟩) 32 32, .slice (some ⟨g7, 0, none⟩) 32 32] 24)).trans ((bel_drew (w9.alloc (.cells #[.slice (some ⟨g6, 0, none⟩) 32 32, .slice (some ⟨g7, 0, none⟩) 32 32] 24))).mono (ext_alloc w9 _).size)
        have hR2 := hid ((hR.out _ _ _ D6.out D7.out).bel (bel_drew _))
        have hT2 := hid (hT9.out.bel B2 l9.out)
        replace hz9 := hid ((B2.block _ (block_lt hz9.out)).trans hz9.out)
        replace W9 := hid (W9.out.trans (B2.mono W9.out.size))
        clear B2 D6 D7 hT9 hR
        go_wp2_with fail
        refine (hO.out _ _ hR2.out hT2.out).mono ?_
        rintro e w10 ⟨rfl, hb10⟩
        have R3 := hid ((hb10.block _ (block_lt hz9.out)).trans hz9.out)
        have W3 := hid (W9.out.trans (hb10.mono W9.out.size))
        clear hb10
        go_wp2_with (first
          | ((with_reducible refine wpList_store_row rfl 23 (.tmp 4) (.tmp 42) rfl _ _ rfl rfl 23 z32 ?_ ?_ ?_ ?_ ?_); exact R3.out; (rw [z1]; exact size32); (rw [z1]; exact z32_size); exact o1; intro w12 hg4 hb4 hs4))
        refine bodyPost_ret (results_cell_row Tryd.results70 _ _ (w.heap.size + 1) 23 _ (0, 0) _ rfl hg4 hu rfl (by rw [z1]; exact size32)) rfl ⟨rfl, W3.out.grown hb4 W3.out.size (by intro k hk; injection hk with hk; omega)⟩
      exact AllReadyH.nil
    refine AllReadyH.cons (o := _) rfl (fun K hK => ?_) ?_
    · skip
      refine step_alloc_row rfl 23 rfl z32 info32 ?_
      intro g7 w8 b7 e7 hB
      have m7 := Nat.le_trans hHeld.size b7
      try have n67 : g6 ≠ g7 := fun h => by have := block_lt e6; omega
      try replace e6 := (hB.block _ (block_lt e6)).trans e6
      refine hK.out _ _ ?_ (fun hHeld => ?_)
      · exact hHeld.trans (hB.mono hHeld.size)
      clear hK K
      try simp only [Act.put, List.setIfInBounds_toArray, List.set_cons_zero, List.set_cons_succ, List.getElem_toArray, List.getElem_cons_succ, List.getElem_cons_zero]
      refine wpAnyH_ready (rs := [3]) (by kernel_rfl) (by simp) ?_
      refine AllReadyH.cons (o := _) rfl (fun K hK => ?_) AllReadyH.nil
      go_simp
      refine (i0.out _ (r7.out.bel hHeld) (T7.out.bel hHeld l7.out)).mono ?_
      rintro e w8 ⟨rfl, hB⟩
      try replace e6 := (hB.block _ (block_lt e6)).trans e6
      try replace e7 := (hB.block _ (block_lt e7)).trans e7
      go_wp2_with fail
      refine hK.out _ _ ?_ (fun hHeld => ?_)
      · exact hHeld.trans (hB.mono hHeld.size)
      clear hK K
      try simp only [Act.put, List.setIfInBounds_toArray, List.set_cons_zero, List.set_cons_succ, List.getElem_toArray, List.getElem_cons_succ, List.getElem_cons_zero]
      refine wpAnyH_ready (rs := [7]) (by kernel_rfl) (by simp) ?_
      refine AllReadyH.cons (o := _) rfl (fun K hK => ?_) AllReadyH.nil
      go_simp
      refine (i1.out _ (r7.out.bel hHeld) (T7.out.bel hHeld l7.out)).mono ?_
      rintro e w8 ⟨rfl, hB⟩
      try replace e6 := (hB.block _ (block_lt e6)).trans e6
      try replace e7 := (hB.block _ (block_lt e7)).trans e7
      go_wp2_with fail
      refine hK.out _ _ ?_ (fun hHeld => ?_)
      · exact hHeld.trans (hB.mono hHeld.size)
      clear hK K
      try simp only [Act.put, List.setIfInBounds_toArray, List.set_cons_zero, List.set_cons_succ, List.getElem_toArray, List.getElem_cons_succ, List.getElem_cons_zero]
      refine wpAnyH_ready (rs := [10]) (by kernel_rfl) (by simp) ?_
      refine AllReadyH.cons (o := _) rfl (fun K hK => ?_) AllReadyH.nil
      refine step_store_row rfl 23 (.tmp 7) (.tmp 34) rfl g6 _ rfl rfl 23 z32 e6 (by rw [y0]; exact size32) (by rw [y0]; exact z32_size) p0 ?_
      intro w8 d6 hG
      replace e7 := (hG.block _ (block_lt e7) (by simpa using n67.symm)).trans e7
      refine hK.out _ _ ?_ (fun hHeld => ?_)
      · exact hHeld.grown hG hHeld.size (by intro k hk; injection hk with hk; omega)
      clear hK K
      try simp only [Act.put, List.setIfInBounds_toArray, List.set_cons_zero, List.set_cons_succ, List.getElem_toArray, List.getElem_cons_succ, List.getElem_cons_zero]
      refine wpAnyH_ready (rs := [11]) (by kernel_rfl) (by simp) ?_
      refine AllReadyH.cons (o := _) rfl (fun K hK => ?_) AllReadyH.nil
      refine step_store_row rfl 23 (.tmp 8) (.tmp 38) rfl g7 _ rfl rfl 23 z32 e7 (by rw [y1]; exact size32) (by rw [y1]; exact z32_size) p1 ?_
      intro w9 d7 hG
      replace d6 := (hG.block _ (block_lt d6) (by simpa using n67)).trans d6
      refine hK.out _ _ ?_ (fun hHeld => ?_)
      · exact hHeld.grown hG hHeld.size (by intro k hk; injection hk with hk; omega)
      clear hK K
      try simp only [Act.put, List.setIfInBounds_toArray, List.set_cons_zero, List.set_cons_succ, List.getElem_toArray, List.getElem_cons_succ, List.getElem_cons_zero]
      refine wpAnyH_done (by kernel_rfl) ?_ _
      refine NoPanic.normal ?_
      have hz9 := hid ((hHeld.block _ (block_lt h7.out)).trans h7.out)
      have W9 := hid (W7.out.trans (hHeld.mono W7.out.size))
      have hT9 := hid (T7.out.bel hHeld l7.out)
      have l9 := hid (Nat.lt_of_lt_of_le l7.out hHeld.size)
      have D6 := hid (rd_blockP d6)
      have D7 := hid (rd_blockP d7)
      clear r7 h7 W7 T7 l7 c0 c1 al7 i0 i1 d6 d7 hHeld
      try clear hB
      try clear hG
      try clear e6 e7
      go_wp2_with fail
      go_still_tail 2, (by kernel_rfl)
      have B2 := (ext_alloc w9 (.cells #[.slice (some ⟨g6, 0, none⟩) 32 32, .slice (some ⟨g7, 0, none⟩) 32 32] 24)).trans ((bel_drew (w9.alloc (.cells #[.slice (some ⟨g6, 0, none⟩) 32 32, .slice (some ⟨g7, 0, none⟩) 32 32] 24))).mono (ext_alloc w9 _).size)
      have hR2 := hid ((hR.out _ _ _ D6.out D7.out).bel (bel_drew _))
      have hT2 := hid (hT9.out.bel B2 l9.out)
      replace hz9 := hid ((B2.block _ (block_lt hz9.out)).trans hz9.out)
      replace W9 := hid (W9.out.trans (B2.mono W9.out.size))
      clear B2 D6 D7 hT9 hR
      go_wp2_with fail
      refine (hO.out _ _ hR2.out hT2.out).mono ?_
      rintro e w10 ⟨rfl, hb10⟩
      have R3 := hid ((hb10.block _ (block_lt hz9.out)).trans hz9.out)
      have W3 := hid (W9.out.trans (hb10.mono W9.out.size))
      clear hb10
      go_wp2_with (first
        | ((with_reducible refine wpList_store_row rfl 23 (.tmp 4) (.tmp 42) rfl _ _ rfl rfl 23 z32 ?_ ?_ ?_ ?_ ?_); exact R3.out; (rw [z1]; exact size32); (rw [z1]; exact z32_size); exact o1; intro w12 hg4 hb4 hs4))
      refine bodyPost_ret (results_cell_row Tryd.results70 _ _ (w.heap.size + 1) 23 _ (0, 0) _ rfl hg4 hu rfl (by rw [z1]; exact size32)) rfl ⟨rfl, W3.out.grown hb4 W3.out.size (by intro k hk; injection hk with hk; omega)⟩
    exact AllReadyH.nil
  refine AllReadyH.cons (o := _) rfl (fun K hK => ?_) ?_
  · skip
    refine step_alloc_row rfl 23 rfl z32 info32 ?_
    intro g7 w8 b7 e7 hB
    have m7 := Nat.le_trans hHeld.size b7
    try have n67 : g6 ≠ g7 := fun h => by have := block_lt e6; omega
    try replace e6 := (hB.block _ (block_lt e6)).trans e6
    refine hK.out _ _ ?_ (fun hHeld => ?_)
    · exact hHeld.trans (hB.mono hHeld.size)
    clear hK K
    try simp only [Act.put, List.setIfInBounds_toArray, List.set_cons_zero, List.set_cons_succ, List.getElem_toArray, List.getElem_cons_succ, List.getElem_cons_zero]
    refine wpAnyH_ready (rs := [3, 8]) (by kernel_rfl) (by simp) ?_
    refine AllReadyH.cons (o := _) rfl (fun K hK => ?_) ?_
    · skip
      go_simp
      refine (i0.out _ (r7.out.bel hHeld) (T7.out.bel hHeld l7.out)).mono ?_
      rintro e w8 ⟨rfl, hB⟩
      try replace e6 := (hB.block _ (block_lt e6)).trans e6
      try replace e7 := (hB.block _ (block_lt e7)).trans e7
      go_wp2_with fail
      refine hK.out _ _ ?_ (fun hHeld => ?_)
      · exact hHeld.trans (hB.mono hHeld.size)
      clear hK K
      try simp only [Act.put, List.setIfInBounds_toArray, List.set_cons_zero, List.set_cons_succ, List.getElem_toArray, List.getElem_cons_succ, List.getElem_cons_zero]
      refine wpAnyH_ready (rs := [7, 8]) (by kernel_rfl) (by simp) ?_
      refine AllReadyH.cons (o := _) rfl (fun K hK => ?_) ?_
      · skip
        go_simp
        refine (i1.out _ (r7.out.bel hHeld) (T7.out.bel hHeld l7.out)).mono ?_
        rintro e w8 ⟨rfl, hB⟩
        try replace e6 := (hB.block _ (block_lt e6)).trans e6
        try replace e7 := (hB.block _ (block_lt e7)).trans e7
        go_wp2_with fail
        refine hK.out _ _ ?_ (fun hHeld => ?_)
        · exact hHeld.trans (hB.mono hHeld.size)
        clear hK K
        try simp only [Act.put, List.setIfInBounds_toArray, List.set_cons_zero, List.set_cons_succ, List.getElem_toArray, List.getElem_cons_succ, List.getElem_cons_zero]
        refine wpAnyH_ready (rs := [8]) (by kernel_rfl) (by simp) ?_
        refine AllReadyH.cons (o := _) rfl (fun K hK => ?_) AllReadyH.nil
        refine step_alloc_row rfl 23 rfl z32 info32 ?_
        intro g6 w8 b6 e6 hB
        have m6 := Nat.le_trans hHeld.size b6
        try have n67 : g6 ≠ g7 := fun h => by have := block_lt e7; omega
        try replace e7 := (hB.block _ (block_lt e7)).trans e7
        refine hK.out _ _ ?_ (fun hHeld => ?_)
        · exact hHeld.trans (hB.mono hHeld.size)
        clear hK K
        try simp only [Act.put, List.setIfInBounds_toArray, List.set_cons_zero, List.set_cons_succ, List.getElem_toArray, List.getElem_cons_succ, List.getElem_cons_zero]
        refine wpAnyH_ready (rs := [10]) (by kernel_rfl) (by simp) ?_
        refine AllReadyH.cons (o := _) rfl (fun K hK => ?_) AllReadyH.nil
        refine step_store_row rfl 23 (.tmp 7) (.tmp 34) rfl g6 _ rfl rfl 23 z32 e6 (by rw [y0]; exact size32) (by rw [y0]; exact z32_size) p0 ?_
        intro w8 d6 hG
        replace e7 := (hG.block _ (block_lt e7) (by simpa using n67.symm)).trans e7
        refine hK.out _ _ ?_ (fun hHeld => ?_)
        · exact hHeld.grown hG hHeld.size (by intro k hk; injection hk with hk; omega)
        clear hK K
        try simp only [Act.put, List.setIfInBounds_toArray, List.set_cons_zero, List.set_cons_succ, List.getElem_toArray, List.getElem_cons_succ, List.getElem_cons_zero]
        refine wpAnyH_ready (rs := [11]) (by kernel_rfl) (by simp) ?_
        refine AllReadyH.cons (o := _) rfl (fun K hK => ?_) AllReadyH.nil
        refine step_store_row rfl 23 (.tmp 8) (.tmp 38) rfl g7 _ rfl rfl 23 z32 e7 (by rw [y1]; exact size32) (by rw [y1]; exact z32_size) p1 ?_
        intro w9 d7 hG
        replace d6 := (hG.block _ (block_lt d6) (by simpa using n67)).trans d6
        refine hK.out _ _ ?_ (fun hHeld => ?_)
        · exact hHeld.grown hG hHeld.size (by intro k hk; injection hk with hk; omega)
        clear hK K
        try simp only [Act.put, List.setIfInBounds_toArray, List.set_cons_zero, List.set_cons_succ, List.getElem_toArray, List.getElem_cons_succ, List.getElem_cons_zero]
        refine wpAnyH_done (by kernel_rfl) ?_ _
        refine NoPanic.normal ?_
        have hz9 := hid ((hHeld.block _ (block_lt h7.out)).trans h7.out)
        have W9 := hid (W7.out.trans (hHeld.mono W7.out.size))
        have hT9 := hid (T7.out.bel hHeld l7.out)
        have l9 := hid (Nat.lt_of_lt_of_le l7.out hHeld.size)
        have D6 := hid (rd_blockP d6)
        have D7 := hid (rd_blockP d7)
        clear r7 h7 W7 T7 l7 c0 c1 al7 i0 i1 d6 d7 hHeld
        try clear hB
        try clear hG
        try clear e6 e7
        go_wp2_with fail
        go_still_tail 2, (by kernel_rfl)
        have B2 := (ext_alloc w9 (.cells #[.slice (some ⟨g6, 0, none⟩) 32 32, .slice (some ⟨g7, 0, none⟩) 32 32] 24)).trans ((bel_drew (w9.alloc (.cells #[.slice (some ⟨g6, 0, none⟩) 32 32, .slice (some ⟨g7, 0, none⟩) 32 32] 24))).mono (ext_alloc w9 _).size)
        have hR2 := hid ((hR.out _ _ _ D6.out D7.out).bel (bel_drew _))
        have hT2 := hid (hT9.out.bel B2 l9.out)
        replace hz9 := hid ((B2.block _ (block_lt hz9.out)).trans hz9.out)
        replace W9 := hid (W9.out.trans (B2.mono W9.out.size))
        clear B2 D6 D7 hT9 hR
        go_wp2_with fail
        refine (hO.out _ _ hR2.out hT2.out).mono ?_
        rintro e w10 ⟨rfl, hb10⟩
        have R3 := hid ((hb10.block _ (block_lt hz9.out)).trans hz9.out)
        have W3 := hid (W9.out.trans (hb10.mono W9.out.size))
        clear hb10
        go_wp2_with (first
          | ((with_reducible refine wpList_store_row rfl 23 (.tmp 4) (.tmp 42) rfl _ _ rfl rfl 23 z32 ?_ ?_ ?_ ?_ ?_); exact R3.out; (rw [z1]; exact size32); (rw [z1]; exact z32_size); exact o1; intro w12 hg4 hb4 hs4))
        refine bodyPost_ret (results_cell_row Tryd.results70 _ _ (w.heap.size + 1) 23 _ (0, 0) _ rfl hg4 hu rfl (by rw [z1]; exact size32)) rfl ⟨rfl, W3.out.grown hb4 W3.out.size (by intro k hk; injection hk with hk; omega)⟩
      refine AllReadyH.cons (o := _) rfl (fun K hK => ?_) ?_
      · skip
        refine step_alloc_row rfl 23 rfl z32 info32 ?_
        intro g6 w8 b6 e6 hB
        have m6 := Nat.le_trans hHeld.size b6
        try have n67 : g6 ≠ g7 := fun h => by have := block_lt e7; omega
        try replace e7 := (hB.block _ (block_lt e7)).trans e7
        refine hK.out _ _ ?_ (fun hHeld => ?_)
        · exact hHeld.trans (hB.mono hHeld.size)
        clear hK K
        try simp only [Act.put, List.setIfInBounds_toArray, List.set_cons_zero, List.set_cons_succ, List.getElem_toArray, List.getElem_cons_succ, List.getElem_cons_zero]
        refine wpAnyH_ready (rs := [7]) (by kernel_rfl) (by simp) ?_
        refine AllReadyH.cons (o := _) rfl (fun K hK => ?_) AllReadyH.nil
        go_simp
        refine (i1.out _ (r7.out.bel hHeld) (T7.out.bel hHeld l7.out)).mono ?_
        rintro e w8 ⟨rfl, hB⟩
        try replace e6 := (hB.block _ (block_lt e6)).trans e6
        try replace e7 := (hB.block _ (block_lt e7)).trans e7
        go_wp2_with fail
        refine hK.out _ _ ?_ (fun hHeld => ?_)
        · exact hHeld.trans (hB.mono hHeld.size)
        clear hK K
        try simp only [Act.put, List.setIfInBounds_toArray, List.set_cons_zero, List.set_cons_succ, List.getElem_toArray, List.getElem_cons_succ, List.getElem_cons_zero]
        refine wpAnyH_ready (rs := [10]) (by kernel_rfl) (by simp) ?_
        refine AllReadyH.cons (o := _) rfl (fun K hK => ?_) AllReadyH.nil
        refine step_store_row rfl 23 (.tmp 7) (.tmp 34) rfl g6 _ rfl rfl 23 z32 e6 (by rw [y0]; exact size32) (by rw [y0]; exact z32_size) p0 ?_
        intro w8 d6 hG
        replace e7 := (hG.block _ (block_lt e7) (by simpa using n67.symm)).trans e7
        refine hK.out _ _ ?_ (fun hHeld => ?_)
        · exact hHeld.grown hG hHeld.size (by intro k hk; injection hk with hk; omega)
        clear hK K
        try simp only [Act.put, List.setIfInBounds_toArray, List.set_cons_zero, List.set_cons_succ, List.getElem_toArray, List.getElem_cons_succ, List.getElem_cons_zero]
        refine wpAnyH_ready (rs := [11]) (by kernel_rfl) (by simp) ?_
        refine AllReadyH.cons (o := _) rfl (fun K hK => ?_) AllReadyH.nil
        refine step_store_row rfl 23 (.tmp 8) (.tmp 38) rfl g7 _ rfl rfl 23 z32 e7 (by rw [y1]; exact size32) (by rw [y1]; exact z32_size) p1 ?_
        intro w9 d7 hG
        replace d6 := (hG.block _ (block_lt d6) (by simpa using n67)).trans d6
        refine hK.out _ _ ?_ (fun hHeld => ?_)
        · exact hHeld.grown hG hHeld.size (by intro k hk; injection hk with hk; omega)
        clear hK K
        try simp only [Act.put, List.setIfInBounds_toArray, List.set_cons_zero, List.set_cons_succ, List.getElem_toArray, List.getElem_cons_succ, List.getElem_cons_zero]
        refine wpAnyH_done (by kernel_rfl) ?_ _
        refine NoPanic.normal ?_
        have hz9 := hid ((hHeld.block _ (block_lt h7.out)).trans h7.out)
        have W9 := hid (W7.out.trans (hHeld.mono W7.out.size))
        have hT9 := hid (T7.out.bel hHeld l7.out)
        have l9 := hid (Nat.lt_of_lt_of_le l7.out hHeld.size)
        have D6 := hid (rd_blockP d6)
        have D7 := hid (rd_blockP d7)
        clear r7 h7 W7 T7 l7 c0 c1 al7 i0 i1 d6 d7 hHeld
        try clear hB
        try clear hG
        try clear e6 e7
        go_wp2_with fail
        go_still_tail 2, (by kernel_rfl)
        have B2 := (ext_alloc w9 (.cells #[.slice (some ⟨g6, 0, none⟩) 32 32, .slice (some ⟨g7, 0, none⟩) 32 32] 24)).trans ((bel_drew (w9.alloc (.cells #[.slice (some ⟨g6, 0, none⟩) 32 32, .slice (some ⟨g7, 0, none⟩) 32 32] 24))).mono (ext_alloc w9 _).size)
        have hR2 := hid ((hR.out _ _ _ D6.out D7.out).bel (bel_drew _))
        have hT2 := hid (hT9.out.bel B2 l9.out)
        replace hz9 := hid ((B2.block _ (block_lt hz9.out)).trans hz9.out)
        replace W9 := hid (W9.out.trans (B2.mono W9.out.size))
        clear B2 D6 D7 hT9 hR
        go_wp2_with fail
        refine (hO.out _ _ hR2.out hT2.out).mono ?_
        rintro e w10 ⟨rfl, hb10⟩
        have R3 := hid ((hb10.block _ (block_lt hz9.out)).trans hz9.out)
        have W3 := hid (W9.out.trans (hb10.mono W9.out.size))
        clear hb10
        go_wp2_with (first
          | ((with_reducible refine wpList_store_row rfl 23 (.tmp 4) (.tmp 42) rfl _ _ rfl rfl 23 z32 ?_ ?_ ?_ ?_ ?_); exact R3.out; (rw [z1]; exact size32); (rw [z1]; exact z32_size); exact o1; intro w12 hg4 hb4 hs4))
        refine bodyPost_ret (results_cell_row Tryd.results70 _ _ (w.heap.size + 1) 23 _ (0, 0) _ rfl hg4 hu rfl (by rw [z1]; exact size32)) rfl ⟨rfl, W3.out.grown hb4 W3.out.size (by intro k hk; injection hk with hk; omega)⟩
      exact AllReadyH.nil
    refine AllReadyH.cons (o := _) rfl (fun K hK => ?_) ?_
    · skip
      refine step_alloc_row rfl 23 rfl z32 info32 ?_
      intro g6 w8 b6 e6 hB
      have m6 := Nat.le_trans hHeld.size b6
      try have n67 : g6 ≠ g7 := fun h => by have := block_lt e7; omega
      try replace e7 := (hB.block _ (block_lt e7)).trans e7
      refine hK.out _ _ ?_ (fun hHeld => ?_)
      · exact hHeld.trans (hB.mono hHeld.size)
      clear hK K
      try simp only [Act.put, List.setIfInBounds_toArray, List.set_cons_zero, List.set_cons_succ, List.getElem_toArray, List.getElem_cons_succ, List.getElem_cons_zero]
      refine wpAnyH_ready (rs := [3]) (by kernel_rfl) (by simp) ?_
      refine AllReadyH.cons (o := _) rfl (fun K hK => ?_) AllReadyH.nil
      go_simp
      refine (i0.out _ (r7.out.bel hHeld) (T7.out.bel hHeld l7.out)).mono ?_
      rintro e w8 ⟨rfl, hB⟩
      try replace e6 := (hB.block _ (block_lt e6)).trans e6
      try replace e7 := (hB.block _ (block_lt e7)).trans e7
      go_wp2_with fail
      refine hK.out _ _ ?_ (fun hHeld => ?_)
      · exact hHeld.trans (hB.mono hHeld.size)
      clear hK K
      try simp only [Act.put, List.setIfInBounds_toArray, List.set_cons_zero, List.set_cons_succ, List.getElem_toArray, List.getElem_cons_succ, List.getElem_cons_zero]
      refine wpAnyH_ready (rs := [7]) (by kernel_rfl) (by simp) ?_
      refine AllReadyH.cons (o := _) rfl (fun K hK => ?_) AllReadyH.nil
      go_simp
      refine (i1.out _ (r7.out.bel hHeld) (T7.out.bel hHeld l7.out)).mono ?_
      rintro e w8 ⟨rfl, hB⟩
      try replace e6 := (hB.block _ (block_lt e6)).trans e6
      try replace e7 := (hB.block _ (block_lt e7)).trans e7
      go_wp2_with fail
      refine hK.out _ _ ?_ (fun hHeld => ?_)
      · exact hHeld.trans (hB.mono hHeld.size)
      clear hK K
      try simp only [Act.put, List.setIfInBounds_toArray, List.set_cons_zero, List.set_cons_succ, List.getElem_toArray, List.getElem_cons_succ, List.getElem_cons_zero]
      refine wpAnyH_ready (rs := [10]) (by kernel_rfl) (by simp) ?_
      refine AllReadyH.cons (o := _) rfl (fun K hK => ?_) AllReadyH.nil
      refine step_store_row rfl 23 (.tmp 7) (.tmp 34) rfl g6 _ rfl rfl 23 z32 e6 (by rw [y0]; exact size32) (by rw [y0]; exact z32_size) p0 ?_
      intro w8 d6 hG
      replace e7 := (hG.block _ (block_lt e7) (by simpa using n67.symm)).trans e7
      refine hK.out _ _ ?_ (fun hHeld => ?_)
      · exact hHeld.grown hG hHeld.size (by intro k hk; injection hk with hk; omega)
      clear hK K
      try simp only [Act.put, List.setIfInBounds_toArray, List.set_cons_zero, List.set_cons_succ, List.getElem_toArray, List.getElem_cons_succ, List.getElem_cons_zero]
      refine wpAnyH_ready (rs := [11]) (by kernel_rfl) (by simp) ?_
      refine AllReadyH.cons (o := _) rfl (fun K hK => ?_) AllReadyH.nil
      refine step_store_row rfl 23 (.tmp 8) (.tmp 38) rfl g7 _ rfl rfl 23 z32 e7 (by rw [y1]; exact size32) (by rw [y1]; exact z32_size) p1 ?_
      intro w9 d7 hG
      replace d6 := (hG.block _ (block_lt d6) (by simpa using n67)).trans d6
      refine hK.out _ _ ?_ (fun hHeld => ?_)
      · exact hHeld.grown hG hHeld.size (by intro k hk; injection hk with hk; omega)
      clear hK K
      try simp only [Act.put, List.setIfInBounds_toArray, List.set_cons_zero, List.set_cons_succ, List.getElem_toArray, List.getElem_cons_succ, List.getElem_cons_zero]
      refine wpAnyH_done (by kernel_rfl) ?_ _
      refine NoPanic.normal ?_
      have hz9 := hid ((hHeld.block _ (block_lt h7.out)).trans h7.out)
      have W9 := hid (W7.out.trans (hHeld.mono W7.out.size))
      have hT9 := hid (T7.out.bel hHeld l7.out)
      have l9 := hid (Nat.lt_of_lt_of_le l7.out hHeld.size)
      have D6 := hid (rd_blockP d6)
      have D7 := hid (rd_blockP d7)
      clear r7 h7 W7 T7 l7 c0 c1 al7 i0 i1 d6 d7 hHeld
      try clear hB
      try clear hG
      try clear e6 e7
      go_wp2_with fail
      go_still_tail 2, (by kernel_rfl)
      have B2 := (ext_alloc w9 (.cells #[.slice (some ⟨g6, 0, none⟩) 32 32, .slice (some ⟨g7, 0, none⟩) 32 32] 24)).trans ((bel_drew (w9.alloc (.cells #[.slice (some ⟨g6, 0, none⟩) 32 32, .slice (some ⟨g7, 0, none⟩) 32 32] 24))).mono (ext_alloc w9 _).size)
      have hR2 := hid ((hR.out _ _ _ D6.out D7.out).bel (bel_drew _))
      have hT2 := hid (hT9.out.bel B2 l9.out)
      replace hz9 := hid ((B2.block _ (block_lt hz9.out)).trans hz9.out)
      replace W9 := hid (W9.out.trans (B2.mono W9.out.size))
      clear B2 D6 D7 hT9 hR
      go_wp2_with fail
      refine (hO.out _ _ hR2.out hT2.out).mono ?_
      rintro e w10 ⟨rfl, hb10⟩
      have R3 := hid ((hb10.block _ (block_lt hz9.out)).trans hz9.out)
      have W3 := hid (W9.out.trans (hb10.mono W9.out.size))
      clear hb10
      go_wp2_with (first
        | ((with_reducible refine wpList_store_row rfl 23 (.tmp 4) (.tmp 42) rfl _ _ rfl rfl 23 z32 ?_ ?_ ?_ ?_ ?_); exact R3.out; (rw [z1]; exact size32); (rw [z1]; exact z32_size); exact o1; intro w12 hg4 hb4 hs4))
      refine bodyPost_ret (results_cell_row Tryd.results70 _ _ (w.heap.size + 1) 23 _ (0, 0) _ rfl hg4 hu rfl (by rw [z1]; exact size32)) rfl ⟨rfl, W3.out.grown hb4 W3.out.size (by intro k hk; injection hk with hk; omega)⟩
    exact AllReadyH.nil
  exact AllReadyH.nil
end Go.Proofs.YtbblokhpoempbaaDoor
