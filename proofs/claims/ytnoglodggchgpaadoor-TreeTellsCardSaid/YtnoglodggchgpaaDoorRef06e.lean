/-
  The document's answers of layer 6: Twin.
-/
import Derived.Test.YtnoglodggchgpaaDoorRef06b
import Derived.Test.YtnoglodggchgpaaDoorRef06c
import Derived.Test.YtnoglodggchgpaaDoorBits
namespace Go.Proofs.YtnoglodggchgpaaDoor
open Go.RowKit
set_option linter.unusedVariables false
set_option linter.unusedSimpArgs false
set_option maxRecDepth 100000

theorem boxesTT (w : World) (A : Option Addr) (n c : Nat) (root : Int) :
    BoxT ((w.alloc (.cells #[.slice A n c, .int .i64 root] 44)).alloc (.cells zTrC 44)) w.heap.size A n c root ∧
    ((w.alloc (.cells #[.slice A n c, .int .i64 root] 44)).alloc (.cells zTrC 44)).heap[w.heap.size + 1]? = some (.cells zTrC 44) ∧
    Below w.heap.size w ((w.alloc (.cells #[.slice A n c, .int .i64 root] 44)).alloc (.cells zTrC 44)) ∧
    ((w.alloc (.cells #[.slice A n c, .int .i64 root] 44)).alloc (.cells zTrC 44)).heap.size = w.heap.size + 2 := by
  have h2 := heap_alloc_new (w.alloc (.cells #[.slice A n c, .int .i64 root] 44)) (.cells zTrC 44)
  rw [World.size_alloc] at h2
  exact ⟨(BoxT.new w A n c root _).bel (ext_alloc _ _), h2, ext_trans (ext_alloc _ _) (ext_alloc _ _), by simp⟩
set_option maxHeartbeats 2000000 in
theorem RTwinT_any (F : Nat → Prop) (A : Option Addr) (c : Nat) (ns : List Nd) (root : Int) (w : World) (hr : Row F w A ns) (hc : ns.length ≤ 1000000) (hv : ∀ x ∈ ns, x.v.length ≤ 1000000) :
    Calls Tryd.prog 32 #[.agg #[.slice A ns.length c, .int .i64 root]] w fun e w' => ∃ A' c', e = .returned (.agg #[.slice A' ns.length c', .int .i64 root]) ∧ OwnR 50 w' w.heap.size A' c' ns ∧ Below w.heap.size w w' := by
  obtain ⟨T0, h1, W0, hsz⟩ := boxesTT w A ns.length c root
  have hr0 := (hr.mono (G := fun b => b < w.heap.size) fun b _ h => h).bel W0
  have hun := Tryd.underlying50
  have hut := Tryd.underlying44
  have y0 := T0.rt
  have hbu := hid (built_tr root)
  replace h1 := hid h1
  replace hsz := hid hsz
  replace hr0 := hid hr0
  replace T0 := hid T0
  replace hv := hid hv
  go_enter Tryd.func32, Tryd.ntmps32
  go_wp2_with (first
    | (with_reducible refine wpList_alloc_row rfl 44 rfl zTrC zInfoTr ?_)
    | ((with_reducible refine wpList_built rfl 44 _ rfl #[Value.slice none 0 0, .int .i64 root] [(1, .int .i64 root)] ?_ ?_ ?_); exact hbu.out; rfl)
    | ((with_reducible refine wpList_store_row rfl 44 (.tmp 3) (.tmp 8) rfl _ _ rfl rfl 44 zTrC ?_ ?_ ?_ ?_ ?_); (first | exact heap_alloc_new _ _ | (have e := heap_alloc_new ((w.alloc (.cells #[.slice A ns.length c, .int .i64 root] 44)).alloc (.cells zTrC 44)) (.cells zTrC 44); simp only [World.size_alloc] at e; exact e)); exact sizeTr; rfl; exact one_tr none 0 0 root; intro w1 hg1 hb1 hs1; try simp only [World.size_alloc] at hg1 hb1 hs1; have X1 := hid (xnew_ (by simp) hb1)))
  generalize (w.alloc (.cells #[.slice A ns.length c, .int .i64 root] 44)).alloc (.cells zTrC 44) = w0 at *
  have W1 := hid (W0.trans (X1.out.mono W0.size))
  have T1 := T0.out.bel X1.out
  have r1 := hid (hr0.out.bel X1.out)
  have z1 := hid ((X1.out.block _ (block_lt h1.out)).trans h1.out)
  have s1 : w1.heap.size = w.heap.size + 3 := hs1
  clear hb1 X1 h1 hr0 T0 hs1 hsz W0 y0
  replace s1 := hid s1
  go_loopw [4] (fun i wr => ∃ (j : Nat) (A6 : Option Addr) (c6 : Nat), j ≤ ns.length ∧ i = .int .i64 j ∧ wr.heap[w.heap.size + 1 + 1]? = some (.cells #[.slice A6 (ns.take j).length c6, .int .i64 root] 44 (0, 0)) ∧ OwnR 50 wr w1.heap.size A6 c6 (ns.take j) ∧ Below (w.heap.size + 1 + 1) w1 wr) (fun i _ => ns.length - (intOf i).toNat)
  case atStart => exact ⟨0, none, 0, Nat.zero_le _, rfl, hg1, OwnR.nil _ _, Below.refl _ _⟩
  case round =>
    obtain ⟨j, A6, c6, hj, rfl, hgr, hown, hbw⟩ := hrel
    have T2 := BoxT.of (rangeAt_kept T1.all (fun _ => hbw.block _ (by omega)))
    have r2 := r1.out.kept (fun b hb _ => hbw.block b (by omega)) hbw.size
    have y2 := T2.ns
    have hxl : (ns.take j).length = j := by rw [List.length_take]; omega
    by_cases hlt : j < ns.length
    · have E := hid (List.take_succ_eq_append_getElem hlt)
      have hv1 := hv.out _ (List.getElem_mem hlt)
      obtain ⟨q, o, hAe, A', c', hR, hv2, hv3, hv4, hI1, hI2⟩ := row_nd r2 hlt
      subst hAe
      have hiN := fun A2 c2 => hid (show (Tryd.prog.info? 50).map (·.size) = some (ndC ns[j] A2 c2).length by rw [len_nd]; exact sizeNd)
      have hiS := fun A2 c2 => hid (show (Tryd.prog.info? 50).map (·.size) = some (ndC ns[j] A2 c2).toArray.size by rw [List.size_toArray, len_nd]; exact sizeNd)
      have hzs := fun A2 c2 => hid (show zNdC.size = (ndC ns[j] A2 c2).toArray.size by rw [zSizeNd, List.size_toArray, len_nd])
      have hone := fun A2 c2 => hid (one_nd ns[j] A2 c2)
      have hset := fun A2 c2 => nd_setR ns[j] A' A2 c' c2
      have hlN := fun A2 c2 => hid (show (ndC ns[j] A2 c2).length = Enc.size Nd from len_nd ns[j] A2 c2)
      have hbk := hid hown.blk
      have hz9 := hid (heap_alloc_new wr (.cells zNdC 50))
      have hrd := hid hv4.rd
      have hrn := fun (W : World) (A2 : Option Addr) (c2 B : Nat) (h : Own 5 W B A2 c2 ns[j].v) => rep_nd_own ns[j] h hI1 hI2
      have hTw := fun W (hW : Rd W A' ns[j].v) => Twin_any A' ns[j].v.length c' ns[j].v W hW rfl (by omega)
      have hBN := fun (W : World) (g : Nat) (tt : TypeId) (h : W.heap[g]? = some (.cells (ndC ns[j] A' c').toArray tt (0, 0))) => BoxN.heap h
      have hsw := hid hbw.size
      generalize hy : ns.take (j + 1) = y at *
      generalize hx0 : ns.take j = x0 at *
      generalize hxx : ns[j] = x at *
      replace hy := hid hy
      replace hgr := hid hgr
      replace hown := hid hown
      replace hbw := hid hbw
      replace hR := hid hR
      replace hTw := hid hTw
      replace hBN := hid hBN
      replace hset := hid hset
      replace hrn := hid hrn
      replace hxl := hid hxl
      clear hx0 hxx hv4 hv2 hv3 r2 T2 hI1 hI2
      go_wp2_with (first
        | (with_reducible refine wpList_alloc_row rfl 50 rfl zNdC zInfoNd ?_)
        | ((with_reducible refine wpList_load_rng rfl 50 (.tmp 19) rfl q (o + j * 36) rfl (ndC x A' c') _ ?_ hun rfl (hiN A' c').out ?_); exact hR.out)
        | ((with_reducible refine wpList_store_row rfl 50 (.tmp 5) (.tmp 20) rfl _ _ rfl rfl 50 zNdC ?_ ?_ ?_ ?_ ?_); exact hz9.out; exact (hiS A' c').out; exact (hzs A' c').out; exact (hone A' c').out; intro w4 hg4 hb4 hs4; have X4 := hid (xnew_ rfl hb4); have N4 := hBN.out _ _ _ hg4; have y4 := N4.val; have G4 := hid hg4; clear hg4 hb4 hs4))
      refine (hTw.out _ (hrd.out.bel X4.out)).mono ?_
      rintro e w5 ⟨A5, c5, rfl, ho5, hb5⟩
      have g5 := (hb5.block _ (block_lt G4.out)).trans G4.out
      have lt4 := hid (block_lt G4.out)
      have f5 := block_frozen g5 33
      have k5 := (hb5.cell (World.block_lt_of_cell? _ _ y4)).trans y4
      have g6 := block_set g5 33 (.slice A5 x.v.length c5)
      rw [hset.out] at g6
      have G6 := hid (rangeOf g6)
      have Wa := hid (X4.out.trans (hb5.mono X4.out.size))
      have B6 := hid (Wa.out.setCell (p := ⟨wr.heap.size, 33, none⟩) (Nat.le_refl _) (.slice A5 x.v.length c5))
      have own6 := hid (hown.out.bel B6.out)
      have o6 : Own 5 (w5.setCell ⟨wr.heap.size, 33, none⟩ (.slice A5 x.v.length c5)) w4.heap.size A5 c5 x.v := ownsRow_setCell_below ho5 lt4.out _
      have gr6 := (B6.out.block _ (block_lt hgr.out)).trans hgr.out
      have cg6 := (block_cell gr6 0)
      have s6 := hid (show w1.heap.size ≤ w5.heap.size from Nat.le_trans hsw.out Wa.out.size)
      replace o6 := hid o6
      have Gr6 := hid gr6
      have ltg := hid (block_lt hgr.out)
      clear y4 N4 g5 g6 G4 ho5 hb5 gr6 hown hset hBN hTw hrd hR
      simp only [List.getElem?_toArray, List.getElem?_cons_zero] at cg6
      go_wp2_with (first
        | ((with_reducible refine wpList_load_rng rfl 50 (.tmp 5) rfl wr.heap.size 0 rfl (ndC x A5 c5) _ ?_ hun rfl (hiN A5 c5).out ?_); exact G6.out)
        | ((with_reducible refine wpList_buildOne slotNd (by decide) rfl (.tmp 27) rfl (ndC x A5 c5) ?_ (hlN A5 c5).out ?_); rfl)
        | (at_builtin; refine wpList_appOwn slotNd rfl (.tmp 26) (.tmp 28) rfl w1.heap.size w1.heap.size A6 _ x0.length 1 c6 1 x0 [x] (fun b => ∃ a, A5 = some a ∧ b = a.block) rfl rfl rfl rfl (own6.out.alloc _) (src_alloc (hrn.out _ A5 c5 _ o6.out)) (fun b hb => by obtain ⟨a, ha, rfl⟩ := hb; exact ⟨Nat.le_trans hsw.out (Nat.le_trans (Nat.le_of_lt lt4.out) (o6.out.blk a ha).1), (o6.out.soft a ha).2.kept ((ext_alloc _ _).block _ (o6.out.soft a ha).2.lt), fun a6 h6 e6 => by have h7 := (hbk.out a6 h6).2; have h8 := (o6.out.blk a ha).1; have h9 := lt4.out; omega⟩) (by have := hxl.out; simp only [List.length_singleton]; omega) (Nat.le_trans hsw.out (Nat.le_trans B6.out.size (ext_alloc _ _).size)) ?_; intro A8 c8 w8 ho8 hb8; have gr8 := (hb8.block (w.heap.size + 1 + 1) (by have := s1.out; omega)).trans (((ext_alloc _ _).block _ (block_lt Gr6.out)).trans Gr6.out); have fg8 := block_frozen gr8 0; have cg8 := block_cell gr8 0; simp only [List.getElem?_toArray, List.getElem?_cons_zero] at cg8; have own8 := hid ho8; have W8 := hid (hbw.out.trans (((B6.out.mono (Nat.le_of_lt ltg.out)).trans ((ext_alloc _ (.cells (ndC x A5 c5).toArray 50)).mono (Nat.le_trans (Nat.le_of_lt ltg.out) B6.out.size))).trans (hb8.mono (by have := s1.out; omega)))); have Gr8 := hid gr8; clear gr8 ho8 hb8))
      go_roundw
      case rel =>
        refine ⟨j + 1, A8, c8, by omega, by go_num, ?_, ?_, W8.out.setCell (p := ⟨w.heap.size + 1 + 1, 0, none⟩) (Nat.le_refl _) _⟩
        · have h9 := block_set Gr8.out 0 (Value.slice A8 (x0.length + 1) c8)
          rw [hy.out, E.out, List.length_append]
          exact h9
        · rw [hy.out, E.out]
          exact OwnQ.keptG (g := w.heap.size + 1 + 1) own8.out (fun b hl hne => Below.heap_setCell _ _ _ _ hne) (by have := s1.out; omega) (by have := s1.out; omega)
      case measure => simp [intOf]; omega
    · obtain rfl : j = ns.length := by omega
      rw [List.take_length] at hgr hown
      have G8 := hid (rangeOf (l := [Value.slice A6 ns.length c6, .int .i64 root]) hgr)
      have z8 := hid ((hbw.block (w.heap.size + 1) (by omega)).trans z1.out)
      have hi8 := hid (show (Tryd.prog.info? 44).map (·.size) = some ([Value.slice A6 ns.length c6, .int .i64 root]).length from sizeTr)
      have W8 := hid (W1.out.trans (hbw.mono (by omega)))
      have own8 := hid hown
      clear hgr hown hxl
      go_wp2_with (first
        | ((with_reducible refine wpList_load_rng rfl 44 (.tmp 3) rfl (w.heap.size + 1 + 1) 0 rfl [Value.slice A6 ns.length c6, .int .i64 root] _ ?_ hut rfl hi8.out ?_); exact G8.out)
        | ((with_reducible refine wpList_store_row rfl 44 (.tmp 2) (.tmp 31) rfl (w.heap.size + 1) _ rfl rfl 44 zTrC ?_ ?_ ?_ ?_ ?_); exact z8.out; exact sizeTr; rfl; exact one_tr A6 ns.length c6 root; intro w9 hg9 hb9 hs9))
      exact bodyPost_ret (results_cell_row Tryd.results32 _ _ (w.heap.size + 1) 44 _ (0, 0) _ rfl hg9 hut rfl sizeTr) rfl ⟨A6, c6, rfl, OwnR.base (OwnQ.keptG own8.out (fun b hl hne => hb9.block b hl (fun e => hne (by injection e))) (by have := s1.out; omega) (by have := s1.out; omega)) W1.out.size, W8.out.grown hb9 W8.out.size (fun g e => by injection e with e; omega)⟩
end Go.Proofs.YtnoglodggchgpaaDoor
