/-
  Layer 7's law: the chapter's tree, a leaf's sum, the chapter's first example.
-/
import Derived.Test.YtfjkcdccnbggnaaDoorTwoT
import Derived.Test.YtfjkcdccnbggnaaDoorTreeLq
import Derived.Test.YtfjkcdccnbggnaaDoorConvC
import Derived.Test.YtfjkcdccnbggnaaDoorBits
import Derived.Test.YtfjkcdccnbggnaaDoorPfK
import Derived.Test.YtfjkcdccnbggnaaDoorPfC
import Derived.Test.YtfjkcdccnbggnaaDoorRef07b
namespace Go.Proofs.YtfjkcdccnbggnaaDoor
open Go.RowKit
set_option linter.unusedVariables false
set_option linter.unusedSimpArgs false
set_option maxRecDepth 100000

theorem slotU8b : Slot Tryd.prog UInt8 24 5 (.int .u8 0) 1 where
  under := Tryd.underlying24
  info := by kernel_rfl
  zero := rfl
  pos := by decide
theorem one_trV (A : Option Addr) (n c : Nat) (root : Int) : (#[Value.slice A n c, .int .i64 root] : Array Value).all (·.oneCell') = true := all_oneCell_toArray (cs := [Value.slice A n c, .int .i64 root]) fun u hu => by
  simp only [List.mem_cons, List.not_mem_nil, or_false] at hu
  rcases hu with rfl | rfl <;> rfl
set_option maxHeartbeats 2000000 in
theorem two_any (w : World) : Calls Tryd.prog 31 #[] w fun e w' => ∃ A c, e = .returned (.agg #[.slice A twoT.ns.length c, .int .i64 twoT.root]) ∧ Row (fun b => w.heap.size ≤ b) w' A twoT.ns ∧ Below w.heap.size w w' := by
  have hd3 := hid (built_dg1 3)
  have hd200 := hid (built_dg1 200)
  have hb0 := hid built_tr0
  have hut := Tryd.underlying44
  have kc := fun o C n c => conv_lit2 w o C n c
  have z0' := heap_alloc_new w (.cells zTrC 44)
  have B1 := ext_alloc w (.cells zTrC 44)
  have B2 := ext_alloc (w.alloc (.cells zTrC 44)) (.cells #[.int .u8 97] 5 (1, 2))
  have W2 := hid (B1.trans (B2.mono B1.size))
  have z2 := hid ((B2.block _ (by simp)).trans z0')
  have hrd := Rd.litf (w.alloc (.cells zTrC 44)) 5 [97] #[.int .u8 97] (w.heap.size + 1) (1, 2) (World.size_alloc _ _) rfl
  have hP1 := hid (show Calls Tryd.prog 20 #[.agg zTrC, .agg ((dfst 3).1.map bv).toArray, .slice (some ⟨w.heap.size + 1, 0, none⟩) 1 1] ((w.alloc (.cells zTrC 44)).alloc (.cells #[.int .u8 97] 5 (1, 2))) _ from PTPut_any (fun _ => False) none (some ⟨w.heap.size + 1, 0, none⟩) 0 1 [] 0 (dfst 3) [97] _ (Row.nil _ _ _) (by decide) hrd (by decide) (by decide))
  have hP2 := fun W A c V d hR hV h1 h2 => PTPut_any (fun b => w.heap.size ≤ b) A V c d oneT.ns oneT.root (dfst 200) [98] W hR (Nat.le_trans one_nodes (by decide)) hV h1 h2
  rw [show tputT ⟨oneT.ns, oneT.root⟩ (dfst 200) [98] = twoT from rfl] at hP2
  rw [show tputT ⟨[], 0⟩ (dfst 3) [97] = oneT from rfl] at hP1
  generalize tputE ⟨[], 0⟩ [97] = e1 at *
  generalize tputE ⟨oneT.ns, oneT.root⟩ [98] = e2 at *
  have l1 := hid one_nodes
  replace hP2 := hid hP2
  generalize oneT.ns = n1 at *
  generalize oneT.root = r1 at *
  generalize hn2 : twoT.ns = n2 at *
  generalize twoT.root = r2 at *
  generalize (dfst 3).1.map bv = d3 at *
  generalize (dfst 200).1.map bv = d200 at *
  clear hrd z0' B1 B2
  go_enter Tryd.func31, Tryd.ntmps31
  go_wp2_with (first
    | (with_reducible refine wpList_alloc_row rfl 44 rfl zTrC zInfoTr ?_)
    | ((with_reducible refine wpList_built rfl 44 _ rfl zTrC [] ?_ ?_ ?_); exact hb0.out; rfl)
    | ((with_reducible refine wpList_built rfl 23 _ rfl d3.toArray [(0, .int .u8 3)] ?_ ?_ ?_); exact hd3.out; rfl))
  refine hP1.out.mono ?_
  rintro e w3 ⟨A3, c3, rfl, ho, hb⟩
  have z3 := hid ((hb.block _ (block_lt z2.out)).trans z2.out)
  have W3 := hid (W2.out.trans (hb.mono W2.out.size))
  have o3 := hid ((OwnR.row ho).mono (G := fun b => w.heap.size ≤ b) fun b hb' _ => Nat.le_trans W2.out.size hb')
  have e3 := hid (heap_alloc_new w3 (.cells zTrC 44))
  have iO := hid (show (Tryd.prog.info? 44).map (·.size) = some ([Value.slice A3 n1.length c3, .int .i64 r1]).length from sizeTr)
  clear hb ho hP1 z2 W2 kc
  go_wp2_with (first
    | (with_reducible refine wpList_alloc_row rfl 44 rfl zTrC zInfoTr ?_)
    | ((with_reducible refine wpList_store_row rfl 44 (.tmp 1) (.tmp 9) rfl _ _ rfl rfl 44 zTrC ?_ ?_ ?_ ?_ ?_); exact e3.out; exact sizeTr; rfl; exact one_trV A3 n1.length c3 r1; intro w4 hgS hbS hsS; have X4 := hid (xnewP rfl hbS); have g4 := hid hgS; have z4 := hid ((X4.out.block _ (block_lt z3.out)).trans z3.out); have W4 := hid (W3.out.trans (X4.out.mono W3.out.size)); have o4 := hid (o3.out.bel X4.out); have kc4 := fun C n c => conv_lit w4 C n c; have l34 := hid (block_lt hgS); clear hgS hbS hsS)
    | ((with_reducible refine wpList_load_rng rfl 44 (.tmp 1) rfl w3.heap.size 0 rfl [Value.slice A3 n1.length c3, .int .i64 r1] _ ?_ hut rfl iO.out ?_); exact rangeOf g4.out)
    | ((with_reducible refine wpList_built rfl 23 _ rfl d200.toArray [(0, .int .u8 200)] ?_ ?_ ?_); exact hd200.out; rfl))
  have B5 := ext_alloc w4 (.cells #[.int .u8 98] 5 (1, 2))
  have hrd5 := Rd.litf w4 5 [98] #[.int .u8 98] w4.heap.size (1, 2) rfl rfl
  have g5 := hid ((B5.block _ (block_lt g4.out)).trans g4.out)
  have z5 := hid ((B5.block _ (block_lt z4.out)).trans z4.out)
  have W5 := hid (W4.out.trans (B5.mono W4.out.size))
  have o5 := hid (o4.out.bel B5)
  clear kc4 g4 z4 W4 o4 B5
  refine (hP2.out _ A3 c3 (some ⟨w4.heap.size, 0, none⟩) 1 o5.out hrd5 (by decide) (by decide)).mono ?_
  rintro e w6 ⟨A6, c6, rfl, ho, hb⟩
  have g6 := hid ((hb.block _ (block_lt g5.out)).trans g5.out)
  have z6 := hid ((hb.block _ (block_lt z5.out)).trans z5.out)
  have W6 := hid (W5.out.trans (hb.mono W5.out.size))
  have o6 := hid (OwnR.row ho)
  have s6 := hid (show w4.heap.size ≤ (w4.alloc (.cells #[.int .u8 98] 5 (1, 2))).heap.size by simp)
  have iQ := hid (show (Tryd.prog.info? 44).map (·.size) = some ([Value.slice A6 n2.length c6, .int .i64 r2]).length from sizeTr)
  have hlow := hid (show w.heap.size < w3.heap.size from block_lt z3.out)
  clear hb ho hP2 g5 z5 W5 o5 hrd5 z3
  generalize (w4.alloc (.cells #[.int .u8 98] 5 (1, 2))).heap.size = m5 at *
  go_wp2_with (first
    | ((with_reducible refine wpList_store_row rfl 44 (.tmp 1) (.tmp 17) rfl w3.heap.size _ rfl rfl 44 #[Value.slice A3 n1.length c3, .int .i64 r1] ?_ ?_ ?_ ?_ ?_); exact g6.out; exact sizeTr; rfl; exact one_trV A6 n2.length c6 r2; intro w7 hgS hbS hsS; have g7 := hid hgS; have H7 := hid (Chg.of_grown hbS); clear hgS hbS hsS)
    | ((with_reducible refine wpList_load_rng rfl 44 (.tmp 1) rfl w3.heap.size 0 rfl [Value.slice A6 n2.length c6, .int .i64 r2] _ ?_ hut rfl iQ.out ?_); exact rangeOf g7.out)
    | ((with_reducible refine wpList_store_row rfl 44 (.tmp 0) (.tmp 19) rfl w.heap.size _ rfl rfl 44 zTrC ?_ ?_ ?_ ?_ ?_); exact (H7.out.block _ (block_lt z6.out) (fun e => by injection e with e; have := hlow.out; omega)).trans z6.out; exact sizeTr; rfl; exact one_trV A6 n2.length c6 r2; intro w8 hg8 hb8 hs8))
  refine bodyPost_ret (results_cell_row Tryd.results31 _ _ w.heap.size 44 _ (0, 0) _ rfl hg8 hut rfl sizeTr) rfl ⟨A6, c6, rfl, ?_, ?_⟩
  · refine ((o6.out.chg H7.out (fun b hb _ e => by injection e with e; have hb : m5 ≤ b := hb; have := s6.out; have := l34.out; omega)).chg (Chg.of_grown hb8) (fun b hb _ e => by injection e with e; have hb : m5 ≤ b := hb; have := s6.out; have := l34.out; have := hlow.out; omega)).mono fun b hb _ => by have hb : m5 ≤ b := hb; have := s6.out; have := l34.out; have := hlow.out; show w.heap.size ≤ b; omega
  · exact (W6.out.trans (H7.out.below W6.out.size (fun b hb e => by injection e with e; have := hlow.out; omega))).grown hb8 (W6.out.trans (H7.out.below W6.out.size (fun b hb e => by injection e with e; have := hlow.out; omega))).size (fun g e => by injection e with e; omega)
set_option maxHeartbeats 2000000 in
theorem side_c (c u : UInt8) (x s : Value) (w : World) (hx : x = .int .u8 (c.toNat : Int)) (hs : s = .string (bstr [u])) (hT : Tab w) : Calls Tryd.prog 34 #[x, s] w fun e w' => ∃ A, e = .returned (.slice A 1 1) ∧ Row (fun b => w.heap.size ≤ b ∧ b < w'.heap.size) w' A [leafD c u] ∧ Below w.heap.size w w' := by
  subst hx hs
  have hcv := fun W => run_str_bytes u8s underU8 9 underStr [u] W
  have hd := hid (built_dg1 c)
  have hO := fun W A (hW : Rds W A [(dfst c).1, [u]]) hTW => TOf_any 1 A 2 2 [(dfst c).1, [u]] W hW rfl (by simp) (tag2_leP 1 (by rw [(dfst c).2]; decide) (by simp)) hTW
  rw [show sha256 (tagB 1 [(dfst c).1, [u]]) = (leafD c u).1 from rfl] at hO
  have hsl := run_all32P
  have zd : (((dfst c).1.map bv).toArray).size = 32 := by simp [(dfst c).2]
  have zo := bvs_all (dfst c).1
  have e1 := hid (heap_alloc_new w (.cells z32 23))
  have hRt := fun (W : World) (g : Nat) (A2 : Option Addr) (c2 : Nat) (h1 : Rd W (some ⟨g, 0, none⟩) (dfst c).1) (h2 : Rd W A2 [u]) (k : 1 ≤ c2 ∧ c2 ≤ maxLen) => rds_two W (some ⟨g, 0, none⟩) A2 32 c2 (dfst c).1 [u] 24 h1 h2 ⟨by rw [(dfst c).2]; omega, by unfold maxLen; omega⟩ k
  rw [(dfst c).2] at hRt
  have hlow := hid hT.low
  have hrb := fun (W : World) (g : Nat) (h : W.heap[g]? = some (.cells ((dfst c).1.map bv).toArray 23 (0, 0))) => rd_blockP h
  have hlf := hid (show ((leafD c u).1.map bv).length = Enc.size Dg by rw [List.length_map, (leafD c u).2]; rfl)
  have hrp := hid (fun (W : World) => (show Enc.rep (fun b => False) W (leafD c u) ((leafD c u).1.map bv) from rfl))
  generalize leafD c u = lf at *
  generalize hds : (dfst c).1.map bv = ds at *
  replace hO := hid hO
  replace hRt := hid hRt
  replace hrb := hid hrb
  replace hds := hid hds
  go_enter Tryd.func34, Tryd.ntmps34
  go_wp2_with (first
    | (with_reducible refine wpList_alloc_row rfl 23 rfl z32 info32 ?_)
    | ((with_reducible refine wpList_built rfl 23 _ rfl ds.toArray [(0, .int .u8 (c.toNat : Int))] ?_ ?_ ?_); exact hd.out; rfl)
    | ((with_reducible refine wpList_store_row rfl 23 (.tmp 5) (.tmp 7) rfl _ _ rfl rfl 23 z32 ?_ ?_ ?_ ?_ ?_); exact e1.out; (rw [zd]; exact size32); (rw [zd]; exact z32_size); exact zo; intro w2 hgS hbS hsS; have X2 := hid (xnewP rfl hbS); have g2 := hid hgS; clear hgS hbS hsS))
  have B3 := bytesWorld_bel w2 5 (bstr [u])
  have R3 := bytesWorld_rd w2 5 [u]
  have hg1 := grownCap_ge w2 1 0 5
  have hg2 := grownCap_le_maxLen w2 1 0 5 (by decide)
  generalize grownCap w2 1 0 5 = gc at *
  generalize Lib.bytesWorld w2 5 (bstr [u]) = w3 at *
  have g3 := (B3.block _ (block_lt g2.out)).trans g2.out
  have hRt2 := hRt.out w3 w.heap.size (some ⟨w2.heap.size, 0, none⟩) gc (hrb.out w3 w.heap.size g3) R3 ⟨hg1, hg2⟩
  have B4 := ext_alloc w3 (.cells #[.slice (some ⟨w.heap.size, 0, none⟩) 32 32, .slice (some ⟨w2.heap.size, 0, none⟩) 1 gc] 24)
  have W4 := hid ((X2.out.trans (B3.mono X2.out.size)).trans (B4.mono (X2.out.trans (B3.mono X2.out.size)).size))
  have T4 := hid (hT.bel W4.out hlow.out)
  clear B3 R3 hg1 hg2 g3 B4 g2 X2 hcv hRt hrb
  refine (hO.out _ _ hRt2 T4.out).mono ?_
  rintro e w5 ⟨rfl, hb⟩
  have W5 := hid (W4.out.trans (hb.mono W4.out.size))
  clear hb hRt2 T4 W4 hO
  generalize lf.1.map bv = dl at *
  go_wp2_with (first
    | ((with_reducible refine wpList_buildOne slotDg (by decide) rfl (.tmp 12) rfl dl ?_ ?_ ?_); rfl; exact hlf.out))
  go_ret
  have B6 := ext_alloc w5 (.cells dl.toArray 23)
  refine ⟨some ⟨w5.heap.size, 0, none⟩, rfl, fun _ => ?_, W5.out.trans (B6.mono W5.out.size)⟩
  obtain ⟨b, o, hA, hc⟩ := (src_alloc (E := 23) (hrp.out w5)) (by simp)
  injection hA with hA
  injection hA with h1 h2
  subst h1 h2
  exact ⟨w5.heap.size, 0, rfl, ⟨W5.out.size, by simp⟩, by simp, hc.mono fun b hb _ => hb.elim⟩
theorem side_is (x s : Value) (w : World) (hx : x = .int .u8 200) (hs : s = .string (bstr [98])) (hT : Tab w) : Calls Tryd.prog 34 #[x, s] w fun e w' => ∃ A, e = .returned (.slice A 1 1) ∧ Row (fun b => w.heap.size ≤ b ∧ b < w'.heap.size) w' A [leafD 200 98] ∧ Below w.heap.size w w' := side_c 200 98 x s w hx hs hT
theorem built_pf4 (k : Dg) (e : UInt8) (v : List UInt8) (A : Option Addr) (c : Nat) (L : List Dg) (D : Option Addr) (d : Nat) : Tryd.prog.built 61 [(0, .agg (k.1.map bv).toArray), (1, bv e), (3, .slice A v.length c), (4, .slice D L.length d)] = some (pfC ⟨k, e, z0, v, L⟩ A c D d).toArray := by
  have hk : (k.1.map bv).length = 32 := by rw [List.length_map]; exact k.2
  have hz : (z0.1.map bv).length = 32 := by rw [List.length_map]; exact z0.2
  have c1 : (Value.agg (k.1.map bv).toArray).cells = (k.1.map bv).toArray := rfl
  have c2 : (Value.slice D L.length d).cells = #[Value.slice D L.length d] := rfl
  have c3 : (Value.slice A v.length c).cells = #[Value.slice A v.length c] := rfl
  have c4 : (bv e).cells = #[bv e] := rfl
  rw [built_places placesPf, fill_cons (off := 0) (by rw [c1, List.size_toArray, hk]; rfl) (by rw [c1, List.size_toArray, hk]; decide +kernel)]
  have e0 : lay zPf.cells.toList 0 (Value.agg (k.1.map bv).toArray).cells.toList = k.1.map bv ++ ([bv 0] ++ (z0.1.map bv ++ ([Value.slice none 0 0] ++ [Value.slice none 0 0]))) := by
    rw [zPf_list, c1]
    exact lay_mid [] (z0.1.map bv) _ (k.1.map bv) (by rw [hk, hz])
  rw [e0, fill_cons (off := 32) (by rw [c4]; rfl) (by rw [c4]; simp [hk, hz])]
  have e1 : lay (k.1.map bv ++ ([bv 0] ++ (z0.1.map bv ++ ([Value.slice none 0 0] ++ [Value.slice none 0 0])))) 32 (bv e).cells.toList = k.1.map bv ++ ([bv e] ++ (z0.1.map bv ++ ([Value.slice none 0 0] ++ [Value.slice none 0 0]))) := by
    rw [c4]
    have := lay_mid (k.1.map bv) [bv 0] (z0.1.map bv ++ ([Value.slice none 0 0] ++ [Value.slice none 0 0])) [bv e] rfl
    rw [hk] at this
    simpa using this
  simp only [List.toList_toArray]
  rw [e1, fill_cons (off := 65) (by rw [c3]; rfl) (by rw [c3]; simp [hk, hz])]
  have e2 : lay (k.1.map bv ++ ([bv e] ++ (z0.1.map bv ++ ([Value.slice none 0 0] ++ [Value.slice none 0 0])))) 65 (Value.slice A v.length c).cells.toList = k.1.map bv ++ ([bv e] ++ (z0.1.map bv ++ ([Value.slice A v.length c] ++ [Value.slice none 0 0]))) := by
    rw [c3]
    have := lay_mid (k.1.map bv ++ [bv e] ++ z0.1.map bv) [Value.slice none 0 0] [Value.slice none 0 0] [Value.slice A v.length c] rfl
    rw [show (k.1.map bv ++ [bv e] ++ z0.1.map bv).length = 65 by simp [hk, hz]] at this
    simpa using this
  simp only [List.toList_toArray]
  rw [e2, fill_cons (off := 66) (by rw [c2]; rfl) (by rw [c2]; simp [hk, hz])]
  have e3 : lay (k.1.map bv ++ ([bv e] ++ (z0.1.map bv ++ ([Value.slice A v.length c] ++ [Value.slice none 0 0])))) 66 (Value.slice D L.length d).cells.toList = pfC ⟨k, e, z0, v, L⟩ A c D d := by
    rw [c2]
    have := lay_mid (k.1.map bv ++ [bv e] ++ z0.1.map bv ++ [Value.slice A v.length c]) [Value.slice none 0 0] [] [Value.slice D L.length d] rfl
    rw [show (k.1.map bv ++ [bv e] ++ z0.1.map bv ++ [Value.slice A v.length c]).length = 66 by simp [hk, hz]] at this
    simp only [List.append_assoc, List.append_nil] at this
    rw [this]
    simp [pfC]
  simp only [List.toList_toArray]
  rw [e3, Instr.fill]
set_option maxHeartbeats 4000000 in
theorem alive7_any (w : World) (hT : Tab w) : Calls Tryd.prog 35 #[] w fun e w' => e = .returned (.bool true) ∧ Below w.heap.size w w' := by
  have hd3 := hid (built_dg1 3)
  have hTw := hid (fun W => two_any W)
  have hM := hid (fun W A c hR hTW => (show Calls Tryd.prog 30 #[.agg #[.slice A twoT.ns.length c, .int .i64 twoT.root], .agg ((dfst 3).1.map bv).toArray] W fun e w' => ∃ A1 c1 A2 c2, e = .returned (.tuple #[.agg (pfC ⟨dfst 3, 1, z0, [97], [leafD 200 98]⟩ A1 c1 A2 c2).toArray, .int .i64 0]) ∧ Own 5 w' W.heap.size A1 c1 [97] ∧ Row (fun b => b < w'.heap.size) w' A2 [leafD 200 98] ∧ Below W.heap.size W w' from by
    have h := PfMake_any (fun b => w.heap.size ≤ b) A c twoT.ns twoT.root (dfst 3) W hR (Nat.le_trans two_nodes (by decide)) hTW
    rw [show makeF ⟨twoT.ns, twoT.root⟩ (dfst 3) = ⟨dfst 3, 1, z0, [97], [leafD 200 98]⟩ from two_make3, show mayT ⟨twoT.ns, twoT.root⟩ = true from two_may, if_pos rfl] at h
    exact h))
  have hTo := hid (fun A c D d W (h1 : Rd W A [97]) (h2 : 1 ≤ c) (h3 : c ≤ maxLen) => (show Calls Tryd.prog 32 #[.agg (pfC ⟨dfst 3, 1, z0, [97], [leafD 200 98]⟩ A c D d).toArray] W fun e w' => ∃ A' c', e = .returned (.tuple #[.slice A' 1 c', .bool true]) ∧ Own 5 w' W.heap.size A' c' [97] ∧ Below W.heap.size W w' from by
    have h := PfTold_is ⟨dfst 3, 1, z0, [97], [leafD 200 98]⟩ A c D d true W h1 h2 h3 (by decide) (by rw [← two_make3]; exact two_told)
    simp only [if_true] at h
    exact h))
  have hSm := hid (fun (F G : Nat → Prop) A A2 c c2 D D2 d d2 W (h1 : Rd W A [97]) (h2 : Rd W A2 [97]) (h3 : Row F W D [leafD 200 98]) (h4 : Row G W D2 [leafD 200 98]) => RPfSame_is F G (⟨dfst 3, 1, z0, [97], [leafD 200 98]⟩ : Pf) ⟨dfst 3, 1, z0, [97], [leafD 200 98]⟩ A A2 c c2 D D2 d d2 true W h1 h2 h3 h4 (by decide) (by decide) (by decide) (by decide) (by simp))
  have hpl := fun A c D d => hid (sizePfC ⟨dfst 3, 1, z0, [97], [leafD 200 98]⟩ A c D d)
  have hps := fun A c D d => hid (sizePfS ⟨dfst 3, 1, z0, [97], [leafD 200 98]⟩ A c D d)
  have hpz := fun A c D d => hid (show zPfC.size = (pfC ⟨dfst 3, 1, z0, [97], [leafD 200 98]⟩ A c D d).toArray.size by rw [zSizePf, List.size_toArray, len_pf])
  have hp1 := fun A c D d => hid (one_pf ⟨dfst 3, 1, z0, [97], [leafD 200 98]⟩ A c D d)
  have hb4 := hid (fun A c D d => (show Tryd.prog.built 61 [(0, .agg ((dfst 3).1.map bv).toArray), (1, .int .u8 1), (3, .slice A 1 c), (4, .slice D 1 d)] = some (pfC ⟨dfst 3, 1, z0, [97], [leafD 200 98]⟩ A c D d).toArray from built_pf4 (dfst 3) 1 [97] A c [leafD 200 98] D d))
  have hup := Tryd.underlying61
  have hus := Tryd.underlying24
  have hu8 := Tryd.underlying5
  have hlow := hid hT.low
  have hcvs := fun W A c (h : Rd W A [97]) => run_conv_str u8s underU8 9 underStr h 1 c rfl
  have ht : ((bstr [97]).toList == [97]) = true := by rw [bstr_toList]; rfl
  replace hcvs := hid hcvs
  generalize twoT.ns = n2 at *
  generalize twoT.root = r2 at *
  generalize hpx : (⟨dfst 3, 1, z0, [97], [leafD 200 98]⟩ : Pf) = px at *
  replace hpx := hid hpx
  generalize (dfst 3).1.map bv = d3 at *
  go_enter Tryd.func35, Tryd.ntmps35
  go_wp2_with fail
  refine (hTw.out _).mono ?_
  rintro e w1 ⟨A, c, rfl, hR, hb⟩
  have T1 := hid (hT.bel hb hlow.out)
  have W1 := hid hb
  have R1 := hid hR
  clear hb hR
  go_wp2_with (first
    | ((with_reducible refine wpList_built rfl 23 _ rfl d3.toArray [(0, .int .u8 3)] ?_ ?_ ?_); exact hd3.out; rfl))
  refine (hM.out _ A c R1.out T1.out).mono ?_
  rintro e w2 ⟨A1, c1, A2, c2, rfl, ho, hq, hb⟩
  have T2 := hid (T1.out.bel hb (Nat.lt_of_lt_of_le hlow.out W1.out.size))
  have W2 := hid (W1.out.trans (hb.mono W1.out.size))
  have V2 := hid (ho.rd.row (F := fun b => b < w2.heap.size) fun a ha _ => (ho.blk a ha).2)
  have cV := hid ho.cap
  have S2 := hid hq
  have e2 := hid (heap_alloc_new w2 (.cells zPfC 61))
  have iP := hpl A1 c1 A2 c2
  have jP := hps A1 c1 A2 c2
  have zP := hpz A1 c1 A2 c2
  have oP := hp1 A1 c1 A2 c2
  replace hTo := hid (hTo.out A1 c1 A2 c2)
  replace hSm := hid (fun F G A c D d => hSm.out F G A1 A c1 c A2 D c2 d)
  clear hb ho hq R1 T1 W1 hM hTw hpl hps hpz hp1
  generalize hpc : pfC px A1 c1 A2 c2 = pc at *
  replace hpc := hid hpc
  go_wp2_with (first
    | (with_reducible refine wpList_alloc_row rfl 61 rfl zPfC zInfoPf ?_)
    | ((with_reducible refine wpList_store_row rfl 61 (.tmp 1) (.tmp 9) rfl _ _ rfl rfl 61 zPfC ?_ ?_ ?_ ?_ ?_); exact e2.out; exact jP.out; exact zP.out; exact oP.out; intro w3 hgS hbS hsS; have X3 := hid (xnewP rfl hbS); have P3 := hid (rangeOf hgS); have T3 := hid (T2.out.bel X3.out (Nat.lt_of_lt_of_le hlow.out W2.out.size)); have W3 := hid (W2.out.trans (X3.out.mono W2.out.size)); have V3 := hid (V2.out.bel X3.out); have S3 := hid (S2.out.bel X3.out); clear hgS hbS hsS)
    | ((with_reducible refine wpList_load_rng rfl 61 (.tmp 1) rfl w2.heap.size 0 rfl pc _ ?_ hup rfl iP.out ?_); exact P3.out))
  refine (hTo.out _ V3.out.rd cV.out.1 cV.out.2).mono ?_
  rintro e w4 ⟨A4, c4, rfl, ho4, hb⟩
  have P4 := hid (rangeBel2 hb P3.out)
  have T4 := hid (T3.out.bel hb (Nat.lt_of_lt_of_le hlow.out W3.out.size))
  have W4 := hid (W3.out.trans (hb.mono W3.out.size))
  have V4 := hid (V3.out.bel hb)
  have S4 := hid (S3.out.bel hb)
  have O4 := hid ho4.rd
  have l4 := hid (Nat.lt_of_lt_of_le hlow.out W4.out.size)
  clear hb ho4 P3 T3 W3 V3 S3 X3 T2 W2 V2 S2 e2 hTo
  go_wp2
  refine wp_region_noPanic ?_
  refine wp_region_held_drew (S := fun w' => Below w4.heap.size w4 w') (by kernel_rfl) ?_ (fun hHeld => ?_)
  · exact bel_drew w4
  refine' wpAnyH_take (i := 0) (oi := _) (v := ?_) rfl (by kernel_rfl) (by kernel_rfl) (by kernel_rfl) (fun _ _ _ h => h) (Or.inl ⟨by rfl, ?_⟩) (by assumption) ?_
  rotate_left
  · intro W hSw
    go_simp
    first | done | (with_reducible rfl)
  try simp only [Act.put, sQa, sQb, sQc, gQa, gQb, gQc]
  refine' wpAnyH_take (i := 1) (oi := _) (v := ?_) rfl (by kernel_rfl) (by kernel_rfl) (by kernel_rfl) (fun _ _ _ h => h) (Or.inl ⟨by rfl, ?_⟩) (by assumption) ?_
  rotate_left
  · intro W hSw
    go_simp
    first | done | (with_reducible rfl)
  try simp only [Act.put, sQa, sQb, sQc, gQa, gQb, gQc]
  refine' wpAnyH_take (i := 2) (oi := _) (v := ?_) rfl (by kernel_rfl) (by kernel_rfl) (by kernel_rfl) (fun _ _ _ h => h) (Or.inl ⟨by rfl, ?_⟩) (by assumption) ?_
  rotate_left
  · intro W hSw
    go_simp
    first | done | (with_reducible rfl)
  try simp only [Act.put, sQa, sQb, sQc, gQa, gQb, gQc]
  refine' wpAnyH_take (i := 3) (oi := _) (v := _) rfl (by kernel_rfl) (by kernel_rfl) (by kernel_rfl) (fun _ _ _ h => h) (yieldsIf_load_mid (by rfl) _ _ rfl _ _ rfl _ _ (fun _ h => rangeBel2 h P4.out) hup rfl iP.out) (by assumption) ?_
  try simp only [Act.put, sQa, sQb, sQc, gQa, gQb, gQc]
  refine' wpAnyH_take (i := 4) (oi := _) (v := _) rfl (by kernel_rfl) (by kernel_rfl) (by kernel_rfl) (fun _ _ _ h => h) (yieldsIf_build (by rfl) _ _ rfl _ _ (hd3.out) rfl) (by assumption) ?_
  try simp only [Act.put, sQa, sQb, sQc, gQa, gQb, gQc]
  refine wpAnyH_ready (rs := [5, 7]) (by kernel_rfl) (by simp) ?_
  refine AllReadyH.cons (o := _) rfl (fun K hK => ?_) ?_
  · skip
    refine step_build1 slotU8b (by decide) (by rfl) (.const (.int .u8 97)) rfl [bv 97] rfl rfl ?_
    intro g5 w5 m5 k5 hB
    have l5 := Nat.le_trans hHeld.size m5
    have g5lt := block_lt k5
    try replace q7 := q7.bel hB
    refine hK.out _ _ ?_ (fun hHeld => ?_)
    · exact hHeld.trans (hB.mono hHeld.size)
    clear hK K
    try simp only [Act.put, sQa, sQb, sQc, gQa, gQb, gQc]
    refine wpAnyH_ready (rs := [6, 7]) (by kernel_rfl) (by simp) ?_
    refine AllReadyH.cons (o := _) rfl (fun K hK => ?_) ?_
    · skip
      refine step_convC (by rfl) 24 (.tmp 21) rfl g5 1 1 _ 5 rfl k5 hus hu8 ?_
      intro w6 fr6 k6 hC6
      try replace q7 := q7.chg hC6 (fun b hb _ e => by obtain ⟨h1, h2⟩ := hb; omega)
      refine hK.out _ _ ?_ (fun hHeld => ?_)
      · exact hHeld.trans (Chg.below hC6 hHeld.size (fun b hb e => by omega))
      clear hK K
      try simp only [Act.put, sQa, sQb, sQc, gQa, gQb, gQc]
      refine wpAnyH_ready (rs := [7]) (by kernel_rfl) (by simp) ?_
      refine AllReadyH.cons (o := _) rfl (fun K hK => ?_) AllReadyH.nil
      go_simp
      refine (side_is _ _ _ rfl rfl (T4.out.bel hHeld l4.out)).mono ?_
      rintro e7 w7 ⟨A7, rfl, q7, hB⟩
      try replace k5 := (hB.block _ (block_lt k5)).trans k5
      try replace k6 := (hB.block _ (Array.getElem?_eq_some_iff.1 k6).1).trans k6
      go_wp2_with fail
      refine hK.out _ _ ?_ (fun hHeld => ?_)
      · exact hHeld.trans (hB.mono hHeld.size)
      clear hK K
      try simp only [Act.put, sQa, sQb, sQc, gQa, gQb, gQc]
      refine' wpAnyH_take (i := 8) (oi := _) (v := _) rfl (by kernel_rfl) (by kernel_rfl) (by kernel_rfl) (fun _ _ _ h => h) (yieldsIf_build (by rfl) _ _ rfl _ _ (hb4.out _ _ _ _) rfl) (by assumption) ?_
      try simp only [Act.put, sQa, sQb, sQc, gQa, gQb, gQc]
      refine wpAnyH_ready (rs := [9]) (by kernel_rfl) (by simp) ?_
      refine AllReadyH.cons (o := _) rfl (fun K hK => ?_) AllReadyH.nil
      go_simp
      refine (hSm.out _ _ _ _ _ _ _ (V4.out.bel hHeld).rd (rd_frz (l := [97]) k6) (S4.out.bel hHeld) q7).mono ?_
      rintro e9 w9 ⟨rfl, hB⟩
      go_wp2_with fail
      refine hK.out _ _ ?_ (fun hHeld => ?_)
      · exact hHeld.trans (hB.mono hHeld.size)
      clear hK K
      try simp only [Act.put, sQa, sQb, sQc, gQa, gQb, gQc]
      refine' wpAnyH_take (i := 10) (oi := _) (v := ?_) rfl (by kernel_rfl) (by kernel_rfl) (by kernel_rfl) (fun _ _ _ h => h) (Or.inl ⟨by rfl, ?_⟩) (by assumption) ?_
      rotate_left
      · intro W hSw
        go_simp
        first | done | (with_reducible rfl)
      try simp only [Act.put, sQa, sQb, sQc, gQa, gQb, gQc]
      refine' wpAnyH_take (i := 11) (oi := _) (v := ?_) rfl (by kernel_rfl) (by kernel_rfl) (by kernel_rfl) (fun _ _ _ h => h) (Or.inl ⟨by rfl, ?_⟩) (by assumption) ?_
      rotate_left
      · intro W hSw
        go_simp
        first | done | (with_reducible rfl)
      try simp only [Act.put, sQa, sQb, sQc, gQa, gQb, gQc]
      refine' wpAnyH_take (i := 12) (oi := _) (v := ?_) rfl (by kernel_rfl) (by kernel_rfl) (by kernel_rfl) (fun _ _ _ h => h) (Or.inl ⟨by rfl, ?_⟩) (by assumption) ?_
      rotate_left
      · intro W hSw
        go_simp
        first | done | (with_reducible rfl)
      try simp only [Act.put, sQa, sQb, sQc, gQa, gQb, gQc]
      refine' wpAnyH_take (i := 13) (oi := _) (v := ?_) rfl (by kernel_rfl) (by kernel_rfl) (by kernel_rfl) (fun _ _ _ h => h) (Or.inl ⟨by rfl, ?_⟩) (by assumption) ?_
      rotate_left
      · intro W hSw
        go_simp
        first | done | (with_reducible rfl)
      try simp only [Act.put, sQa, sQb, sQc, gQa, gQb, gQc]
      refine' wpAnyH_take (i := 14) (oi := _) (v := ?_) rfl (by kernel_rfl) (by kernel_rfl) (by kernel_rfl) (fun _ _ _ h => h) (Or.inl ⟨by rfl, ?_⟩) (by assumption) ?_
      rotate_left
      · intro W hSw
        go_simp
        first | done | (with_reducible rfl)
      try simp only [Act.put, sQa, sQb, sQc, gQa, gQb, gQc]
      refine' wpAnyH_take (i := 15) (oi := _) (v := ?_) rfl (by kernel_rfl) (by kernel_rfl) (by kernel_rfl) (fun _ _ _ h => h) (Or.inl ⟨by rfl, ?_⟩) (by assumption) ?_
      rotate_left
      · intro W hSw
        go_simp
        first | done | (with_reducible rfl)
      try simp only [Act.put, sQa, sQb, sQc, gQa, gQb, gQc]
      refine' wpAnyH_take (i := 16) (oi := _) (v := (.string (bstr [97]))) rfl (by kernel_rfl) (by kernel_rfl) (by kernel_rfl) (fun _ _ _ h => h) (Or.inl ⟨by rfl, ?_⟩) (by assumption) ?_
      · intro W hSw
        have hcv := hcvs.out W A4 c4 (O4.out.bel hSw)
        go_simp
        first | done | rfl
      try simp only [Act.put, sQa, sQb, sQc, gQa, gQb, gQc]
      refine' wpAnyH_take (i := 17) (oi := _) (v := ?_) rfl (by kernel_rfl) (by kernel_rfl) (by kernel_rfl) (fun _ _ _ h => h) (Or.inl ⟨by rfl, ?_⟩) (by assumption) ?_
      rotate_left
      · intro W hSw
        go_simp
        first | done | (with_reducible rfl)
      try simp only [Act.put, sQa, sQb, sQc, gQa, gQb, gQc]
      refine' wpAnyH_take (i := 18) (oi := _) (v := ?_) rfl (by kernel_rfl) (by kernel_rfl) (by kernel_rfl) (fun _ _ _ h => h) (Or.inl ⟨by rfl, ?_⟩) (by assumption) ?_
      rotate_left
      · intro W hSw
        go_simp
        first | done | (with_reducible rfl)
      try simp only [Act.put, sQa, sQb, sQc, gQa, gQb, gQc]
      refine' wpAnyH_take (i := 19) (oi := _) (v := ?_) rfl (by kernel_rfl) (by kernel_rfl) (by kernel_rfl) (fun _ _ _ h => h) (Or.inl ⟨by rfl, ?_⟩) (by assumption) ?_
      rotate_left
      · intro W hSw
        go_simp
        first | done | (with_reducible rfl)
      try simp only [Act.put, sQa, sQb, sQc, gQa, gQb, gQc]
      refine wpAnyH_done (by kernel_rfl) ?_ _
      refine NoPanic.normal ?_
      go_wp2
      go_ret
      exact ⟨rfl, W4.out.trans (hHeld.mono W4.out.size)⟩
    refine AllReadyH.cons (o := _) rfl (fun K hK => ?_) ?_
    · skip
      go_simp
      refine (side_is _ _ _ rfl rfl (T4.out.bel hHeld l4.out)).mono ?_
      rintro e7 w7 ⟨A7, rfl, q7, hB⟩
      try replace k5 := (hB.block _ (block_lt k5)).trans k5
      try replace k6 := (hB.block _ (Array.getElem?_eq_some_iff.1 k6).1).trans k6
      go_wp2_with fail
      refine hK.out _ _ ?_ (fun hHeld => ?_)
      · exact hHeld.trans (hB.mono hHeld.size)
      clear hK K
      try simp only [Act.put, sQa, sQb, sQc, gQa, gQb, gQc]
      refine wpAnyH_ready (rs := [6]) (by kernel_rfl) (by simp) ?_
      refine AllReadyH.cons (o := _) rfl (fun K hK => ?_) AllReadyH.nil
      refine step_convC (by rfl) 24 (.tmp 21) rfl g5 1 1 _ 5 rfl k5 hus hu8 ?_
      intro w6 fr6 k6 hC6
      try replace q7 := q7.chg hC6 (fun b hb _ e => by obtain ⟨h1, h2⟩ := hb; omega)
      refine hK.out _ _ ?_ (fun hHeld => ?_)
      · exact hHeld.trans (Chg.below hC6 hHeld.size (fun b hb e => by omega))
      clear hK K
      try simp only [Act.put, sQa, sQb, sQc, gQa, gQb, gQc]
      refine' wpAnyH_take (i := 8) (oi := _) (v := _) rfl (by kernel_rfl) (by kernel_rfl) (by kernel_rfl) (fun _ _ _ h => h) (yieldsIf_build (by rfl) _ _ rfl _ _ (hb4.out _ _ _ _) rfl) (by assumption) ?_
      try simp only [Act.put, sQa, sQb, sQc, gQa, gQb, gQc]
      refine wpAnyH_ready (rs := [9]) (by kernel_rfl) (by simp) ?_
      refine AllReadyH.cons (o := _) rfl (fun K hK => ?_) AllReadyH.nil
      go_simp
      refine (hSm.out _ _ _ _ _ _ _ (V4.out.bel hHeld).rd (rd_frz (l := [97]) k6) (S4.out.bel hHeld) q7).mono ?_
      rintro e9 w9 ⟨rfl, hB⟩
      go_wp2_with fail
      refine hK.out _ _ ?_ (fun hHeld => ?_)
      · exact hHeld.trans (hB.mono hHeld.size)
      clear hK K
      try simp only [Act.put, sQa, sQb, sQc, gQa, gQb, gQc]
      refine' wpAnyH_take (i := 10) (oi := _) (v := ?_) rfl (by kernel_rfl) (by kernel_rfl) (by kernel_rfl) (fun _ _ _ h => h) (Or.inl ⟨by rfl, ?_⟩) (by assumption) ?_
      rotate_left
      · intro W hSw
        go_simp
        first | done | (with_reducible rfl)
      try simp only [Act.put, sQa, sQb, sQc, gQa, gQb, gQc]
      refine' wpAnyH_take (i := 11) (oi := _) (v := ?_) rfl (by kernel_rfl) (by kernel_rfl) (by kernel_rfl) (fun _ _ _ h => h) (Or.inl ⟨by rfl, ?_⟩) (by assumption) ?_
      rotate_left
      · intro W hSw
        go_simp
        first | done | (with_reducible rfl)
      try simp only [Act.put, sQa, sQb, sQc, gQa, gQb, gQc]
      refine' wpAnyH_take (i := 12) (oi := _) (v := ?_) rfl (by kernel_rfl) (by kernel_rfl) (by kernel_rfl) (fun _ _ _ h => h) (Or.inl ⟨by rfl, ?_⟩) (by assumption) ?_
      rotate_left
      · intro W hSw
        go_simp
        first | done | (with_reducible rfl)
      try simp only [Act.put, sQa, sQb, sQc, gQa, gQb, gQc]
      refine' wpAnyH_take (i := 13) (oi := _) (v := ?_) rfl (by kernel_rfl) (by kernel_rfl) (by kernel_rfl) (fun _ _ _ h => h) (Or.inl ⟨by rfl, ?_⟩) (by assumption) ?_
      rotate_left
      · intro W hSw
        go_simp
        first | done | (with_reducible rfl)
      try simp only [Act.put, sQa, sQb, sQc, gQa, gQb, gQc]
      refine' wpAnyH_take (i := 14) (oi := _) (v := ?_) rfl (by kernel_rfl) (by kernel_rfl) (by kernel_rfl) (fun _ _ _ h => h) (Or.inl ⟨by rfl, ?_⟩) (by assumption) ?_
      rotate_left
      · intro W hSw
        go_simp
        first | done | (with_reducible rfl)
      try simp only [Act.put, sQa, sQb, sQc, gQa, gQb, gQc]
      refine' wpAnyH_take (i := 15) (oi := _) (v := ?_) rfl (by kernel_rfl) (by kernel_rfl) (by kernel_rfl) (fun _ _ _ h => h) (Or.inl ⟨by rfl, ?_⟩) (by assumption) ?_
      rotate_left
      · intro W hSw
        go_simp
        first | done | (with_reducible rfl)
      try simp only [Act.put, sQa, sQb, sQc, gQa, gQb, gQc]
      refine' wpAnyH_take (i := 16) (oi := _) (v := (.string (bstr [97]))) rfl (by kernel_rfl) (by kernel_rfl) (by kernel_rfl) (fun _ _ _ h => h) (Or.inl ⟨by rfl, ?_⟩) (by assumption) ?_
      · intro W hSw
        have hcv := hcvs.out W A4 c4 (O4.out.bel hSw)
        go_simp
        first | done | rfl
      try simp only [Act.put, sQa, sQb, sQc, gQa, gQb, gQc]
      refine' wpAnyH_take (i := 17) (oi := _) (v := ?_) rfl (by kernel_rfl) (by kernel_rfl) (by kernel_rfl) (fun _ _ _ h => h) (Or.inl ⟨by rfl, ?_⟩) (by assumption) ?_
      rotate_left
      · intro W hSw
        go_simp
        first | done | (with_reducible rfl)
      try simp only [Act.put, sQa, sQb, sQc, gQa, gQb, gQc]
      refine' wpAnyH_take (i := 18) (oi := _) (v := ?_) rfl (by kernel_rfl) (by kernel_rfl) (by kernel_rfl) (fun _ _ _ h => h) (Or.inl ⟨by rfl, ?_⟩) (by assumption) ?_
      rotate_left
      · intro W hSw
        go_simp
        first | done | (with_reducible rfl)
      try simp only [Act.put, sQa, sQb, sQc, gQa, gQb, gQc]
      refine' wpAnyH_take (i := 19) (oi := _) (v := ?_) rfl (by kernel_rfl) (by kernel_rfl) (by kernel_rfl) (fun _ _ _ h => h) (Or.inl ⟨by rfl, ?_⟩) (by assumption) ?_
      rotate_left
      · intro W hSw
        go_simp
        first | done | (with_reducible rfl)
      try simp only [Act.put, sQa, sQb, sQc, gQa, gQb, gQc]
      refine wpAnyH_done (by kernel_rfl) ?_ _
      refine NoPanic.normal ?_
      go_wp2
      go_ret
      exact ⟨rfl, W4.out.trans (hHeld.mono W4.out.size)⟩
    exact AllReadyH.nil
  refine AllReadyH.cons (o := _) rfl (fun K hK => ?_) ?_
  · skip
    go_simp
    refine (side_is _ _ _ rfl rfl (T4.out.bel hHeld l4.out)).mono ?_
    rintro e7 w7 ⟨A7, rfl, q7, hB⟩
    try replace k5 := (hB.block _ (block_lt k5)).trans k5
    try replace k6 := (hB.block _ (Array.getElem?_eq_some_iff.1 k6).1).trans k6
    go_wp2_with fail
    refine hK.out _ _ ?_ (fun hHeld => ?_)
    · exact hHeld.trans (hB.mono hHeld.size)
    clear hK K
    try simp only [Act.put, sQa, sQb, sQc, gQa, gQb, gQc]
    refine wpAnyH_ready (rs := [5]) (by kernel_rfl) (by simp) ?_
    refine AllReadyH.cons (o := _) rfl (fun K hK => ?_) AllReadyH.nil
    refine step_build1 slotU8b (by decide) (by rfl) (.const (.int .u8 97)) rfl [bv 97] rfl rfl ?_
    intro g5 w5 m5 k5 hB
    have l5 := Nat.le_trans hHeld.size m5
    have g5lt := block_lt k5
    try replace q7 := q7.bel hB
    refine hK.out _ _ ?_ (fun hHeld => ?_)
    · exact hHeld.trans (hB.mono hHeld.size)
    clear hK K
    try simp only [Act.put, sQa, sQb, sQc, gQa, gQb, gQc]
    refine wpAnyH_ready (rs := [6]) (by kernel_rfl) (by simp) ?_
    refine AllReadyH.cons (o := _) rfl (fun K hK => ?_) AllReadyH.nil
    refine step_convC (by rfl) 24 (.tmp 21) rfl g5 1 1 _ 5 rfl k5 hus hu8 ?_
    intro w6 fr6 k6 hC6
    try replace q7 := q7.chg hC6 (fun b hb _ e => by obtain ⟨h1, h2⟩ := hb; omega)
    refine hK.out _ _ ?_ (fun hHeld => ?_)
    · exact hHeld.trans (Chg.below hC6 hHeld.size (fun b hb e => by omega))
    clear hK K
    try simp only [Act.put, sQa, sQb, sQc, gQa, gQb, gQc]
    refine' wpAnyH_take (i := 8) (oi := _) (v := _) rfl (by kernel_rfl) (by kernel_rfl) (by kernel_rfl) (fun _ _ _ h => h) (yieldsIf_build (by rfl) _ _ rfl _ _ (hb4.out _ _ _ _) rfl) (by assumption) ?_
    try simp only [Act.put, sQa, sQb, sQc, gQa, gQb, gQc]
    refine wpAnyH_ready (rs := [9]) (by kernel_rfl) (by simp) ?_
    refine AllReadyH.cons (o := _) rfl (fun K hK => ?_) AllReadyH.nil
    go_simp
    refine (hSm.out _ _ _ _ _ _ _ (V4.out.bel hHeld).rd (rd_frz (l := [97]) k6) (S4.out.bel hHeld) q7).mono ?_
    rintro e9 w9 ⟨rfl, hB⟩
    go_wp2_with fail
    refine hK.out _ _ ?_ (fun hHeld => ?_)
    · exact hHeld.trans (hB.mono hHeld.size)
    clear hK K
    try simp only [Act.put, sQa, sQb, sQc, gQa, gQb, gQc]
    refine' wpAnyH_take (i := 10) (oi := _) (v := ?_) rfl (by kernel_rfl) (by kernel_rfl) (by kernel_rfl) (fun _ _ _ h => h) (Or.inl ⟨by rfl, ?_⟩) (by assumption) ?_
    rotate_left
    · intro W hSw
      go_simp
      first | done | (with_reducible rfl)
    try simp only [Act.put, sQa, sQb, sQc, gQa, gQb, gQc]
    refine' wpAnyH_take (i := 11) (oi := _) (v := ?_) rfl (by kernel_rfl) (by kernel_rfl) (by kernel_rfl) (fun _ _ _ h => h) (Or.inl ⟨by rfl, ?_⟩) (by assumption) ?_
    rotate_left
    · intro W hSw
      go_simp
      first | done | (with_reducible rfl)
    try simp only [Act.put, sQa, sQb, sQc, gQa, gQb, gQc]
    refine' wpAnyH_take (i := 12) (oi := _) (v := ?_) rfl (by kernel_rfl) (by kernel_rfl) (by kernel_rfl) (fun _ _ _ h => h) (Or.inl ⟨by rfl, ?_⟩) (by assumption) ?_
    rotate_left
    · intro W hSw
      go_simp
      first | done | (with_reducible rfl)
    try simp only [Act.put, sQa, sQb, sQc, gQa, gQb, gQc]
    refine' wpAnyH_take (i := 13) (oi := _) (v := ?_) rfl (by kernel_rfl) (by kernel_rfl) (by kernel_rfl) (fun _ _ _ h => h) (Or.inl ⟨by rfl, ?_⟩) (by assumption) ?_
    rotate_left
    · intro W hSw
      go_simp
      first | done | (with_reducible rfl)
    try simp only [Act.put, sQa, sQb, sQc, gQa, gQb, gQc]
    refine' wpAnyH_take (i := 14) (oi := _) (v := ?_) rfl (by kernel_rfl) (by kernel_rfl) (by kernel_rfl) (fun _ _ _ h => h) (Or.inl ⟨by rfl, ?_⟩) (by assumption) ?_
    rotate_left
    · intro W hSw
      go_simp
      first | done | (with_reducible rfl)
    try simp only [Act.put, sQa, sQb, sQc, gQa, gQb, gQc]
    refine' wpAnyH_take (i := 15) (oi := _) (v := ?_) rfl (by kernel_rfl) (by kernel_rfl) (by kernel_rfl) (fun _ _ _ h => h) (Or.inl ⟨by rfl, ?_⟩) (by assumption) ?_
    rotate_left
    · intro W hSw
      go_simp
      first | done | (with_reducible rfl)
    try simp only [Act.put, sQa, sQb, sQc, gQa, gQb, gQc]
    refine' wpAnyH_take (i := 16) (oi := _) (v := (.string (bstr [97]))) rfl (by kernel_rfl) (by kernel_rfl) (by kernel_rfl) (fun _ _ _ h => h) (Or.inl ⟨by rfl, ?_⟩) (by assumption) ?_
    · intro W hSw
      have hcv := hcvs.out W A4 c4 (O4.out.bel hSw)
      go_simp
      first | done | rfl
    try simp only [Act.put, sQa, sQb, sQc, gQa, gQb, gQc]
    refine' wpAnyH_take (i := 17) (oi := _) (v := ?_) rfl (by kernel_rfl) (by kernel_rfl) (by kernel_rfl) (fun _ _ _ h => h) (Or.inl ⟨by rfl, ?_⟩) (by assumption) ?_
    rotate_left
    · intro W hSw
      go_simp
      first | done | (with_reducible rfl)
    try simp only [Act.put, sQa, sQb, sQc, gQa, gQb, gQc]
    refine' wpAnyH_take (i := 18) (oi := _) (v := ?_) rfl (by kernel_rfl) (by kernel_rfl) (by kernel_rfl) (fun _ _ _ h => h) (Or.inl ⟨by rfl, ?_⟩) (by assumption) ?_
    rotate_left
    · intro W hSw
      go_simp
      first | done | (with_reducible rfl)
    try simp only [Act.put, sQa, sQb, sQc, gQa, gQb, gQc]
    refine' wpAnyH_take (i := 19) (oi := _) (v := ?_) rfl (by kernel_rfl) (by kernel_rfl) (by kernel_rfl) (fun _ _ _ h => h) (Or.inl ⟨by rfl, ?_⟩) (by assumption) ?_
    rotate_left
    · intro W hSw
      go_simp
      first | done | (with_reducible rfl)
    try simp only [Act.put, sQa, sQb, sQc, gQa, gQb, gQc]
    refine wpAnyH_done (by kernel_rfl) ?_ _
    refine NoPanic.normal ?_
    go_wp2
    go_ret
    exact ⟨rfl, W4.out.trans (hHeld.mono W4.out.size)⟩
  exact AllReadyH.nil
end Go.Proofs.YtfjkcdccnbggnaaDoor
