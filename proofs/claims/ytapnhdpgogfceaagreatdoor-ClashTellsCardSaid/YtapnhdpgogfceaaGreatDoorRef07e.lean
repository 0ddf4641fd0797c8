/-
  Contracts of the document's answer for layer 7: Of, Make.
-/
import Derived.Test.YtapnhdpgogfceaaGreatDoorStoreB
import Derived.Test.YtapnhdpgogfceaaGreatDoorPfK
import Derived.Test.YtapnhdpgogfceaaGreatDoorRef06g
import Derived.Test.YtapnhdpgogfceaaGreatDoorRf6
import Derived.Test.YtapnhdpgogfceaaGreatDoorBits
namespace Go.Proofs.YtapnhdpgogfceaaGreatDoor
open Go.RowKit
set_option linter.unusedVariables false
set_option linter.unusedSimpArgs false
set_option maxRecDepth 100000

theorem sizeOne8 : (Tryz.prog.info? 5).map (·.size) = some 1 := by kernel_rfl
theorem sizeOneS : (Tryz.prog.info? 27).map (·.size) = some 1 := by kernel_rfl
theorem res_pf1 {fn : Func} {p : Tmp} (h : fn.results = #[.cell p 30]) (tmps : Array Value) (w : World) (g : Nat) (cs : List Value) (e1 : tmps.getD p undef = .pointer (some ⟨g, 0, none⟩))
    (hg : w.heap[g]? = some (.cells cs.toArray 30 (0, 0))) (hl : cs.length = 67) : (results fn tmps).run Tryz.prog w = .ok (.agg cs.toArray) w :=
  results_cell_row h tmps w g 30 cs.toArray (0, 0) _ e1 hg Tryz.underlying30 rfl (by rw [List.size_toArray, hl]; exact sizePf)
/-- What the answer is of: a proof, its value and its sides. -/
def OfOk (W : World) (B : Nat) (p : Pf) (A1 : Option Addr) (c1 : Nat) (A2 : Option Addr) (c2 : Nat) : Prop := Row (fun b => B ≤ b) W A1 p.v ∧ p.v.length ≤ c1 ∧ c1 ≤ maxLen ∧ Row (fun b => B ≤ b) W A2 p.ss
set_option maxHeartbeats 2000000 in
theorem RPfOf_none (F : Nat → Prop) (A : Option Addr) (c : Nat) (ns : List Nd) (root : Int) (k : Dg) (w : World) (hr : Row F w A ns) (hc : ns.length ≤ 1000) (hm : mayT ⟨ns, root⟩ = true) (hz : (wayP ns k 256 root).1 = 0) :
    Calls Tryz.prog 26 #[.agg #[.slice A ns.length c, .int .i64 root], .agg (k.1.map bv).toArray] w fun e w' => ∃ A1 c1 A2 c2, e = .returned (.agg (pfC (makeF ⟨ns, root⟩ k) A1 c1 A2 c2).toArray) ∧ OfOk w' w.heap.size (makeF ⟨ns, root⟩ k) A1 c1 A2 c2 ∧ Below w.heap.size w w' := by
  obtain ⟨T0, K0, Z0, W0⟩ := boxesMk w A ns.length c root k
  have hL : sideL ns (wayP ns k 256 root).2 = sidesM ⟨ns, root⟩ k := by unfold sidesM; rw [if_pos hm]
  have hmk : makeF ⟨ns, root⟩ k = ⟨k, 0, z0, [], sidesM ⟨ns, root⟩ k⟩ := makeF_none hm (by rw [end_zero hm hz]; rfl)
  rw [hmk]
  have hW := RWay_any F A c ns root k _ (hr.bel W0) hc hm
  rw [hz, hL] at hW
  have hbp := fun A2 c2 => hid (built_pf k (sidesM ⟨ns, root⟩ k) A2 c2)
  have hu := Tryz.underlying26
  have hut := Tryz.underlying24
  have hup := Tryz.underlying30
  have hi := hid (sizeDgT k)
  have hiT := hid (show (Tryz.prog.info? 24).map (·.size) = some ([Value.slice A ns.length c, .int .i64 root]).length from sizeTr)
  have hpl := fun A2 c2 => hid (sizePfC ⟨k, 0, z0, [], sidesM ⟨ns, root⟩ k⟩ none 0 A2 c2)
  have hps := fun A2 c2 => hid (sizePfS ⟨k, 0, z0, [], sidesM ⟨ns, root⟩ k⟩ none 0 A2 c2)
  have hpz := fun A2 c2 => hid (show zPfC.size = (pfC ⟨k, 0, z0, [], sidesM ⟨ns, root⟩ k⟩ none 0 A2 c2).toArray.size by rw [zSizePf, List.size_toArray, len_pf])
  have hp1 := fun A2 c2 => hid (one_pf ⟨k, 0, z0, [], sidesM ⟨ns, root⟩ k⟩ none 0 A2 c2)
  have hpn := fun A2 c2 => hid (len_pf ⟨k, 0, z0, [], sidesM ⟨ns, root⟩ k⟩ none 0 A2 c2)
  generalize sidesM ⟨ns, root⟩ k = L at *
  replace hW := hid hW
  replace Z0 := hid Z0
  replace K0 := hid K0
  have T0a := hid T0.all
  clear hL hmk T0 hz hm hr
  generalize hdk : k.1.map bv = dk at *
  replace hdk := hid hdk
  go_enter Tryz.func26, Tryz.ntmps26
  go_wp2_with (first
    | (with_reducible refine wpList_alloc_row rfl 30 rfl zPfC zInfoPf ?_)
    | ((with_reducible refine wpList_load_rng rfl 24 (.tmp 2) rfl w.heap.size 0 rfl [Value.slice A ns.length c, .int .i64 root] _ ?_ hut rfl hiT.out ?_); exact T0a.out)
    | ((with_reducible refine wpList_load_rng rfl 26 (.tmp 3) rfl (w.heap.size + 1) 0 rfl dk _ ?_ hu rfl hi.out ?_); exact K0.out))
  generalize ((w.alloc (.cells #[.slice A ns.length c, .int .i64 root] 24)).alloc (.cells dk.toArray 26)).alloc (.cells zPfC 30) = w0 at *
  refine hW.out.mono ?_
  rintro e w1 ⟨A2, c2, rfl, hq, hb⟩
  have z1 := hid ((hb.block _ (block_lt Z0.out)).trans Z0.out)
  have k1 := hid (rangeBel2 hb K0.out)
  have W1 := hid (W0.trans (hb.mono W0.size))
  have Q1 := hid (OwnR.row hq)
  have low0 := hid (show w.heap.size + 1 + 1 < w0.heap.size from block_lt Z0.out)
  have e1 := hid (heap_alloc_new w1 (.cells zPfC 30))
  have hlow := hid (show w.heap.size + 1 + 1 < w1.heap.size from block_lt z1.out)
  clear hb hq K0 Z0 T0a hW W0
  go_wp2_with (first
    | (with_reducible refine wpList_alloc_row rfl 30 rfl zPfC zInfoPf ?_)
    | ((with_reducible refine wpList_load_rng rfl 26 (.tmp 3) rfl (w.heap.size + 1) 0 rfl dk _ ?_ hu rfl hi.out ?_); exact k1.out)
    | ((with_reducible refine wpList_built rfl 30 _ rfl (pfC ⟨k, 0, z0, [], L⟩ none 0 A2 c2).toArray [(0, .agg dk.toArray), (4, .slice A2 L.length c2)] ?_ ?_ ?_); exact (hbp A2 c2).out; rfl)
    | ((with_reducible refine wpList_store_row rfl 30 (.tmp 7) (.tmp 17) rfl _ _ rfl rfl 30 zPfC ?_ ?_ ?_ ?_ ?_); exact e1.out; exact (hps A2 c2).out; exact (hpz A2 c2).out; exact (hp1 A2 c2).out; intro w2 hgS hbS hsS; have X2 := hid (xnewP rfl hbS); have G2 := hid (rangeOf hgS); have z2 := hid ((X2.out.block _ (block_lt z1.out)).trans z1.out); have Q2 := hid (Q1.out.bel X2.out); have W2 := hid (W1.out.trans (X2.out.mono W1.out.size)); clear hgS hbS hsS)
    | ((with_reducible refine wpList_load_rng rfl 30 (.tmp 7) rfl w1.heap.size 0 rfl (pfC ⟨k, 0, z0, [], L⟩ none 0 A2 c2) _ ?_ hup rfl (hpl A2 c2).out ?_); exact G2.out)
    | ((with_reducible refine wpList_store_row rfl 30 (.tmp 4) (.tmp 20) rfl (w.heap.size + 1 + 1) _ rfl rfl 30 zPfC ?_ ?_ ?_ ?_ ?_); exact z2.out; exact (hps A2 c2).out; exact (hpz A2 c2).out; exact (hp1 A2 c2).out; intro w3 hg3 hb3 hs3))
  refine bodyPost_ret (res_pf1 Tryz.results26 _ _ (w.heap.size + 1 + 1) (pfC ⟨k, 0, z0, [], L⟩ none 0 A2 c2) rfl hg3 (hpn A2 c2).out) rfl ⟨none, 0, A2, c2, rfl, ⟨Row.nil _ _ _, Nat.le_refl _, Nat.zero_le _, ?_⟩, W2.out.grown hb3 W2.out.size (fun g e => by injection e with e; omega)⟩
  exact (Q2.out.chg (Chg.of_grown hb3) (fun b hb _ e => by injection e with e; have := low0.out; have hb : w0.heap.size ≤ b := hb; omega)).mono fun b hb _ => by have hb : w0.heap.size ≤ b := hb; have := low0.out; show w.heap.size ≤ b; omega

set_option maxHeartbeats 4000000 in
theorem RPfOf_own (F : Nat → Prop) (A : Option Addr) (c : Nat) (ns : List Nd) (root : Int) (k : Dg) (w : World) (hr : Row F w A ns) (hc : ns.length ≤ 1000) (hv : ∀ x ∈ ns, x.v.length ≤ 1000000) (hm : mayT ⟨ns, root⟩ = true) (hz : (wayP ns k 256 root).1 ≠ 0) (hk : (endN ⟨ns, root⟩ k).k = k) :
    Calls Tryz.prog 26 #[.agg #[.slice A ns.length c, .int .i64 root], .agg (k.1.map bv).toArray] w fun e w' => ∃ A1 c1 A2 c2, e = .returned (.agg (pfC (makeF ⟨ns, root⟩ k) A1 c1 A2 c2).toArray) ∧ OfOk w' w.heap.size (makeF ⟨ns, root⟩ k) A1 c1 A2 c2 ∧ Below w.heap.size w w' := by
  obtain ⟨T0, K0, Z0, W0⟩ := boxesMk w A ns.length c root k
  have hL : sideL ns (wayP ns k 256 root).2 = sidesM ⟨ns, root⟩ k := by unfold sidesM; rw [if_pos hm]
  have hlf := end_leaf hm hz
  obtain ⟨-, m1, m2, ho, m3⟩ := mayT_iff.1 hm
  dsimp only at m1 m2 ho m3
  obtain ⟨⟨q1, q2, -⟩, -, -⟩ := way_spec (k := k) ho 256 root z0 (Nat.le_refl _) m1 m2 m3 zr_z0
  obtain ⟨j, hj, hn, hnd, -⟩ := ones_at ho (n := (wayP ns k 256 root).1) (by omega) q2
  have hen : endN ⟨ns, root⟩ k = ns[j] := by unfold endN; rw [if_pos hm, if_neg hz]; exact hnd
  have hvx := hv _ (List.getElem_mem hj)
  have hmk := makeF_own hm hlf hk
  rw [hen] at hmk hk
  rw [hmk]
  have hW := RWay_any F A c ns root k _ (hr.bel W0) hc hm
  rw [hn, hL] at hW
  have hbp := fun A2 c2 => hid (built_pf k (sidesM ⟨ns, root⟩ k) A2 c2)
  have hu := Tryz.underlying26
  have hut := Tryz.underlying24
  have hup := Tryz.underlying30
  have hun := Tryz.underlying47
  have hi := hid (sizeDgT k)
  have hik := hid (sizeDg k)
  have hixk := hid (sizeDg ns[j].k)
  have hiT := hid (show (Tryz.prog.info? 24).map (·.size) = some ([Value.slice A ns.length c, .int .i64 root]).length from sizeTr)
  have hps := fun A2 c2 => hid (sizePfS ⟨k, 0, z0, [], sidesM ⟨ns, root⟩ k⟩ none 0 A2 c2)
  have hpz := fun A2 c2 => hid (show zPfC.size = (pfC ⟨k, 0, z0, [], sidesM ⟨ns, root⟩ k⟩ none 0 A2 c2).toArray.size by rw [zSizePf, List.size_toArray, len_pf])
  have hp1 := fun A2 c2 => hid (one_pf ⟨k, 0, z0, [], sidesM ⟨ns, root⟩ k⟩ none 0 A2 c2)
  have hsW := fun A1 c1 A2 c2 => hid (pf_setW ⟨k, 0, z0, [], sidesM ⟨ns, root⟩ k⟩ ns[j].v none A1 0 c1 A2 c2)
  have hsE := fun A1 c1 A2 c2 => hid (pf_setE ⟨k, 0, z0, ns[j].v, sidesM ⟨ns, root⟩ k⟩ 1 A1 c1 A2 c2)
  have hsF := fun A1 c1 A2 c2 => hid (pf_setE ⟨k, 1, z0, ns[j].v, sidesM ⟨ns, root⟩ k⟩ 2 A1 c1 A2 c2)
  have hsO := fun A1 c1 A2 c2 => hid (pf_setO ⟨k, 2, z0, ns[j].v, sidesM ⟨ns, root⟩ k⟩ ns[j].k A1 c1 A2 c2)
  have hsz := fun (p : Pf) A1 c1 A2 c2 => hid (show (pfC p A1 c1 A2 c2).toArray.size = 67 by rw [List.size_toArray, len_pf])
  have hln := fun (p : Pf) A1 c1 A2 c2 => hid (len_pf p A1 c1 A2 c2)
  have hoF := fun (p : Pf) A1 c1 A2 c2 => hid (one_pf p A1 c1 A2 c2)
  have hlF := fun (p : Pf) A1 c1 A2 c2 => hid (sizePfC p A1 c1 A2 c2)
  have hlS := fun (p : Pf) A1 c1 A2 c2 => hid (sizePfS p A1 c1 A2 c2)
  have hlZ := fun (p : Pf) A1 c1 A2 c2 => hid (show zPfC.size = (pfC p A1 c1 A2 c2).toArray.size by rw [zSizePf, List.size_toArray, len_pf])
  have hE : ∀ W, (Op.equalIn 10000 26 (.agg (ns[j].k.1.map bv).toArray) (.agg (k.1.map bv).toArray)).run Tryz.prog W = .ok true W := fun W => eqd_is ns[j].k k true (by simp [hk]) W
  have hrw := hr.bel W0
  obtain ⟨q, o, hA, A', c', hR, k2, k3, k4, -, -⟩ := row_nd hrw hj
  subst hA
  have hiN := hid (show (Tryz.prog.info? 47).map (·.size) = some (ndC ns[j] A' c').length by rw [len_nd]; exact sizeNd)
  have hiS := hid (show (Tryz.prog.info? 47).map (·.size) = some (ndC ns[j] A' c').toArray.size by rw [List.size_toArray, len_nd]; exact sizeNd)
  have hzs := hid (show zNdC.size = (ndC ns[j] A' c').toArray.size by rw [zSizeNd, List.size_toArray, len_nd])
  have hone := hid (one_nd ns[j] A' c')
  have hTw := hid (fun W (hW : Rd W A' ns[j].v) => Twin_any A' ns[j].v.length c' ns[j].v W hW rfl (by omega))
  have h32 := hid (show (ns[j].k.1.map bv).length = 32 by rw [List.length_map, ns[j].k.2])
  have ok32 := hid (show (ns[j].k.1.map bv).toArray.all (·.oneCell') = true from all_oneCell_toArray (bvs_one ns[j].k.1))
  have hBN := hid (fun (W : World) (g : Nat) (h : W.heap[g]? = some (.cells (ndC ns[j] A' c').toArray 47 (0, 0))) => BoxN.of (rangeOf h))
  have y1 : IntKind.i64.wrap ((j : Int) + 1 - 1) = (j : Int) := by rw [IntKind.wrap_i64]; omega
  have y2 : (((j : Int) + 1) == 0) = false := by rw [beq_eq_false_iff_ne]; omega
  have y3 : (j : Int) + 1 - 1 = (j : Int) := by omega
  have hrv := hid k4.rd
  replace hR := hid hR
  generalize sidesM ⟨ns, root⟩ k = L at *
  generalize ns[j] = x at *
  have T0a := hid T0.all
  have hns := T0.ns
  replace hW := hid hW
  replace Z0 := hid Z0
  replace K0 := hid K0
  clear hL hmk T0 hz hm hr hen hnd hn hvx hv hrw ho m1 m2 m3 q1 q2 hlf k2 k3 k4 hk
  generalize hdk : k.1.map bv = dk at *
  generalize hdx : x.k.1.map bv = dx at *
  replace hdk := hid hdk
  replace hdx := hid hdx
  generalize hnn : ns.length = n at *
  clear hnn
  generalize hnc : ndC x A' c' = nc at *
  replace hnc := hid hnc
  go_enter Tryz.func26, Tryz.ntmps26
  go_wp2_with (first
    | (with_reducible refine wpList_alloc_row rfl 30 rfl zPfC zInfoPf ?_)
    | ((with_reducible refine wpList_load_rng rfl 24 (.tmp 2) rfl w.heap.size 0 rfl [Value.slice (some ⟨q, o, none⟩) n c, .int .i64 root] _ ?_ hut rfl hiT.out ?_); exact T0a.out)
    | ((with_reducible refine wpList_load_rng rfl 26 (.tmp 3) rfl (w.heap.size + 1) 0 rfl dk _ ?_ hu rfl hi.out ?_); exact K0.out))
  generalize ((w.alloc (.cells #[.slice (some ⟨q, o, none⟩) n c, .int .i64 root] 24)).alloc (.cells dk.toArray 26)).alloc (.cells zPfC 30) = w0 at *
  refine hW.out.mono ?_
  rintro e w1 ⟨A2, c2, rfl, hq, hb⟩
  have z1 := hid ((hb.block _ (block_lt Z0.out)).trans Z0.out)
  have kk1 := hid (rangeBel2 hb K0.out)
  have W1 := hid (W0.trans (hb.mono W0.size))
  have Q1 := hid ((OwnR.row hq).mono (G := fun b => w0.heap.size ≤ b ∧ b < w1.heap.size) fun b hb hl => ⟨hb, hl⟩)
  have low0 := hid (show w.heap.size + 1 + 1 < w0.heap.size from block_lt Z0.out)
  have n1 := (hb.cell (World.block_lt_of_cell? _ _ hns)).trans hns
  have r1 := hid (rangeBel2 hb hR.out)
  have v1 := hid (hrv.out.bel hb)
  have e1 := hid (heap_alloc_new w1 (.cells zPfC 30))
  have hlow := hid (show w.heap.size + 1 + 1 < w1.heap.size from block_lt z1.out)
  have s01 := hid hb.size
  clear hb hq K0 Z0 T0a hW W0 hns hR hrv
  go_wp2_with (first
    | (with_reducible refine wpList_alloc_row rfl 30 rfl zPfC zInfoPf ?_)
    | (with_reducible refine wpList_alloc_row rfl 47 rfl zNdC zInfoNd ?_)
    | ((with_reducible refine wpList_load_rng rfl 26 (.tmp 3) rfl (w.heap.size + 1) 0 rfl dk _ ?_ hu rfl hi.out ?_); exact kk1.out)
    | ((with_reducible refine wpList_built rfl 30 _ rfl (pfC ⟨k, 0, z0, [], L⟩ none 0 A2 c2).toArray [(0, .agg dk.toArray), (4, .slice A2 L.length c2)] ?_ ?_ ?_); exact (hbp A2 c2).out; rfl)
    | ((with_reducible refine wpList_store_row rfl 30 (.tmp 7) (.tmp 17) rfl _ _ rfl rfl 30 zPfC ?_ ?_ ?_ ?_ ?_); exact e1.out; exact (hps A2 c2).out; exact (hpz A2 c2).out; exact (hp1 A2 c2).out; intro w2 hgS hbS hsS; have X2 := hid (xnewP rfl hbS); have G2 := hid hgS; have z2 := hid ((X2.out.block _ (block_lt z1.out)).trans z1.out); have kk2 := hid (rangeBel2 X2.out kk1.out); have Q2 := hid (Q1.out.bel X2.out); have W2 := hid (W1.out.trans (X2.out.mono W1.out.size)); have n2 := (X2.out.cell (World.block_lt_of_cell? _ _ n1)).trans n1; have r2 := hid (rangeBel2 X2.out r1.out); have v2 := hid (v1.out.bel X2.out); have l12 := hid (block_lt hgS); have e2 := hid (heap_alloc_new w2 (.cells zNdC 47)); clear hgS hbS hsS)
    | ((with_reducible refine wpList_load_rng rfl 47 (.tmp 25) rfl q (o + j * 36) rfl nc _ ?_ hun rfl hiN.out ?_); exact r2.out)
    | ((with_reducible refine wpList_store_row rfl 47 (.tmp 8) (.tmp 26) rfl _ _ rfl rfl 47 zNdC ?_ ?_ ?_ ?_ ?_); exact e2.out; exact hiS.out; exact hzs.out; exact hone.out; intro w3 hgS hbS hsS; have X3 := hid (xnewP rfl hbS); have N3 := hid hgS; have G3 := hid ((X3.out.block _ (block_lt G2.out)).trans G2.out); have z3 := hid ((X3.out.block _ (block_lt z2.out)).trans z2.out); have kk3 := hid (rangeBel2 X3.out kk2.out); have Q3 := hid (Q2.out.bel X3.out); have W3 := hid (W2.out.trans (X3.out.mono W2.out.size)); have v3 := hid (v2.out.bel X3.out); have B3 := hBN.out w3 w2.heap.size hgS; have b3v := B3.val; clear hgS hbS hsS B3))
  refine (hTw.out _ v3.out).mono ?_
  rintro e w4 ⟨A4, c4, rfl, ho, hb⟩
  have N4 := hid ((hb.block _ (block_lt N3.out)).trans N3.out)
  have G4 := hid ((hb.block _ (block_lt G3.out)).trans G3.out)
  have z4 := hid ((hb.block _ (block_lt z3.out)).trans z3.out)
  have kk4 := hid (rangeBel2 hb kk3.out)
  have Q4 := hid (Q3.out.bel hb)
  have W4 := hid (W3.out.trans (hb.mono W3.out.size))
  have O4 := hid (ho.rd.row (F := fun b => w3.heap.size ≤ b) fun a ha _ => (ho.blk a ha).1)
  have cp := hid ho.cap
  have ob := hid (fun a (ha : A4 = some a) => (show w3.heap.size ≤ a.block from (ho.blk a ha).1))
  have l23 := hid (block_lt N3.out)
  have B4 := hBN.out w4 w2.heap.size N4.out
  have nk4 := B4.key
  rw [hdx.out] at nk4
  replace nk4 := hid nk4
  clear hb ho N3 G3 z3 kk3 Q3 W3 v3 hTw B4
  have ne1 := hid (show w.heap.size + 1 ≠ w1.heap.size by have := hlow.out; omega)
  have ne2 := hid (show w2.heap.size ≠ w1.heap.size by have := l12.out; omega)
  have ne3 := hid (show w.heap.size + 1 + 1 ≠ w1.heap.size by have := hlow.out; omega)
  have wle := hid (show w.heap.size ≤ w1.heap.size by have := hlow.out; omega)
  have lw4 := hid (show w1.heap.size ≤ w4.heap.size from Nat.le_of_lt (block_lt G4.out))
  go_wp2_with (first
    | ((with_reducible refine wpList_store_oneB rfl 27 (.tmp 30) (.tmp 29) rfl w1.heap.size 65 (.slice A4 x.v.length c4) (pfC ⟨k, 0, z0, [], L⟩ none 0 A2 c2).toArray 30 rfl rfl ?_ ?_ ?_ ?_ ?_ ?_); rfl; rfl; exact G4.out; (rw [(hsz ⟨k, 0, z0, [], L⟩ none 0 A2 c2).out]; decide); exact sizeOneS; intro w5 g5 h5; rw [(hsW A4 c4 A2 c2).out] at g5; have G5 := hid g5; have H5 := hid h5; clear g5 h5)
    | ((with_reducible refine wpList_store_oneB rfl 5 (.tmp 31) (.const (.int .u8 1)) rfl w1.heap.size 32 (.int .u8 1) (pfC ⟨k, 0, z0, x.v, L⟩ A4 c4 A2 c2).toArray 30 rfl rfl ?_ ?_ ?_ ?_ ?_ ?_); rfl; rfl; exact G5.out; (rw [(hsz ⟨k, 0, z0, x.v, L⟩ A4 c4 A2 c2).out]; decide); exact sizeOne8; intro w6 g6 h6; replace g6 : w6.heap[w1.heap.size]? = some (.cells ((pfC ⟨k, 0, z0, x.v, L⟩ A4 c4 A2 c2).toArray.setIfInBounds 32 (bv 1)) 30 (0, 0)) := g6; rw [(hsE A4 c4 A2 c2).out] at g6; have G6 := hid g6; have H6 := hid (H5.out.trans h6); have nk6 := hid (rangeAt_kept nk4.out fun hl => H6.out.block _ hl ne2.out); have kk6 := hid (rangeAt_kept kk4.out fun hl => H6.out.block _ hl ne1.out); clear g6 h6)
    | ((with_reducible refine wpList_load_rng rfl 26 (.tmp 32) rfl w2.heap.size 1 rfl dx _ ?_ hu rfl hixk.out ?_); exact nk6.out)
    | ((with_reducible refine wpList_load_rng rfl 26 (.tmp 3) rfl (w.heap.size + 1) 0 rfl dk _ ?_ hu rfl hik.out ?_); exact kk6.out)
    | ((with_reducible refine wpList_load_rng rfl 30 (.tmp 7) rfl w1.heap.size 0 rfl (pfC ⟨k, 1, z0, x.v, L⟩ A4 c4 A2 c2) _ ?_ hup rfl (hlF ⟨k, 1, z0, x.v, L⟩ A4 c4 A2 c2).out ?_); exact rangeOf G6.out)
    | ((with_reducible refine wpList_store_row rfl 30 (.tmp 4) (.tmp 40) rfl (w.heap.size + 1 + 1) _ rfl rfl 30 zPfC ?_ ?_ ?_ ?_ ?_); exact (H6.out.block _ (block_lt z4.out) ne3.out).trans z4.out; exact (hlS _ A4 c4 A2 c2).out; exact (hlZ _ A4 c4 A2 c2).out; exact (hoF _ A4 c4 A2 c2).out; intro w9 hg9 hb9 hs9))
  have WL := W4.out.trans (Chg.below H6.out (Nat.le_trans wle.out lw4.out) (fun b hb e => by have := wle.out; omega))
  refine bodyPost_ret (res_pf1 Tryz.results26 _ _ (w.heap.size + 1 + 1) (pfC ⟨k, 1, z0, x.v, L⟩ A4 c4 A2 c2) rfl hg9 (hln _ A4 c4 A2 c2).out) rfl ⟨A4, c4, A2, c2, rfl, ⟨?_, cp.out.1, cp.out.2, ?_⟩, WL.grown hb9 WL.size (fun g e => by injection e with e; omega)⟩
  · have R9 := (O4.out.chg H6.out (fun b hb _ e => by have hb : w3.heap.size ≤ b := hb; have := l12.out; have := l23.out; omega)).chg (Chg.of_grown hb9) (fun b hb _ e => by injection e with e; have hb : w3.heap.size ≤ b := hb; have := hlow.out; have := l12.out; have := l23.out; omega)
    exact R9.mono fun b hb _ => by have hb : w3.heap.size ≤ b := hb; have := wle.out; have := l12.out; have := l23.out; show w.heap.size ≤ b; omega
  · refine ((Q4.out.chg H6.out (fun b hb _ e => by have hb : w0.heap.size ≤ b ∧ b < w1.heap.size := hb; omega)).chg (Chg.of_grown hb9) (fun b hb _ e => by injection e with e; have hb : w0.heap.size ≤ b ∧ b < w1.heap.size := hb; have := low0.out; omega)).mono fun b hb _ => by have hb : w0.heap.size ≤ b ∧ b < w1.heap.size := hb; have := low0.out; show w.heap.size ≤ b; omega

set_option maxHeartbeats 4000000 in
theorem RPfOf_other (F : Nat → Prop) (A : Option Addr) (c : Nat) (ns : List Nd) (root : Int) (k : Dg) (w : World) (hr : Row F w A ns) (hc : ns.length ≤ 1000) (hv : ∀ x ∈ ns, x.v.length ≤ 1000000) (hm : mayT ⟨ns, root⟩ = true) (hz : (wayP ns k 256 root).1 ≠ 0) (hk : (endN ⟨ns, root⟩ k).k ≠ k) :
    Calls Tryz.prog 26 #[.agg #[.slice A ns.length c, .int .i64 root], .agg (k.1.map bv).toArray] w fun e w' => ∃ A1 c1 A2 c2, e = .returned (.agg (pfC (makeF ⟨ns, root⟩ k) A1 c1 A2 c2).toArray) ∧ OfOk w' w.heap.size (makeF ⟨ns, root⟩ k) A1 c1 A2 c2 ∧ Below w.heap.size w w' := by
  obtain ⟨T0, K0, Z0, W0⟩ := boxesMk w A ns.length c root k
  have hL : sideL ns (wayP ns k 256 root).2 = sidesM ⟨ns, root⟩ k := by unfold sidesM; rw [if_pos hm]
  have hlf := end_leaf hm hz
  obtain ⟨-, m1, m2, ho, m3⟩ := mayT_iff.1 hm
  dsimp only at m1 m2 ho m3
  obtain ⟨⟨q1, q2, -⟩, -, -⟩ := way_spec (k := k) ho 256 root z0 (Nat.le_refl _) m1 m2 m3 zr_z0
  obtain ⟨j, hj, hn, hnd, -⟩ := ones_at ho (n := (wayP ns k 256 root).1) (by omega) q2
  have hen : endN ⟨ns, root⟩ k = ns[j] := by unfold endN; rw [if_pos hm, if_neg hz]; exact hnd
  have hvx := hv _ (List.getElem_mem hj)
  have hmk := makeF_other hm hlf hk
  rw [hen] at hmk hk
  rw [hmk]
  have hW := RWay_any F A c ns root k _ (hr.bel W0) hc hm
  rw [hn, hL] at hW
  have hbp := fun A2 c2 => hid (built_pf k (sidesM ⟨ns, root⟩ k) A2 c2)
  have hu := Tryz.underlying26
  have hut := Tryz.underlying24
  have hup := Tryz.underlying30
  have hun := Tryz.underlying47
  have hi := hid (sizeDgT k)
  have hik := hid (sizeDg k)
  have hixk := hid (sizeDg ns[j].k)
  have hiT := hid (show (Tryz.prog.info? 24).map (·.size) = some ([Value.slice A ns.length c, .int .i64 root]).length from sizeTr)
  have hps := fun A2 c2 => hid (sizePfS ⟨k, 0, z0, [], sidesM ⟨ns, root⟩ k⟩ none 0 A2 c2)
  have hpz := fun A2 c2 => hid (show zPfC.size = (pfC ⟨k, 0, z0, [], sidesM ⟨ns, root⟩ k⟩ none 0 A2 c2).toArray.size by rw [zSizePf, List.size_toArray, len_pf])
  have hp1 := fun A2 c2 => hid (one_pf ⟨k, 0, z0, [], sidesM ⟨ns, root⟩ k⟩ none 0 A2 c2)
  have hsW := fun A1 c1 A2 c2 => hid (pf_setW ⟨k, 0, z0, [], sidesM ⟨ns, root⟩ k⟩ ns[j].v none A1 0 c1 A2 c2)
  have hsE := fun A1 c1 A2 c2 => hid (pf_setE ⟨k, 0, z0, ns[j].v, sidesM ⟨ns, root⟩ k⟩ 1 A1 c1 A2 c2)
  have hsF := fun A1 c1 A2 c2 => hid (pf_setE ⟨k, 1, z0, ns[j].v, sidesM ⟨ns, root⟩ k⟩ 2 A1 c1 A2 c2)
  have hsO := fun A1 c1 A2 c2 => hid (pf_setO ⟨k, 2, z0, ns[j].v, sidesM ⟨ns, root⟩ k⟩ ns[j].k A1 c1 A2 c2)
  have hsz := fun (p : Pf) A1 c1 A2 c2 => hid (show (pfC p A1 c1 A2 c2).toArray.size = 67 by rw [List.size_toArray, len_pf])
  have hln := fun (p : Pf) A1 c1 A2 c2 => hid (len_pf p A1 c1 A2 c2)
  have hoF := fun (p : Pf) A1 c1 A2 c2 => hid (one_pf p A1 c1 A2 c2)
  have hlF := fun (p : Pf) A1 c1 A2 c2 => hid (sizePfC p A1 c1 A2 c2)
  have hlS := fun (p : Pf) A1 c1 A2 c2 => hid (sizePfS p A1 c1 A2 c2)
  have hlZ := fun (p : Pf) A1 c1 A2 c2 => hid (show zPfC.size = (pfC p A1 c1 A2 c2).toArray.size by rw [zSizePf, List.size_toArray, len_pf])
  have hE : ∀ W, (Op.equalIn 10000 26 (.agg (ns[j].k.1.map bv).toArray) (.agg (k.1.map bv).toArray)).run Tryz.prog W = .ok false W := fun W => eqd_is ns[j].k k false (by simp [hk]) W
  have hrw := hr.bel W0
  obtain ⟨q, o, hA, A', c', hR, k2, k3, k4, -, -⟩ := row_nd hrw hj
  subst hA
  have hiN := hid (show (Tryz.prog.info? 47).map (·.size) = some (ndC ns[j] A' c').length by rw [len_nd]; exact sizeNd)
  have hiS := hid (show (Tryz.prog.info? 47).map (·.size) = some (ndC ns[j] A' c').toArray.size by rw [List.size_toArray, len_nd]; exact sizeNd)
  have hzs := hid (show zNdC.size = (ndC ns[j] A' c').toArray.size by rw [zSizeNd, List.size_toArray, len_nd])
  have hone := hid (one_nd ns[j] A' c')
  have hTw := hid (fun W (hW : Rd W A' ns[j].v) => Twin_any A' ns[j].v.length c' ns[j].v W hW rfl (by omega))
  have h32 := hid (show (ns[j].k.1.map bv).length = 32 by rw [List.length_map, ns[j].k.2])
  have ok32 := hid (show (ns[j].k.1.map bv).toArray.all (·.oneCell') = true from all_oneCell_toArray (bvs_one ns[j].k.1))
  have hBN := hid (fun (W : World) (g : Nat) (h : W.heap[g]? = some (.cells (ndC ns[j] A' c').toArray 47 (0, 0))) => BoxN.of (rangeOf h))
  have y1 : IntKind.i64.wrap ((j : Int) + 1 - 1) = (j : Int) := by rw [IntKind.wrap_i64]; omega
  have y2 : (((j : Int) + 1) == 0) = false := by rw [beq_eq_false_iff_ne]; omega
  have y3 : (j : Int) + 1 - 1 = (j : Int) := by omega
  have hrv := hid k4.rd
  replace hR := hid hR
  generalize sidesM ⟨ns, root⟩ k = L at *
  generalize ns[j] = x at *
  have T0a := hid T0.all
  have hns := T0.ns
  replace hW := hid hW
  replace Z0 := hid Z0
  replace K0 := hid K0
  clear hL hmk T0 hz hm hr hen hnd hn hvx hv hrw ho m1 m2 m3 q1 q2 hlf k2 k3 k4 hk
  generalize hdk : k.1.map bv = dk at *
  generalize hdx : x.k.1.map bv = dx at *
  replace hdk := hid hdk
  replace hdx := hid hdx
  generalize hnn : ns.length = n at *
  clear hnn
  generalize hnc : ndC x A' c' = nc at *
  replace hnc := hid hnc
  go_enter Tryz.func26, Tryz.ntmps26
  go_wp2_with (first
    | (with_reducible refine wpList_alloc_row rfl 30 rfl zPfC zInfoPf ?_)
    | ((with_reducible refine wpList_load_rng rfl 24 (.tmp 2) rfl w.heap.size 0 rfl [Value.slice (some ⟨q, o, none⟩) n c, .int .i64 root] _ ?_ hut rfl hiT.out ?_); exact T0a.out)
    | ((with_reducible refine wpList_load_rng rfl 26 (.tmp 3) rfl (w.heap.size + 1) 0 rfl dk _ ?_ hu rfl hi.out ?_); exact K0.out))
  generalize ((w.alloc (.cells #[.slice (some ⟨q, o, none⟩) n c, .int .i64 root] 24)).alloc (.cells dk.toArray 26)).alloc (.cells zPfC 30) = w0 at *
  refine hW.out.mono ?_
  rintro e w1 ⟨A2, c2, rfl, hq, hb⟩
  have z1 := hid ((hb.block _ (block_lt Z0.out)).trans Z0.out)
  have kk1 := hid (rangeBel2 hb K0.out)
  have W1 := hid (W0.trans (hb.mono W0.size))
  have Q1 := hid ((OwnR.row hq).mono (G := fun b => w0.heap.size ≤ b ∧ b < w1.heap.size) fun b hb hl => ⟨hb, hl⟩)
  have low0 := hid (show w.heap.size + 1 + 1 < w0.heap.size from block_lt Z0.out)
  have n1 := (hb.cell (World.block_lt_of_cell? _ _ hns)).trans hns
  have r1 := hid (rangeBel2 hb hR.out)
  have v1 := hid (hrv.out.bel hb)
  have e1 := hid (heap_alloc_new w1 (.cells zPfC 30))
  have hlow := hid (show w.heap.size + 1 + 1 < w1.heap.size from block_lt z1.out)
  have s01 := hid hb.size
  clear hb hq K0 Z0 T0a hW W0 hns hR hrv
  go_wp2_with (first
    | (with_reducible refine wpList_alloc_row rfl 30 rfl zPfC zInfoPf ?_)
    | (with_reducible refine wpList_alloc_row rfl 47 rfl zNdC zInfoNd ?_)
    | ((with_reducible refine wpList_load_rng rfl 26 (.tmp 3) rfl (w.heap.size + 1) 0 rfl dk _ ?_ hu rfl hi.out ?_); exact kk1.out)
    | ((with_reducible refine wpList_built rfl 30 _ rfl (pfC ⟨k, 0, z0, [], L⟩ none 0 A2 c2).toArray [(0, .agg dk.toArray), (4, .slice A2 L.length c2)] ?_ ?_ ?_); exact (hbp A2 c2).out; rfl)
    | ((with_reducible refine wpList_store_row rfl 30 (.tmp 7) (.tmp 17) rfl _ _ rfl rfl 30 zPfC ?_ ?_ ?_ ?_ ?_); exact e1.out; exact (hps A2 c2).out; exact (hpz A2 c2).out; exact (hp1 A2 c2).out; intro w2 hgS hbS hsS; have X2 := hid (xnewP rfl hbS); have G2 := hid hgS; have z2 := hid ((X2.out.block _ (block_lt z1.out)).trans z1.out); have kk2 := hid (rangeBel2 X2.out kk1.out); have Q2 := hid (Q1.out.bel X2.out); have W2 := hid (W1.out.trans (X2.out.mono W1.out.size)); have n2 := (X2.out.cell (World.block_lt_of_cell? _ _ n1)).trans n1; have r2 := hid (rangeBel2 X2.out r1.out); have v2 := hid (v1.out.bel X2.out); have l12 := hid (block_lt hgS); have e2 := hid (heap_alloc_new w2 (.cells zNdC 47)); clear hgS hbS hsS)
    | ((with_reducible refine wpList_load_rng rfl 47 (.tmp 25) rfl q (o + j * 36) rfl nc _ ?_ hun rfl hiN.out ?_); exact r2.out)
    | ((with_reducible refine wpList_store_row rfl 47 (.tmp 8) (.tmp 26) rfl _ _ rfl rfl 47 zNdC ?_ ?_ ?_ ?_ ?_); exact e2.out; exact hiS.out; exact hzs.out; exact hone.out; intro w3 hgS hbS hsS; have X3 := hid (xnewP rfl hbS); have N3 := hid hgS; have G3 := hid ((X3.out.block _ (block_lt G2.out)).trans G2.out); have z3 := hid ((X3.out.block _ (block_lt z2.out)).trans z2.out); have kk3 := hid (rangeBel2 X3.out kk2.out); have Q3 := hid (Q2.out.bel X3.out); have W3 := hid (W2.out.trans (X3.out.mono W2.out.size)); have v3 := hid (v2.out.bel X3.out); have B3 := hBN.out w3 w2.heap.size hgS; have b3v := B3.val; clear hgS hbS hsS B3))
  refine (hTw.out _ v3.out).mono ?_
  rintro e w4 ⟨A4, c4, rfl, ho, hb⟩
  have N4 := hid ((hb.block _ (block_lt N3.out)).trans N3.out)
  have G4 := hid ((hb.block _ (block_lt G3.out)).trans G3.out)
  have z4 := hid ((hb.block _ (block_lt z3.out)).trans z3.out)
  have kk4 := hid (rangeBel2 hb kk3.out)
  have Q4 := hid (Q3.out.bel hb)
  have W4 := hid (W3.out.trans (hb.mono W3.out.size))
  have O4 := hid (ho.rd.row (F := fun b => w3.heap.size ≤ b) fun a ha _ => (ho.blk a ha).1)
  have cp := hid ho.cap
  have ob := hid (fun a (ha : A4 = some a) => (show w3.heap.size ≤ a.block from (ho.blk a ha).1))
  have l23 := hid (block_lt N3.out)
  have B4 := hBN.out w4 w2.heap.size N4.out
  have nk4 := B4.key
  rw [hdx.out] at nk4
  replace nk4 := hid nk4
  clear hb ho N3 G3 z3 kk3 Q3 W3 v3 hTw B4
  have ne1 := hid (show w.heap.size + 1 ≠ w1.heap.size by have := hlow.out; omega)
  have ne2 := hid (show w2.heap.size ≠ w1.heap.size by have := l12.out; omega)
  have ne3 := hid (show w.heap.size + 1 + 1 ≠ w1.heap.size by have := hlow.out; omega)
  have wle := hid (show w.heap.size ≤ w1.heap.size by have := hlow.out; omega)
  have lw4 := hid (show w1.heap.size ≤ w4.heap.size from Nat.le_of_lt (block_lt G4.out))
  go_wp2_with (first
    | ((with_reducible refine wpList_store_oneB rfl 27 (.tmp 30) (.tmp 29) rfl w1.heap.size 65 (.slice A4 x.v.length c4) (pfC ⟨k, 0, z0, [], L⟩ none 0 A2 c2).toArray 30 rfl rfl ?_ ?_ ?_ ?_ ?_ ?_); rfl; rfl; exact G4.out; (rw [(hsz ⟨k, 0, z0, [], L⟩ none 0 A2 c2).out]; decide); exact sizeOneS; intro w5 g5 h5; rw [(hsW A4 c4 A2 c2).out] at g5; have G5 := hid g5; have H5 := hid h5; clear g5 h5)
    | ((with_reducible refine wpList_store_oneB rfl 5 (.tmp 31) (.const (.int .u8 1)) rfl w1.heap.size 32 (.int .u8 1) (pfC ⟨k, 0, z0, x.v, L⟩ A4 c4 A2 c2).toArray 30 rfl rfl ?_ ?_ ?_ ?_ ?_ ?_); rfl; rfl; exact G5.out; (rw [(hsz ⟨k, 0, z0, x.v, L⟩ A4 c4 A2 c2).out]; decide); exact sizeOne8; intro w6 g6 h6; replace g6 : w6.heap[w1.heap.size]? = some (.cells ((pfC ⟨k, 0, z0, x.v, L⟩ A4 c4 A2 c2).toArray.setIfInBounds 32 (bv 1)) 30 (0, 0)) := g6; rw [(hsE A4 c4 A2 c2).out] at g6; have G6 := hid g6; have H6 := hid (H5.out.trans h6); have nk6 := hid (rangeAt_kept nk4.out fun hl => H6.out.block _ hl ne2.out); have kk6 := hid (rangeAt_kept kk4.out fun hl => H6.out.block _ hl ne1.out); clear g6 h6)
    | ((with_reducible refine wpList_load_rng rfl 26 (.tmp 32) rfl w2.heap.size 1 rfl dx _ ?_ hu rfl hixk.out ?_); exact nk6.out)
    | ((with_reducible refine wpList_load_rng rfl 26 (.tmp 3) rfl (w.heap.size + 1) 0 rfl dk _ ?_ hu rfl hik.out ?_); exact kk6.out)
    | ((with_reducible refine wpList_store_oneB rfl 5 (.tmp 36) (.const (.int .u8 2)) rfl w1.heap.size 32 (.int .u8 2) (pfC ⟨k, 1, z0, x.v, L⟩ A4 c4 A2 c2).toArray 30 rfl rfl ?_ ?_ ?_ ?_ ?_ ?_); rfl; rfl; exact G6.out; (rw [(hsz ⟨k, 1, z0, x.v, L⟩ A4 c4 A2 c2).out]; decide); exact sizeOne8; intro w7 g7 h7; replace g7 : w7.heap[w1.heap.size]? = some (.cells ((pfC ⟨k, 1, z0, x.v, L⟩ A4 c4 A2 c2).toArray.setIfInBounds 32 (bv 2)) 30 (0, 0)) := g7; rw [(hsF A4 c4 A2 c2).out] at g7; have G7 := hid g7; have H7 := hid (H6.out.trans h7); have nk7 := hid (rangeAt_kept nk4.out fun hl => H7.out.block _ hl ne2.out); clear g7 h7)
    | ((with_reducible refine wpList_load_rng rfl 26 (.tmp 37) rfl w2.heap.size 1 rfl dx _ ?_ hu rfl hixk.out ?_); exact nk7.out)
    | ((with_reducible refine wpList_store_manyB rfl 26 (.tmp 39) (.tmp 38) rfl w1.heap.size 33 dx (pfC ⟨k, 2, z0, x.v, L⟩ A4 c4 A2 c2).toArray 30 rfl rfl ?_ ?_ ?_ ?_ ?_); exact G7.out; (rw [(hsz ⟨k, 2, z0, x.v, L⟩ A4 c4 A2 c2).out, h32.out]; decide); exact hixk.out; exact ok32.out; intro w8 g8 h8; rw [(hsO A4 c4 A2 c2).out] at g8; have G8 := hid g8; have H8 := hid (H7.out.trans h8); clear g8 h8)
    | ((with_reducible refine wpList_load_rng rfl 30 (.tmp 7) rfl w1.heap.size 0 rfl (pfC ⟨k, 2, x.k, x.v, L⟩ A4 c4 A2 c2) _ ?_ hup rfl (hlF ⟨k, 2, x.k, x.v, L⟩ A4 c4 A2 c2).out ?_); exact rangeOf G8.out)
    | ((with_reducible refine wpList_store_row rfl 30 (.tmp 4) (.tmp 40) rfl (w.heap.size + 1 + 1) _ rfl rfl 30 zPfC ?_ ?_ ?_ ?_ ?_); exact (H8.out.block _ (block_lt z4.out) ne3.out).trans z4.out; exact (hlS _ A4 c4 A2 c2).out; exact (hlZ _ A4 c4 A2 c2).out; exact (hoF _ A4 c4 A2 c2).out; intro w9 hg9 hb9 hs9))
  have WL := W4.out.trans (Chg.below H8.out (Nat.le_trans wle.out lw4.out) (fun b hb e => by have := wle.out; omega))
  refine bodyPost_ret (res_pf1 Tryz.results26 _ _ (w.heap.size + 1 + 1) (pfC ⟨k, 2, x.k, x.v, L⟩ A4 c4 A2 c2) rfl hg9 (hln _ A4 c4 A2 c2).out) rfl ⟨A4, c4, A2, c2, rfl, ⟨?_, cp.out.1, cp.out.2, ?_⟩, WL.grown hb9 WL.size (fun g e => by injection e with e; omega)⟩
  · have R9 := (O4.out.chg H8.out (fun b hb _ e => by have hb : w3.heap.size ≤ b := hb; have := l12.out; have := l23.out; omega)).chg (Chg.of_grown hb9) (fun b hb _ e => by injection e with e; have hb : w3.heap.size ≤ b := hb; have := hlow.out; have := l12.out; have := l23.out; omega)
    exact R9.mono fun b hb _ => by have hb : w3.heap.size ≤ b := hb; have := wle.out; have := l12.out; have := l23.out; show w.heap.size ≤ b; omega
  · refine ((Q4.out.chg H8.out (fun b hb _ e => by have hb : w0.heap.size ≤ b ∧ b < w1.heap.size := hb; omega)).chg (Chg.of_grown hb9) (fun b hb _ e => by injection e with e; have hb : w0.heap.size ≤ b ∧ b < w1.heap.size := hb; have := low0.out; omega)).mono fun b hb _ => by have hb : w0.heap.size ≤ b ∧ b < w1.heap.size := hb; have := low0.out; show w.heap.size ≤ b; omega
theorem RPfOf_any (F : Nat → Prop) (A : Option Addr) (c : Nat) (ns : List Nd) (root : Int) (k : Dg) (w : World) (hr : Row F w A ns) (hc : ns.length ≤ 1000) (hv : ∀ x ∈ ns, x.v.length ≤ 1000000) (hm : mayT ⟨ns, root⟩ = true) :
    Calls Tryz.prog 26 #[.agg #[.slice A ns.length c, .int .i64 root], .agg (k.1.map bv).toArray] w fun e w' => ∃ A1 c1 A2 c2, e = .returned (.agg (pfC (makeF ⟨ns, root⟩ k) A1 c1 A2 c2).toArray) ∧ OfOk w' w.heap.size (makeF ⟨ns, root⟩ k) A1 c1 A2 c2 ∧ Below w.heap.size w w' := by
  by_cases hz : (wayP ns k 256 root).1 = 0
  · exact RPfOf_none F A c ns root k w hr hc hm hz
  · by_cases hk : (endN ⟨ns, root⟩ k).k = k
    · exact RPfOf_own F A c ns root k w hr hc hv hm hz hk
    · exact RPfOf_other F A c ns root k w hr hc hv hm hz hk
end Go.Proofs.YtapnhdpgogfceaaGreatDoor
