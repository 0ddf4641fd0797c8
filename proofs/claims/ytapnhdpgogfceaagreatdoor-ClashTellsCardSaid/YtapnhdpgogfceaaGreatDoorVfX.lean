/-
  Texts laid together: VfA, VfB, VfC, VfD, VfE, VfF.
-/
import Derived.Test.YtapnhdpgogfceaaGreatDoorVfS
import Derived.Test.YtapnhdpgogfceaaGreatDoorPfM
import Derived.Test.YtapnhdpgogfceaaGreatDoorPfA
import Derived.Test.YtapnhdpgogfceaaGreatDoorTagA
import Derived.Test.YtapnhdpgogfceaaGreatDoorPrR
import Derived.Test.YtapnhdpgogfceaaGreatDoorTrN
import Derived.Test.YtapnhdpgogfceaaGreatDoorPfC
set_option maxRecDepth 100000
/- (VfA)
  Contracts of the landed package verify: end, fork.
-/
namespace Go.Proofs.YtapnhdpgogfceaaGreatDoor
open Go.RowKit
set_option linter.unusedVariables false
set_option linter.unusedSimpArgs false
set_option maxRecDepth 100000

theorem Frs.base {w : World} {B B' : Nat} {A : Option Addr} {c : Nat} {l : List UInt8} (h : Frs w B A c l) (hB : B' ≤ B) : Frs w B' A c l := by
  obtain ⟨g, cap, zs, hv, h1, r⟩ := h
  exact ⟨g, cap, zs, hv, Nat.le_trans hB h1, r⟩
theorem len_endI {x : Pf} {l : List UInt8} (h : endI x = l) (hl : x.v.length ≤ 1000) : l.length ≤ 1000000 := by
  have := endI_le x hl
  rw [h] at this
  omega
theorem VfEnd_any (x : Pf) (A : Option Addr) (c : Nat) (D : Option Addr) (d : Nat) (w : World) (hr : Rd w A x.v) (h1 : x.v.length ≤ c) (h2 : c ≤ maxLen) (hl : x.v.length ≤ 1000) :
    Calls Tryz.prog 76 #[.agg (pfC x A c D d).toArray] w fun e w' => ∃ A' c', e = .returned (.slice A' (endI x).length c') ∧ Frs w' w.heap.size A' c' (endI x) ∧ Below w.heap.size w w' := by
  have W0 := ext_alloc w (.cells (pfC x A c D d).toArray 30)
  have B0 := BoxP.new w x A c D d 30
  have he := B0.en
  have hv := B0.val
  have hk := rd_keyP B0.key
  have ho := rd_keyP B0.oth
  have hrd := hr.bel W0
  have hsl := run_all32P
  have hup := Tryz.underlying30
  have hu := Tryz.underlying26
  by_cases e1 : x.e = 1
  · rw [e1] at he
    replace he : (w.alloc (.cells (pfC x A c D d).toArray 30)).cell? ⟨w.heap.size, 32, none⟩ = some (.int .u8 1) := he
    have hE : endI x = tagB 1 [x.k.1, x.v] := by unfold endI; rw [if_pos e1]
    have hO := fun W A hW => TBytes_any 1 A 2 2 [x.k.1, x.v] W hW rfl (by simp) (len_endI hE hl)
    have hR := fun W hW hV => rds_two W (some ⟨w.heap.size, 0, none⟩) A 32 c x.k.1 x.v 27 hW hV ⟨by rw [x.k.2]; omega, by unfold maxLen; omega⟩ ⟨h1, h2⟩
    rw [x.k.2] at hR
    rw [← hE] at hO
    replace hO := hid hO
    replace hR := hid hR
    have hk1 := hid hk
    have hv1 := hid hrd
    clear hE ho hk hrd B0 e1
    generalize endI x = l at *
    generalize pfC x A c D d = cs at *
    go_enter Tryz.func76, Tryz.ntmps76
    go_wp2
    generalize hw1 : w.alloc (.cells cs.toArray 30) = w1 at *
    go_still_tail 4, (by kernel_rfl)
    have B2 := (ext_alloc w1 (.cells #[.slice (some ⟨w.heap.size, 0, none⟩) 32 32, .slice A x.v.length c] 27)).trans ((bel_drew (w1.alloc (.cells #[.slice (some ⟨w.heap.size, 0, none⟩) 32 32, .slice A x.v.length c] 27))).mono (ext_alloc w1 _).size)
    have hR2 := hid ((hR.out w1 hk1.out hv1.out).bel (bel_drew _))
    have W2 := hid (ext_trans W0 B2)
    clear B2 hk1 hv1 hR
    go_wp2_with fail
    refine (hO.out _ _ hR2.out).mono ?_
    rintro e w3 ⟨A3, c3, rfl, hf3, hb3⟩
    go_wp2
    go_ret
    exact ⟨_, _, rfl, hf3.base W2.out.size, ext_trans W2.out hb3⟩
  by_cases e2 : x.e = 2
  · rw [e2] at he
    replace he : (w.alloc (.cells (pfC x A c D d).toArray 30)).cell? ⟨w.heap.size, 32, none⟩ = some (.int .u8 2) := he
    have hE : endI x = tagB 1 [x.o.1, x.v] := by unfold endI; rw [if_neg e1, if_pos e2]
    have hO := fun W A hW => TBytes_any 1 A 2 2 [x.o.1, x.v] W hW rfl (by simp) (len_endI hE hl)
    have hR := fun W hW hV => rds_two W (some ⟨w.heap.size, 33, none⟩) A 32 c x.o.1 x.v 27 hW hV ⟨by rw [x.o.2]; omega, by unfold maxLen; omega⟩ ⟨h1, h2⟩
    rw [x.o.2] at hR
    rw [← hE] at hO
    replace hO := hid hO
    replace hR := hid hR
    have hk1 := hid ho
    have hv1 := hid hrd
    clear hE ho hk hrd B0 e1 e2
    generalize endI x = l at *
    generalize pfC x A c D d = cs at *
    go_enter Tryz.func76, Tryz.ntmps76
    go_wp2
    generalize hw1 : w.alloc (.cells cs.toArray 30) = w1 at *
    go_still_tail 4, (by kernel_rfl)
    have B2 := (ext_alloc w1 (.cells #[.slice (some ⟨w.heap.size, 33, none⟩) 32 32, .slice A x.v.length c] 27)).trans ((bel_drew (w1.alloc (.cells #[.slice (some ⟨w.heap.size, 33, none⟩) 32 32, .slice A x.v.length c] 27))).mono (ext_alloc w1 _).size)
    have hR2 := hid ((hR.out w1 hk1.out hv1.out).bel (bel_drew _))
    have W2 := hid (ext_trans W0 B2)
    clear B2 hk1 hv1 hR
    go_wp2_with fail
    refine (hO.out _ _ hR2.out).mono ?_
    rintro e w3 ⟨A3, c3, rfl, hf3, hb3⟩
    go_wp2
    go_ret
    exact ⟨_, _, rfl, hf3.base W2.out.size, ext_trans W2.out hb3⟩
  · have hE : endI x = tagB 0 [] := by unfold endI; rw [if_neg e1, if_neg e2]
    have n1 := bv_ne e1
    have n2 := bv_ne e2
    replace he : (w.alloc (.cells (pfC x A c D d).toArray 30)).cell? ⟨w.heap.size, 32, none⟩ = some (.int .u8 (x.e.toNat : Int)) := he
    replace n1 : ((x.e.toNat : Int) == 1) = false := n1
    replace n2 : ((x.e.toNat : Int) == 2) = false := n2
    have hO := fun W => TBytes_any 0 none 0 0 [] W (fun h => absurd h (by simp)) rfl (by simp) (len_endI hE hl)
    rw [← hE] at hO
    replace hO := hid hO
    clear hE ho hk hrd B0 e1 e2 hv
    generalize endI x = l at *
    generalize x.e.toNat = en at *
    generalize pfC x A c D d = cs at *
    go_enter Tryz.func76, Tryz.ntmps76
    go_wp2_with fail
    refine (hO.out _).mono ?_
    rintro e w3 ⟨A3, c3, rfl, hf3, hb3⟩
    go_wp2
    go_ret
    exact ⟨_, _, rfl, hf3.base W0.size, ext_trans W0 hb3⟩
end Go.Proofs.YtapnhdpgogfceaaGreatDoor

/- (VfB)
  Contracts of the landed package verify: fork.
-/
namespace Go.Proofs.YtapnhdpgogfceaaGreatDoor
open Go.RowKit
set_option linter.unusedVariables false
set_option linter.unusedSimpArgs false
set_option maxRecDepth 100000

theorem row_dgV {F : Nat → Prop} {w : World} {A : Option Addr} {xs : List Dg} (h : Row F w A xs) {j : Nat} (hj : j < xs.length) : ∃ b o, A = some ⟨b, o, none⟩ ∧ w.rangeAt b (o + j * 32) (xs[j].1.map bv) := by
  obtain ⟨b, o, rfl, _, _, h3⟩ := h (by omega)
  obtain ⟨vs, h1, h2⟩ := h3 j _ (List.getElem?_eq_getElem hj)
  have h1 : vs = xs[j].1.map bv := h1
  subst h1
  exact ⟨b, o, rfl, h2⟩
def z2D : Array Value := (z0.1.map bv ++ z0.1.map bv).toArray
theorem zInfo2D : (Tryz.prog.info? 147).map (fun i => (i.zero, i.size)) = some (some (.agg z2D), z2D.size) := by kernel_rfl
theorem set_fst {a b c : List Value} (h : c.length = a.length) : setA (a ++ b).toArray 0 c = (c ++ b).toArray := by
  apply Array.ext'
  rw [setA_lay _ _ _ (by rw [List.size_toArray, List.length_append]; omega)]
  have := lay_mid [] a b c h
  simpa using this
theorem set_snd {a b c : List Value} {n : Nat} (hn : a.length = n) (h : c.length = b.length) : setA (a ++ b).toArray n c = (a ++ c).toArray := by
  subst hn
  apply Array.ext'
  rw [setA_lay _ _ _ (by rw [List.size_toArray, List.length_append]; omega)]
  have := lay_mid a b [] c h
  simpa using this
/-- Cells of a block stored anew: what the block is then. -/
theorem step_store_block {P : Program} {ops : Array Oper} {o : Oper} {a : Act} {w : World} {K : Act → World → Prop} {Q : Exit → Act → World → Prop} {X : Prop} (hw : o.guard = none) (ty : TypeId) (x y : Operand) (ho : o.op = .store ty x y)
    (g f : Nat) (cs : List Value) (cur : Array Value) (t : TypeId) (hx : a.eval x = .pointer (some ⟨g, f, none⟩)) (hy : a.eval y = .agg cs.toArray) (hg : w.heap[g]? = some (.cells cur t (0, 0))) (hfit : f + cs.length ≤ cur.size)
    (hi : (P.info? ty).map (·.size) = some cs.length) (h1 : cs.toArray.all (·.oneCell') = true)
    (h : ∀ w', w'.heap[g]? = some (.cells (setA cur f cs) t (0, 0)) → Chg (fun b => b = g) w w' → K (a.put o.dst undef) w') : if Region.wanted o (yielded ops a.tmps) = true then Oper.wp P o a w K Q else X := by
  rw [if_pos (by simp [Region.wanted, hw])]
  refine wp_store_mid ty x y ho g f cs.toArray hx hy (there_of_block hg f _ (by rw [List.size_toArray]; exact hfit)) (by rw [List.size_toArray]; exact hi) h1 ?_
  exact h _ (setCells_block cs f w cur hg) (chg_cells g f cs w)
theorem boxesPD (w : World) (x : Pf) (A : Option Addr) (c : Nat) (D : Option Addr) (d : Nat) (b : Dg) (t u : TypeId) :
    BoxP ((w.alloc (.cells (pfC x A c D d).toArray t)).alloc (.cells (b.1.map bv).toArray u)) w.heap.size x A c D d ∧ ((w.alloc (.cells (pfC x A c D d).toArray t)).alloc (.cells (b.1.map bv).toArray u)).rangeAt (w.heap.size + 1) 0 (b.1.map bv) ∧
    Below w.heap.size w ((w.alloc (.cells (pfC x A c D d).toArray t)).alloc (.cells (b.1.map bv).toArray u)) := by
  have h2 := rangeOf (heap_alloc_new (w.alloc (.cells (pfC x A c D d).toArray t)) (.cells (b.1.map bv).toArray u))
  rw [World.size_alloc] at h2
  exact ⟨(BoxP.new w x A c D d t).bel (ext_alloc _ _), h2, ext_trans (ext_alloc _ _) (ext_alloc _ _)⟩
theorem bel_none {w w1 : World} {g : Nat} (h : Chg (fun b => b = g) w w1) {B : Nat} (hB : B ≤ g) (hg : g ≤ w.heap.size) : Below B w w1 := h.below (Nat.le_trans hB hg) (fun b hb e => by omega)

set_option maxHeartbeats 2000000 in
theorem VfFork_0 (x : Pf) (A : Option Addr) (c : Nat) (D : Option Addr) (d i : Nat) (b s : Dg) (F : Nat → Prop) (w : World) (hi : i < x.ss.length) (hs : Row F w D x.ss) (he : x.ss[i] = s) (h256 : x.ss.length ≤ 256) (hbit : bitV x.k.1 i = 0) :
    Calls Tryz.prog 78 #[.agg (pfC x A c D d).toArray, .int .i64 (i : Int), .agg (b.1.map bv).toArray] w fun e w' => ∃ A' c', e = .returned (.slice A' (tagB 2 [b.1, s.1]).length c') ∧ Frs w' w.heap.size A' c' (tagB 2 [b.1, s.1]) ∧ Below w.heap.size w w' := by
  obtain ⟨B0, r0, W0⟩ := boxesPD w x A c D d b 30 26
  have hs0 := hs.bel W0
  obtain ⟨q, o, hD, hside⟩ := row_dgV hs0 hi
  rw [he] at hside
  subst hD
  have hu := Tryz.underlying26
  have hup := Tryz.underlying30
  have hu2 := Tryz.underlying147
  have hik := hid (sizeDg x.k)
  have hib := hid (sizeDg b)
  have hib2 := hid (sizeDg s)
  have hP : ∀ W, Calls Tryz.prog 98 #[.agg (x.k.1.map bv).toArray, .int .i64 (i : Int)] W fun r w' => r = .returned (.tuple #[.int .u8 0, .int .i64 0]) ∧ Below W.heap.size W w' := fun W => by
    have h := PBit_any x.k.1 i W x.k.2
    rw [hbit, show bitE (i : Int) = 0 from if_pos ⟨by omega, by omega⟩] at h
    exact h
  have hrk := B0.key
  have hsd := B0.sd
  have qlt := hid (show q < _ from World.block_lt_of_cell? _ _ (hside 0 (bv (s.1[0]'(by rw [s.2]; omega))) (by rw [List.getElem?_map, List.getElem?_eq_getElem (by rw [s.2]; omega)]; rfl)))
  have plt := hid B0.lt
  have blt := hid (show w.heap.size + 1 < _ from World.block_lt_of_cell? _ _ (r0 0 (bv (b.1[0]'(by rw [b.2]; omega))) (by rw [List.getElem?_map, List.getElem?_eq_getElem (by rw [b.2]; omega)]; rfl)))
  have hO := fun W A hW => TBytes_any 2 A 2 2 [b.1, s.1] W hW rfl (by simp) (by have := tag2_leP 2 (l := b.1) (m := s.1) (by rw [b.2]; omega) (by rw [s.2]; omega); omega)
  have hR := fun W g hW hV => rds_two W (some ⟨g, 0, none⟩) (some ⟨g, 32, none⟩) 32 32 b.1 s.1 27 hW hV ⟨by rw [b.2]; omega, by unfold maxLen; omega⟩ ⟨by rw [s.2]; omega, by unfold maxLen; omega⟩
  rw [b.2, s.2] at hR
  have hDr := fun (W : World) (g : Nat) (t : TypeId) (h : W.heap[g]? = some (.cells (b.1.map bv ++ s.1.map bv).toArray t (0, 0))) => (show Rd W (some ⟨g, 0, none⟩) b.1 ∧ Rd W (some ⟨g, 32, none⟩) s.1 from by
    have e0 := rangeOf h
    have e1 := range_sub (xs := []) (ys := b.1.map bv) (zs := s.1.map bv) (by simpa using e0) 0 rfl
    have e2 := range_sub (xs := b.1.map bv) (ys := s.1.map bv) (zs := []) (by simpa using e0) 32 (by rw [List.length_map, b.2])
    exact ⟨rd_keyP (by simpa using e1), rd_keyP (by simpa using e2)⟩)
  have hsl := run_all32P
  have hdl := hid (show (b.1.map bv).length = 32 by rw [List.length_map, b.2])
  have hsl2 := hid (show (s.1.map bv).length = 32 by rw [List.length_map, s.2])
  have hzl := hid (show (z0.1.map bv).length = 32 by rw [List.length_map, z0.2])
  have ob := hid (show (b.1.map bv).toArray.all (·.oneCell') = true from all_oneCell_toArray (bvs_one b.1))
  have os := hid (show (s.1.map bv).toArray.all (·.oneCell') = true from all_oneCell_toArray (bvs_one s.1))
  have hz := zInfo2D
  have hu8a : IntKind.u8.wrap 1 = 1 := by kernel_rfl
  have hu8b : IntKind.u8.wrap 0 = 0 := by kernel_rfl
  have hzz : z2D = (z0.1.map bv ++ z0.1.map bv).toArray := rfl
  obtain ⟨l, hl⟩ : ∃ l, tagB 2 [b.1, s.1] = l := ⟨_, rfl⟩
  rw [hl] at hO ⊢
  have hle := hid h256
  replace hside := hid hside
  replace hsd := hid hsd
  replace r0 := hid r0
  replace hrk := hid hrk
  replace hP := hid hP
  replace hO := hid hO
  replace hR := hid hR
  replace hDr := hid hDr
  clear hbit hl he B0 hs hs0 h256
  generalize hnn : x.ss.length = nn at *
  generalize pfC x A c (some ⟨q, o, none⟩) d = cs at *
  generalize x.k.1.map bv = dk at *
  generalize hdb : b.1.map bv = db at *
  generalize hds : s.1.map bv = ds at *
  generalize hdz : z0.1.map bv = dz at *
  replace hdb := hid hdb
  replace hds := hid hds
  clear hnn hdz
  go_enter Tryz.func78, Tryz.ntmps78
  go_wp2_with (first
    | ((with_reducible refine wpList_load_rng rfl 26 (.tmp 11) rfl w.heap.size 0 rfl dk _ ?_ hu rfl hik.out ?_); exact hrk.out))
  generalize (w.alloc (.cells cs.toArray 30)).alloc (.cells db.toArray 26) = w0 at *
  refine (hP.out _).mono ?_
  rintro e w1 ⟨rfl, hb⟩
  have r1 := hid (rangeBel2 hb r0.out)
  have s1 := hid (rangeBel2 hb hside.out)
  have c1 := hid ((hb.cell (World.block_lt_of_cell? _ _ hsd.out)).trans hsd.out)
  have W1 := hid (W0.trans (hb.mono W0.size))
  have q1 := hid (Nat.lt_of_lt_of_le qlt.out hb.size)
  have p1 := hid (Nat.lt_of_lt_of_le plt.out hb.size)
  have b1 := hid (Nat.lt_of_lt_of_le blt.out hb.size)
  clear hb r0 hside hsd hrk hP qlt plt blt
  go_wp2_with (first
    | (with_reducible refine wpList_alloc_row rfl 147 rfl z2D zInfo2D ?_))
  have e3 := heap_alloc_new w1 (.cells z2D 147)
  have W3 := hid (W1.out.trans ((ext_alloc w1 (.cells z2D 147)).mono W1.out.size))
  have r3 := hid (rangeBel2 (ext_alloc w1 (.cells z2D 147)) r1.out)
  have s3 := hid (rangeBel2 (ext_alloc w1 (.cells z2D 147)) s1.out)
  have c3 := (((ext_alloc w1 (.cells z2D 147)).cell (World.block_lt_of_cell? _ _ c1.out)).trans c1.out)
  have lt3 := hid (World.block_lt_of_cell? _ _ c3)
  have gs := hid (show w1.heap.size ≤ (w1.alloc (.cells z2D 147)).heap.size by simp)
  have hne1 := hid (show w.heap.size ≠ w1.heap.size by have := p1.out; omega)
  have hne2 := hid (show w.heap.size + 1 ≠ w1.heap.size by have := b1.out; omega)
  have hne3 := hid (show q ≠ w1.heap.size by have := q1.out; omega)
  have wle := hid (show w.heap.size ≤ w1.heap.size from W1.out.size)
  clear r1 s1 c1 W1 q1 p1 b1 hz
  generalize w1.alloc (.cells z2D 147) = w3 at *
  rw [hzz] at e3
  generalize w1.heap.size = g at *
  clear hzz
  refine wp_region_noPanic ?_
  refine wp_region_held_drew (S := fun w' => Chg (fun b => b = g) w3 w') (by kernel_rfl) ?_ (fun hHeld => ?_)
  · exact (Chg.of_bel (bel_drew w3))
  refine' wpAnyH_take (i := 0) (oi := _) (v := ?_) rfl (by kernel_rfl) (by kernel_rfl) (by kernel_rfl) (fun _ _ _ h => h) (Or.inl ⟨by rfl, ?_⟩) (by assumption) ?_
  rotate_left
  · intro W hSw
    go_simp
    first | done | (with_reducible rfl)
  try simp only [Act.put, sQa, sQb, sQc, gQa, gQb, gQc]
  refine' wpAnyH_take (i := 1) (oi := _) (v := ?_) rfl (by kernel_rfl) (by kernel_rfl) (by kernel_rfl) (fun _ _ _ h => h) (Or.inl ⟨by rfl, ?_⟩) (by assumption) ?_
  rotate_left
  · intro W hSw
    go_simp
    first | done | (with_reducible rfl)
  try simp only [Act.put, sQa, sQb, sQc, gQa, gQb, gQc]
  refine' wpAnyH_take (i := 2) (oi := _) (v := ?_) rfl (by kernel_rfl) (by kernel_rfl) (by kernel_rfl) (fun _ _ _ h => h) (Or.inl ⟨by rfl, ?_⟩) (by assumption) ?_
  rotate_left
  · intro W hSw
    go_simp
    first | done | (with_reducible rfl)
  try simp only [Act.put, sQa, sQb, sQc, gQa, gQb, gQc]
  refine' wpAnyH_take (i := 3) (oi := _) (v := _) rfl (by kernel_rfl) (by kernel_rfl) (by kernel_rfl) (fun _ _ _ h => h) (yieldsIf_load_mid (by rfl) _ _ rfl _ _ rfl _ _ (fun _ h => (rangeAt_kept r3.out fun hl => h.block _ hl hne2.out)) hu rfl hib.out) (by assumption) ?_
  try simp only [Act.put, sQa, sQb, sQc, gQa, gQb, gQc]
  refine' wpAnyH_take (i := 4) (oi := _) (v := ?_) rfl (by kernel_rfl) (by kernel_rfl) (by kernel_rfl) (fun _ _ _ h => h) (Or.inl ⟨by rfl, ?_⟩) (by assumption) ?_
  rotate_left
  · intro W hSw
    go_simp
    first | done | (with_reducible rfl)
  try simp only [Act.put, sQa, sQb, sQc, gQa, gQb, gQc]
  refine' wpAnyH_take (i := 5) (oi := _) (v := ?_) rfl (by kernel_rfl) (by kernel_rfl) (by kernel_rfl) (fun _ _ _ h => h) (Or.inl ⟨by rfl, ?_⟩) (by assumption) ?_
  rotate_left
  · intro W hSw
    have hCell := ((World.cell?_of_block (a := ⟨w.heap.size, 66, none⟩) (hSw.block _ lt3.out hne1.out)).trans c3)
    go_simp
    first | done | (with_reducible rfl)
  try simp only [Act.put, sQa, sQb, sQc, gQa, gQb, gQc]
  refine' wpAnyH_take (i := 6) (oi := _) (v := ?_) rfl (by kernel_rfl) (by kernel_rfl) (by kernel_rfl) (fun _ _ _ h => h) (Or.inl ⟨by rfl, ?_⟩) (by assumption) ?_
  rotate_left
  · intro W hSw
    go_simp
    first | done | (with_reducible rfl)
  try simp only [Act.put, sQa, sQb, sQc, gQa, gQb, gQc]
  refine' wpAnyH_take (i := 7) (oi := _) (v := ?_) rfl (by kernel_rfl) (by kernel_rfl) (by kernel_rfl) (fun _ _ _ h => h) (Or.inl ⟨by rfl, ?_⟩) (by assumption) ?_
  rotate_left
  · intro W hSw
    go_simp
    first | done | (with_reducible rfl)
  try simp only [Act.put, sQa, sQb, sQc, gQa, gQb, gQc]
  refine' wpAnyH_take (i := 8) (oi := _) (v := _) rfl (by kernel_rfl) (by kernel_rfl) (by kernel_rfl) (fun _ _ _ h => h) (yieldsIf_load_mid (by rfl) _ _ rfl _ _ rfl _ _ (fun _ h => (rangeAt_kept s3.out fun hl => h.block _ hl hne3.out)) hu rfl hib2.out) (by assumption) ?_
  try simp only [Act.put, sQa, sQb, sQc, gQa, gQb, gQc]
  refine' wpAnyH_take (i := 9) (oi := _) (v := ?_) rfl (by kernel_rfl) (by kernel_rfl) (by kernel_rfl) (fun _ _ _ h => h) (Or.inl ⟨by rfl, ?_⟩) (by assumption) ?_
  rotate_left
  · intro W hSw
    go_simp
    first | done | (with_reducible rfl)
  try simp only [Act.put, sQa, sQb, sQc, gQa, gQb, gQc]
  refine wpAnyH_ready (rs := [10]) (by kernel_rfl) (by simp) ?_
  refine AllReadyH.cons (o := _) rfl (fun K hK => ?_) AllReadyH.nil
  refine step_store_block rfl 26 (.tmp 26) (.tmp 20) rfl g 0 db _ _ rfl rfl e3 (by simp [hdl.out, hzl.out]) hib.out ob.out ?_
  intro w5 e5 hC5
  rw [set_fst (by rw [hdl.out, hzl.out])] at e5
  refine hK.out _ _ ?_ (fun hHeld => ?_)
  · exact hHeld.trans hC5
  clear hK K
  try simp only [Act.put, sQa, sQb, sQc, gQa, gQb, gQc]
  refine' wpAnyH_take (i := 11) (oi := _) (v := ?_) rfl (by kernel_rfl) (by kernel_rfl) (by kernel_rfl) (fun _ _ _ h => h) (Or.inl ⟨by rfl, ?_⟩) (by assumption) ?_
  rotate_left
  · intro W hSw
    go_simp
    first | done | (with_reducible rfl)
  try simp only [Act.put, sQa, sQb, sQc, gQa, gQb, gQc]
  refine wpAnyH_ready (rs := [12]) (by kernel_rfl) (by simp) ?_
  refine AllReadyH.cons (o := _) rfl (fun K hK => ?_) AllReadyH.nil
  refine step_store_block rfl 26 (.tmp 27) (.tmp 25) rfl g 32 ds _ _ rfl rfl e5 (by simp [hdl.out, hzl.out, hsl2.out]) hib2.out os.out ?_
  intro w6 e6 hC6
  rw [set_snd hdl.out (by rw [hsl2.out, hzl.out])] at e6
  refine hK.out _ _ ?_ (fun hHeld => ?_)
  · exact hHeld.trans hC6
  clear hK K
  try simp only [Act.put, sQa, sQb, sQc, gQa, gQb, gQc]
  refine wpAnyH_done (by kernel_rfl) ?_ _
  refine NoPanic.normal ?_
  obtain ⟨k1, k2⟩ := hDr.out w6 g _ e6
  have k1 := hid k1
  have k2 := hid k2
  have W6 := hid (W3.out.trans (bel_none hHeld wle.out gs.out))
  clear hHeld e3 e5 e6 hC5 hC6 hDr r3 s3 c3 W3
  go_wp2
  go_still_tail 4, (by kernel_rfl)
  have B2 := (ext_alloc w6 (.cells #[.slice (some ⟨g, 0, none⟩) 32 32, .slice (some ⟨g, 32, none⟩) 32 32] 27)).trans ((bel_drew (w6.alloc (.cells #[.slice (some ⟨g, 0, none⟩) 32 32, .slice (some ⟨g, 32, none⟩) 32 32] 27))).mono (ext_alloc w6 _).size)
  have hR2 := hid ((hR.out w6 g k1.out k2.out).bel (bel_drew _))
  have W7 := hid (W6.out.trans (B2.mono W6.out.size))
  clear B2 k1 k2 hR W6
  go_wp2_with fail
  refine (hO.out _ _ hR2.out).mono ?_
  rintro e w8 ⟨A8, c8, rfl, hf8, hb8⟩
  go_wp2
  go_ret
  exact ⟨_, _, rfl, hf8.base W7.out.size, W7.out.trans (hb8.mono W7.out.size)⟩

set_option maxHeartbeats 2000000 in
theorem VfFork_1 (x : Pf) (A : Option Addr) (c : Nat) (D : Option Addr) (d i : Nat) (b s : Dg) (F : Nat → Prop) (w : World) (hi : i < x.ss.length) (hs : Row F w D x.ss) (he : x.ss[i] = s) (h256 : x.ss.length ≤ 256) (hbit : bitV x.k.1 i = 1) :
    Calls Tryz.prog 78 #[.agg (pfC x A c D d).toArray, .int .i64 (i : Int), .agg (b.1.map bv).toArray] w fun e w' => ∃ A' c', e = .returned (.slice A' (tagB 2 [s.1, b.1]).length c') ∧ Frs w' w.heap.size A' c' (tagB 2 [s.1, b.1]) ∧ Below w.heap.size w w' := by
  obtain ⟨B0, r0, W0⟩ := boxesPD w x A c D d b 30 26
  have hs0 := hs.bel W0
  obtain ⟨q, o, hD, hside⟩ := row_dgV hs0 hi
  rw [he] at hside
  subst hD
  have hu := Tryz.underlying26
  have hup := Tryz.underlying30
  have hu2 := Tryz.underlying147
  have hik := hid (sizeDg x.k)
  have hib := hid (sizeDg b)
  have hib2 := hid (sizeDg s)
  have hP : ∀ W, Calls Tryz.prog 98 #[.agg (x.k.1.map bv).toArray, .int .i64 (i : Int)] W fun r w' => r = .returned (.tuple #[.int .u8 1, .int .i64 0]) ∧ Below W.heap.size W w' := fun W => by
    have h := PBit_any x.k.1 i W x.k.2
    rw [hbit, show bitE (i : Int) = 0 from if_pos ⟨by omega, by omega⟩] at h
    exact h
  have hrk := B0.key
  have hsd := B0.sd
  have qlt := hid (show q < _ from World.block_lt_of_cell? _ _ (hside 0 (bv (s.1[0]'(by rw [s.2]; omega))) (by rw [List.getElem?_map, List.getElem?_eq_getElem (by rw [s.2]; omega)]; rfl)))
  have plt := hid B0.lt
  have blt := hid (show w.heap.size + 1 < _ from World.block_lt_of_cell? _ _ (r0 0 (bv (b.1[0]'(by rw [b.2]; omega))) (by rw [List.getElem?_map, List.getElem?_eq_getElem (by rw [b.2]; omega)]; rfl)))
  have hO := fun W A hW => TBytes_any 2 A 2 2 [s.1, b.1] W hW rfl (by simp) (by have := tag2_leP 2 (l := s.1) (m := b.1) (by rw [s.2]; omega) (by rw [b.2]; omega); omega)
  have hR := fun W g hW hV => rds_two W (some ⟨g, 0, none⟩) (some ⟨g, 32, none⟩) 32 32 s.1 b.1 27 hW hV ⟨by rw [s.2]; omega, by unfold maxLen; omega⟩ ⟨by rw [b.2]; omega, by unfold maxLen; omega⟩
  rw [s.2, b.2] at hR
  have hDr := fun (W : World) (g : Nat) (t : TypeId) (h : W.heap[g]? = some (.cells (s.1.map bv ++ b.1.map bv).toArray t (0, 0))) => (show Rd W (some ⟨g, 0, none⟩) s.1 ∧ Rd W (some ⟨g, 32, none⟩) b.1 from by
    have e0 := rangeOf h
    have e1 := range_sub (xs := []) (ys := s.1.map bv) (zs := b.1.map bv) (by simpa using e0) 0 rfl
    have e2 := range_sub (xs := s.1.map bv) (ys := b.1.map bv) (zs := []) (by simpa using e0) 32 (by rw [List.length_map, s.2])
    exact ⟨rd_keyP (by simpa using e1), rd_keyP (by simpa using e2)⟩)
  have hsl := run_all32P
  have hdl := hid (show (b.1.map bv).length = 32 by rw [List.length_map, b.2])
  have hsl2 := hid (show (s.1.map bv).length = 32 by rw [List.length_map, s.2])
  have hzl := hid (show (z0.1.map bv).length = 32 by rw [List.length_map, z0.2])
  have ob := hid (show (b.1.map bv).toArray.all (·.oneCell') = true from all_oneCell_toArray (bvs_one b.1))
  have os := hid (show (s.1.map bv).toArray.all (·.oneCell') = true from all_oneCell_toArray (bvs_one s.1))
  have hz := zInfo2D
  have hu8a : IntKind.u8.wrap 1 = 1 := by kernel_rfl
  have hu8b : IntKind.u8.wrap 0 = 0 := by kernel_rfl
  have hzz : z2D = (z0.1.map bv ++ z0.1.map bv).toArray := rfl
  obtain ⟨l, hl⟩ : ∃ l, tagB 2 [s.1, b.1] = l := ⟨_, rfl⟩
  rw [hl] at hO ⊢
  have hle := hid h256
  replace hside := hid hside
  replace hsd := hid hsd
  replace r0 := hid r0
  replace hrk := hid hrk
  replace hP := hid hP
  replace hO := hid hO
  replace hR := hid hR
  replace hDr := hid hDr
  clear hbit hl he B0 hs hs0 h256
  generalize hnn : x.ss.length = nn at *
  generalize pfC x A c (some ⟨q, o, none⟩) d = cs at *
  generalize x.k.1.map bv = dk at *
  generalize hdb : b.1.map bv = db at *
  generalize hds : s.1.map bv = ds at *
  generalize hdz : z0.1.map bv = dz at *
  replace hdb := hid hdb
  replace hds := hid hds
  clear hnn hdz
  go_enter Tryz.func78, Tryz.ntmps78
  go_wp2_with (first
    | ((with_reducible refine wpList_load_rng rfl 26 (.tmp 11) rfl w.heap.size 0 rfl dk _ ?_ hu rfl hik.out ?_); exact hrk.out))
  generalize (w.alloc (.cells cs.toArray 30)).alloc (.cells db.toArray 26) = w0 at *
  refine (hP.out _).mono ?_
  rintro e w1 ⟨rfl, hb⟩
  have r1 := hid (rangeBel2 hb r0.out)
  have s1 := hid (rangeBel2 hb hside.out)
  have c1 := hid ((hb.cell (World.block_lt_of_cell? _ _ hsd.out)).trans hsd.out)
  have W1 := hid (W0.trans (hb.mono W0.size))
  have q1 := hid (Nat.lt_of_lt_of_le qlt.out hb.size)
  have p1 := hid (Nat.lt_of_lt_of_le plt.out hb.size)
  have b1 := hid (Nat.lt_of_lt_of_le blt.out hb.size)
  clear hb r0 hside hsd hrk hP qlt plt blt
  go_wp2_with (first
    | (with_reducible refine wpList_alloc_row rfl 147 rfl z2D zInfo2D ?_))
  have e3 := heap_alloc_new w1 (.cells z2D 147)
  have W3 := hid (W1.out.trans ((ext_alloc w1 (.cells z2D 147)).mono W1.out.size))
  have r3 := hid (rangeBel2 (ext_alloc w1 (.cells z2D 147)) r1.out)
  have s3 := hid (rangeBel2 (ext_alloc w1 (.cells z2D 147)) s1.out)
  have c3 := (((ext_alloc w1 (.cells z2D 147)).cell (World.block_lt_of_cell? _ _ c1.out)).trans c1.out)
  have lt3 := hid (World.block_lt_of_cell? _ _ c3)
  have gs := hid (show w1.heap.size ≤ (w1.alloc (.cells z2D 147)).heap.size by simp)
  have hne1 := hid (show w.heap.size ≠ w1.heap.size by have := p1.out; omega)
  have hne2 := hid (show w.heap.size + 1 ≠ w1.heap.size by have := b1.out; omega)
  have hne3 := hid (show q ≠ w1.heap.size by have := q1.out; omega)
  have wle := hid (show w.heap.size ≤ w1.heap.size from W1.out.size)
  clear r1 s1 c1 W1 q1 p1 b1 hz
  generalize w1.alloc (.cells z2D 147) = w3 at *
  rw [hzz] at e3
  generalize w1.heap.size = g at *
  clear hzz
  refine wp_region_noPanic ?_
  refine wp_region_held_drew (S := fun w' => Chg (fun b => b = g) w3 w') (by kernel_rfl) ?_ (fun hHeld => ?_)
  · exact (Chg.of_bel (bel_drew w3))
  refine' wpAnyH_take (i := 0) (oi := _) (v := ?_) rfl (by kernel_rfl) (by kernel_rfl) (by kernel_rfl) (fun _ _ _ h => h) (Or.inl ⟨by rfl, ?_⟩) (by assumption) ?_
  rotate_left
  · intro W hSw
    go_simp
    first | done | (with_reducible rfl)
  try simp only [Act.put, sQa, sQb, sQc, gQa, gQb, gQc]
  refine' wpAnyH_take (i := 1) (oi := _) (v := ?_) rfl (by kernel_rfl) (by kernel_rfl) (by kernel_rfl) (fun _ _ _ h => h) (Or.inl ⟨by rfl, ?_⟩) (by assumption) ?_
  rotate_left
  · intro W hSw
    go_simp
    first | done | (with_reducible rfl)
  try simp only [Act.put, sQa, sQb, sQc, gQa, gQb, gQc]
  refine' wpAnyH_take (i := 2) (oi := _) (v := ?_) rfl (by kernel_rfl) (by kernel_rfl) (by kernel_rfl) (fun _ _ _ h => h) (Or.inl ⟨by rfl, ?_⟩) (by assumption) ?_
  rotate_left
  · intro W hSw
    go_simp
    first | done | (with_reducible rfl)
  try simp only [Act.put, sQa, sQb, sQc, gQa, gQb, gQc]
  refine' wpAnyH_take (i := 3) (oi := _) (v := _) rfl (by kernel_rfl) (by kernel_rfl) (by kernel_rfl) (fun _ _ _ h => h) (yieldsIf_load_mid (by rfl) _ _ rfl _ _ rfl _ _ (fun _ h => (rangeAt_kept r3.out fun hl => h.block _ hl hne2.out)) hu rfl hib.out) (by assumption) ?_
  try simp only [Act.put, sQa, sQb, sQc, gQa, gQb, gQc]
  refine' wpAnyH_take (i := 4) (oi := _) (v := ?_) rfl (by kernel_rfl) (by kernel_rfl) (by kernel_rfl) (fun _ _ _ h => h) (Or.inl ⟨by rfl, ?_⟩) (by assumption) ?_
  rotate_left
  · intro W hSw
    go_simp
    first | done | (with_reducible rfl)
  try simp only [Act.put, sQa, sQb, sQc, gQa, gQb, gQc]
  refine' wpAnyH_take (i := 5) (oi := _) (v := ?_) rfl (by kernel_rfl) (by kernel_rfl) (by kernel_rfl) (fun _ _ _ h => h) (Or.inl ⟨by rfl, ?_⟩) (by assumption) ?_
  rotate_left
  · intro W hSw
    have hCell := ((World.cell?_of_block (a := ⟨w.heap.size, 66, none⟩) (hSw.block _ lt3.out hne1.out)).trans c3)
    go_simp
    first | done | (with_reducible rfl)
  try simp only [Act.put, sQa, sQb, sQc, gQa, gQb, gQc]
  refine' wpAnyH_take (i := 6) (oi := _) (v := ?_) rfl (by kernel_rfl) (by kernel_rfl) (by kernel_rfl) (fun _ _ _ h => h) (Or.inl ⟨by rfl, ?_⟩) (by assumption) ?_
  rotate_left
  · intro W hSw
    go_simp
    first | done | (with_reducible rfl)
  try simp only [Act.put, sQa, sQb, sQc, gQa, gQb, gQc]
  refine' wpAnyH_take (i := 7) (oi := _) (v := ?_) rfl (by kernel_rfl) (by kernel_rfl) (by kernel_rfl) (fun _ _ _ h => h) (Or.inl ⟨by rfl, ?_⟩) (by assumption) ?_
  rotate_left
  · intro W hSw
    go_simp
    first | done | (with_reducible rfl)
  try simp only [Act.put, sQa, sQb, sQc, gQa, gQb, gQc]
  refine' wpAnyH_take (i := 8) (oi := _) (v := _) rfl (by kernel_rfl) (by kernel_rfl) (by kernel_rfl) (fun _ _ _ h => h) (yieldsIf_load_mid (by rfl) _ _ rfl _ _ rfl _ _ (fun _ h => (rangeAt_kept s3.out fun hl => h.block _ hl hne3.out)) hu rfl hib2.out) (by assumption) ?_
  try simp only [Act.put, sQa, sQb, sQc, gQa, gQb, gQc]
  refine' wpAnyH_take (i := 9) (oi := _) (v := ?_) rfl (by kernel_rfl) (by kernel_rfl) (by kernel_rfl) (fun _ _ _ h => h) (Or.inl ⟨by rfl, ?_⟩) (by assumption) ?_
  rotate_left
  · intro W hSw
    go_simp
    first | done | (with_reducible rfl)
  try simp only [Act.put, sQa, sQb, sQc, gQa, gQb, gQc]
  refine wpAnyH_ready (rs := [10]) (by kernel_rfl) (by simp) ?_
  refine AllReadyH.cons (o := _) rfl (fun K hK => ?_) AllReadyH.nil
  refine step_store_block rfl 26 (.tmp 26) (.tmp 20) rfl g 32 db _ _ rfl rfl e3 (by simp [hdl.out, hzl.out]) hib.out ob.out ?_
  intro w5 e5 hC5
  rw [set_snd hzl.out (by rw [hdl.out, hzl.out])] at e5
  refine hK.out _ _ ?_ (fun hHeld => ?_)
  · exact hHeld.trans hC5
  clear hK K
  try simp only [Act.put, sQa, sQb, sQc, gQa, gQb, gQc]
  refine' wpAnyH_take (i := 11) (oi := _) (v := ?_) rfl (by kernel_rfl) (by kernel_rfl) (by kernel_rfl) (fun _ _ _ h => h) (Or.inl ⟨by rfl, ?_⟩) (by assumption) ?_
  rotate_left
  · intro W hSw
    go_simp
    first | done | (with_reducible rfl)
  try simp only [Act.put, sQa, sQb, sQc, gQa, gQb, gQc]
  refine wpAnyH_ready (rs := [12]) (by kernel_rfl) (by simp) ?_
  refine AllReadyH.cons (o := _) rfl (fun K hK => ?_) AllReadyH.nil
  refine step_store_block rfl 26 (.tmp 27) (.tmp 25) rfl g 0 ds _ _ rfl rfl e5 (by simp [hdl.out, hzl.out, hsl2.out]) hib2.out os.out ?_
  intro w6 e6 hC6
  rw [set_fst (by rw [hsl2.out, hzl.out])] at e6
  refine hK.out _ _ ?_ (fun hHeld => ?_)
  · exact hHeld.trans hC6
  clear hK K
  try simp only [Act.put, sQa, sQb, sQc, gQa, gQb, gQc]
  refine wpAnyH_done (by kernel_rfl) ?_ _
  refine NoPanic.normal ?_
  obtain ⟨k1, k2⟩ := hDr.out w6 g _ e6
  have k1 := hid k1
  have k2 := hid k2
  have W6 := hid (W3.out.trans (bel_none hHeld wle.out gs.out))
  clear hHeld e3 e5 e6 hC5 hC6 hDr r3 s3 c3 W3
  go_wp2
  go_still_tail 4, (by kernel_rfl)
  have B2 := (ext_alloc w6 (.cells #[.slice (some ⟨g, 0, none⟩) 32 32, .slice (some ⟨g, 32, none⟩) 32 32] 27)).trans ((bel_drew (w6.alloc (.cells #[.slice (some ⟨g, 0, none⟩) 32 32, .slice (some ⟨g, 32, none⟩) 32 32] 27))).mono (ext_alloc w6 _).size)
  have hR2 := hid ((hR.out w6 g k1.out k2.out).bel (bel_drew _))
  have W7 := hid (W6.out.trans (B2.mono W6.out.size))
  clear B2 k1 k2 hR W6
  go_wp2_with fail
  refine (hO.out _ _ hR2.out).mono ?_
  rintro e w8 ⟨A8, c8, rfl, hf8, hb8⟩
  go_wp2
  go_ret
  exact ⟨_, _, rfl, hf8.base W7.out.size, W7.out.trans (hb8.mono W7.out.size)⟩

theorem VfFork_any (x : Pf) (A : Option Addr) (c : Nat) (D : Option Addr) (d i : Nat) (b s : Dg) (F : Nat → Prop) (w : World) (hi : i < x.ss.length) (hs : Row F w D x.ss) (he : x.ss[i] = s) (h256 : x.ss.length ≤ 256) :
    Calls Tryz.prog 78 #[.agg (pfC x A c D d).toArray, .int .i64 (i : Int), .agg (b.1.map bv).toArray] w fun e w' => ∃ A' c', e = .returned (.slice A' (forkI x.k i s b.1).length c') ∧ Frs w' w.heap.size A' c' (forkI x.k i s b.1) ∧ Below w.heap.size w w' := by
  have hlt : bitV x.k.1 (i : Int) < 2 := by unfold bitV; split; exact kb_lt _ _; omega
  unfold forkI
  rcases (show bitV x.k.1 (i : Int) = 0 ∨ bitV x.k.1 (i : Int) = 1 by omega) with h | h
  · rw [if_pos h]
    exact VfFork_0 x A c D d i b s F w hi hs he h256 h
  · rw [if_neg (by omega)]
    exact VfFork_1 x A c D d i b s F w hi hs he h256 h
end Go.Proofs.YtapnhdpgogfceaaGreatDoor

/- (VfC)
  Contracts of the landed package verify: the closure of inputs.
-/
namespace Go.Proofs.YtapnhdpgogfceaaGreatDoor
open Go.RowKit
set_option linter.unusedVariables false
set_option linter.unusedSimpArgs false
set_option maxRecDepth 100000

theorem slotBs : Slot Tryz.prog (List UInt8) 65 27 (.slice none 0 0) 24 where
  under := Tryz.underlying65
  info := by kernel_rfl
  zero := rfl
  pos := by decide
/-- A row of slices of bytes reads so. -/
theorem Row.rds {F : Nat → Prop} {w : World} {A : Option Addr} {ls : List (List UInt8)} (h : Row F w A ls) : Rds w A ls := fun hn => by
  obtain ⟨b, o, rfl, -, -, h3⟩ := h hn
  refine ⟨b, o, rfl, fun j l hl => ?_⟩
  obtain ⟨vs, ⟨A', c', rfl, k1, k2, k3⟩, h5⟩ := h3 j l hl
  refine ⟨A', c', ?_, k3.rd, k1, k2⟩
  have := h5 0 _ rfl
  simpa [show Enc.size (List UInt8) = 1 from rfl] using this
theorem RowO.thereV {α : Type} [Enc α] {E : TypeId} {F : Nat → Prop} {w : World} {B c g : Nat} {xs : List α} (h : RowO E F w B (some ⟨g, 0, none⟩) c xs) {j : Nat} (hj : j < xs.length) : w.there g (j * Enc.size α) (Enc.size α) := by
  obtain ⟨css, h1, ⟨h0, h2⟩, h3, h4⟩ := h
  rcases h2 with ⟨hv, _⟩ | ⟨g', cap, cur, hv, hbg, hg, hnc, hcm, hcs, ht⟩
  · injection hv with e; cases e
  · injection hv with e1 e2 e3
    injection e1 with e1
    injection e1 with e1
    subst e1 e3
    refine there_of_block hg _ _ ?_
    rw [hcs, ← Nat.succ_mul]
    exact Nat.mul_le_mul_right _ (by omega)
theorem run_storeVar_slice {P : Program} (w : World) (g f : Nat) (ty : TypeId) (A : Option Addr) (n c : Nat) (ht : w.there g f 1) (hi : (P.info? ty).map (·.size) = some 1) :
    (storeVar ty ⟨g, f, none⟩ (.slice A n c)).run P w = .ok () (w.setCells g f [.slice A n c]) := by
  have := run_storeCells_cells (P := P) g f [.slice A n c] 0 w (fun j hj => by simpa using (ht j (by simpa using hj)).1) (fun j hj => by simpa using (ht j (by simpa using hj)).2) (fun v hv => by simp at hv; subst hv; rfl)
  cases hq : P.info? ty with
  | none => simp [hq] at hi
  | some i =>
    have hs : i.size = 1 := by simpa [hq] using hi
    simp only [Nat.add_zero] at this
    simp [storeVar, sizeOf, typeInfo, hq, Value.cells, hs, this]
theorem wp_store_slice {P : Program} {op : Oper} {a : Act} {w : World} {K : Act → World → Prop} {Q : Exit → Act → World → Prop} (ty : TypeId) (x y : Operand) (ho : op.op = .store ty x y)
    (g f : Nat) (A : Option Addr) (n c : Nat) (hx : a.eval x = .pointer (some ⟨g, f, none⟩)) (hy : a.eval y = .slice A n c) (ht : w.there g f 1) (hi : (P.info? ty).map (·.size) = some 1)
    (h : K (a.put op.dst undef) (w.setCells g f [.slice A n c])) : op.wp P a w K Q := by
  unfold Oper.wp execOp
  simp only [ho, hx, hy, Instr.storeAt, Instr.sureAddr, Sem.run_bind, Sem.run_pure, Result.andThen_ok, run_storeVar_slice w g f ty A n c ht hi]
  exact h
theorem step_store_slice {P : Program} {ops : Array Oper} {o : Oper} {a : Act} {w : World} {K : Act → World → Prop} {Q : Exit → Act → World → Prop} {X : Prop} (hw : o.guard = none) (ty : TypeId) (x y : Operand) (ho : o.op = .store ty x y)
    (g f : Nat) (A : Option Addr) (n c : Nat) (hx : a.eval x = .pointer (some ⟨g, f, none⟩)) (hy : a.eval y = .slice A n c) (ht : w.there g f 1) (hi : (P.info? ty).map (·.size) = some 1)
    (h : ∀ w', w' = w.setCells g f [.slice A n c] → K (a.put o.dst undef) w') : if Region.wanted o (yielded ops a.tmps) = true then Oper.wp P o a w K Q else X := by
  rw [if_pos (by simp [Region.wanted, hw])]
  exact wp_store_slice ty x y ho g f A n c hx hy ht hi (h _ rfl)
/-- One slice in a new block. -/
theorem rds_one (w : World) (A : Option Addr) (c : Nat) (l : List UInt8) (t : TypeId) (h : Rd w A l) (d1 : l.length ≤ c ∧ c ≤ maxLen) : Rds (w.alloc (.cells [Value.slice A l.length c].toArray t)) (some ⟨w.heap.size, 0, none⟩) [l] := fun _ => by
  have hb := ext_alloc w (.cells [Value.slice A l.length c].toArray t)
  refine ⟨w.heap.size, 0, rfl, fun j l' hl => ?_⟩
  rcases j with _ | j
  · simp at hl
    subst hl
    refine ⟨A, c, ?_, h.bel hb, d1.1, d1.2⟩
    rw [cell_of_row _ _ _ _ t (0, 0) (heap_alloc_new w _)]
    rfl
  · simp at hl
theorem Frs.blk {w : World} {B : Nat} {A : Option Addr} {c : Nat} {l : List UInt8} (h : Frs w B A c l) : ∀ a, A = some a → B ≤ a.block := by
  obtain ⟨g, cap, zs, hv, hB, _⟩ := h
  injection hv with hA _ _
  subst hA
  rintro a ha
  injection ha with ha
  subst ha
  exact hB
theorem Frs.rep {w : World} {B : Nat} {A : Option Addr} {c : Nat} {l : List UInt8} {F : Nat → Prop} (h : Frs w B A c l) (hF : ∀ b, B ≤ b → F b) : Enc.rep F w l [.slice A l.length c] :=
  ⟨A, c, rfl, h.cap.1, h.cap.2, h.rd.row fun a ha _ => hF _ (h.blk a ha)⟩
theorem below_noneV {w w1 : World} (h : w.grownBy w1 none) : Below w.heap.size w w1 := ⟨h.os, h.tape, h.output, h.size, fun b hb => h.block b hb (fun e => by cases e)⟩
set_option maxHeartbeats 2000000 in
theorem VfUp_any (x : Pf) (A : Option Addr) (c : Nat) (D : Option Addr) (d gp gl g i c' B : Nat) (xs : List (List UInt8)) (s : Dg) (u : List UInt8) (F : Nat → Prop) (w : World) (hp : w.rangeAt gp 0 (pfC x A c D d)) (hl : w.cell? ⟨gl, 0, none⟩ = some (.slice (some ⟨g, 0, none⟩) xs.length c'))
    (ho : RowO 27 (fun b => g < b) w B (some ⟨g, 0, none⟩) c' xs) (hi : i < x.ss.length) (hn : xs.length = x.ss.length + 1) (h256 : x.ss.length ≤ 256) (hs : Row F w D x.ss) (hF : ∀ b, F b → b ≠ g) (he : x.ss[i] = s) (hu : xs[i + 1]? = some u) (hul : u.length ≤ 3000)
    (hpg : gp ≠ g) (hlg : gl ≠ g) (hT : Tab w) (hTg : 0 < g) (hgw : g < w.heap.size) :
    Calls Tryz.prog 77 #[.int .i64 (i : Int), .pointer (some ⟨gp, 0, none⟩), .pointer (some ⟨gl, 0, none⟩)] w fun e w' => e = .returned (.tuple #[]) ∧ RowO 27 (fun b => g < b) w' B (some ⟨g, 0, none⟩) c' (xs.set i (forkI x.k i s (sha256 u))) ∧ Chg (fun b => b = g) w w' := by
  have hup := Tryz.underlying30
  have hip := hid (sizePfC x A c D d)
  obtain ⟨q, hq, hcs⟩ := ho.cells (by omega)
  injection hq with hq
  injection hq with hq
  subst hq
  obtain ⟨vs, ⟨A1, c1, rfl, k1, k2, k3⟩, h5⟩ := hcs (i + 1) u hu
  have hel : w.cell? ⟨g, i + 1, none⟩ = some (.slice A1 u.length c1) := by
    have := h5 0 _ rfl
    simpa [show Enc.size (List UInt8) = 1 from rfl] using this
  clear h5 hcs
  have hO := hid (fun W A hW hTW => Of_any A 1 1 [u] W hW rfl (by simp) (by simp; omega) hTW)
  have hOne := hid (fun W hW => rds_one W A1 c1 u 27 hW ⟨k1, k2⟩)
  obtain ⟨dg, hdg⟩ : ∃ dg : Dg, dg.1 = sha256 u := ⟨⟨sha256 u, shaLen u⟩, rfl⟩
  have hdg2 : sha256 [u].flatten = dg.1 := by rw [hdg]; simp
  have hFk := hid (fun W hW => VfFork_any x A c D d i dg s F W hi hW he h256)
  rw [hdg2] at hO
  rw [← hdg]
  clear hdg hdg2
  have hil := hid (show (i : Int) + 1 ≤ 256 ∧ 0 ≤ (i : Int) by omega)
  have w1 : IntKind.i64.wrap ((i : Int) + 1) = (i : Int) + 1 := by rw [IntKind.wrap_i64]; omega
  have w2 : (0 : Int) ≤ (i : Int) + 1 := by omega
  have w3 : ((i : Int) + 1).toNat = i + 1 := by omega
  have w4 : ((i : Int) + 1) < (xs.length : Int) := by omega
  have w5 : i + 1 < xs.length := by omega
  have w6 : i < xs.length := by omega
  have hrd := hid k3.rd
  have hst := hid (show (Tryz.prog.info? 27).map (·.size) = some 1 by kernel_rfl)
  have lp := hid (show gp < w.heap.size from World.block_lt_of_cell? _ _ (BoxP.of hp).en)
  have ll := hid (World.block_lt_of_cell? _ _ hl)
  have lts := hid hi
  have hul2 := hid hul
  have hfl : ∀ W : World, Chg (fun b => b = g) w W → Rd W A1 u ∧ Row F W D x.ss ∧ Tab W := fun W hc => by
    refine ⟨?_, hs.chg hc (fun b hb _ e => hF b hb e), fun j hj => (World.cell?_of_block (a := ⟨0, j, none⟩) (hc.block _ (Nat.lt_trans hTg hgw) (by show ¬ 0 = g; omega))).trans (hT j hj)⟩
    exact (k3.kept (fun b hb hl => hc.block b hl (fun e => by have hb : g < b := hb; omega)) hc.size).rd
  replace hfl := hid hfl
  have hod := hid (ho.bel (bel_drew w))
  have ths := hid (fun (W : World) (hW : RowO 27 (fun b => g < b) W B (some ⟨g, 0, none⟩) c' xs) => (show W.there g i 1 from by have := hW.thereV w6; simpa [show Enc.size (List UInt8) = 1 from rfl] using this))
  have hset := hid (fun (W : World) (hW : RowO 27 (fun b => g < b) W B (some ⟨g, 0, none⟩) c' xs) A6 c6 B6 (l : List UInt8) (hB6 : g < B6) (hf : Frs W B6 A6 c6 l) => (show RowO 27 (fun b => g < b) (W.setCells g i [.slice A6 l.length c6]) B (some ⟨g, 0, none⟩) c' (xs.set i l) from by
    have := hW.set w6 (hf.rep (F := fun b => g < b) (fun b hb => by show g < b; omega))
    simpa [show Enc.size (List UInt8) = 1 from rfl] using this))
  have hBK := hid (fun (W1 W2 : World) (hS : Chg (fun b => b = g) w W1 ∧ W1.cell? ⟨g, i + 1, none⟩ = some (.slice A1 u.length c1)) (hB : Below W1.heap.size W1 W2) => (show Chg (fun b => b = g) w W2 ∧ W2.cell? ⟨g, i + 1, none⟩ = some (.slice A1 u.length c1) from ⟨hS.1.trans (Chg.of_bel hB), (hB.cell (World.block_lt_of_cell? _ _ hS.2)).trans hS.2⟩))
  have hSK := hid (fun (W1 : World) (v : Value) (hS : Chg (fun b => b = g) w W1 ∧ W1.cell? ⟨g, i + 1, none⟩ = some (.slice A1 u.length c1)) => (show Chg (fun b => b = g) w (W1.setCells g i [v]) ∧ (W1.setCells g i [v]).cell? ⟨g, i + 1, none⟩ = some (.slice A1 u.length c1) from ⟨hS.1.trans (chg_cells g i [v] W1), by
    show (W1.setCell ⟨g, i, none⟩ v).cell? _ = _
    rw [World.cell?_setCell_other _ _ _ _ (by intro e; injection e with e1 e2; omega)]
    exact hS.2⟩))
  have hS0 := hid (hBK.out w w.drew ⟨Chg.refl _ _, hel⟩ (bel_drew w))
  clear ho hs hF he hu hul hT k1 k2 k3 hi h256 hn
  generalize hnx : xs.length = nx at *
  generalize hcp : pfC x A c D d = cs at *
  replace hcp := hid hcp
  replace hnx := hid hnx
  go_enter Tryz.func77, Tryz.ntmps77
  go_wp2
  refine wp_region_noPanic ?_
  refine wp_region_held_drew (S := fun w' => Chg (fun b => b = g) w w' ∧ w'.cell? ⟨g, i + 1, none⟩ = some (.slice A1 u.length c1)) (by kernel_rfl) ?_ (fun hHeld => ?_)
  · exact hS0.out
  refine' wpAnyH_take (i := 0) (oi := _) (v := ?_) rfl (by kernel_rfl) (by kernel_rfl) (by kernel_rfl) (fun _ _ _ h => h) (Or.inl ⟨by rfl, ?_⟩) (by assumption) ?_
  rotate_left
  · intro W hSw
    have hCell := ((World.cell?_of_block (a := ⟨gl, 0, none⟩) (hSw.1.block _ ll.out hlg)).trans hl)
    go_simp
    first | done | (with_reducible rfl)
  try simp only [Act.put, sQa, sQb, sQc, gQa, gQb, gQc]
  refine' wpAnyH_take (i := 1) (oi := _) (v := ?_) rfl (by kernel_rfl) (by kernel_rfl) (by kernel_rfl) (fun _ _ _ h => h) (Or.inl ⟨by rfl, ?_⟩) (by assumption) ?_
  rotate_left
  · intro W hSw
    go_simp
    first | done | (with_reducible rfl)
  try simp only [Act.put, sQa, sQb, sQc, gQa, gQb, gQc]
  refine' wpAnyH_take (i := 2) (oi := _) (v := _) rfl (by kernel_rfl) (by kernel_rfl) (by kernel_rfl) (fun _ _ _ h => h) (yieldsIf_load_mid (by rfl) _ _ rfl _ _ rfl _ _ (fun _ h => (rangeAt_kept hp fun hl => h.1.block _ hl hpg)) hup rfl hip.out) (by assumption) ?_
  try simp only [Act.put, sQa, sQb, sQc, gQa, gQb, gQc]
  refine' wpAnyH_take (i := 3) (oi := _) (v := ?_) rfl (by kernel_rfl) (by kernel_rfl) (by kernel_rfl) (fun _ _ _ h => h) (Or.inl ⟨by rfl, ?_⟩) (by assumption) ?_
  rotate_left
  · intro W hSw
    go_simp
    first | done | (with_reducible rfl)
  try simp only [Act.put, sQa, sQb, sQc, gQa, gQb, gQc]
  refine' wpAnyH_take (i := 4) (oi := _) (v := ?_) rfl (by kernel_rfl) (by kernel_rfl) (by kernel_rfl) (fun _ _ _ h => h) (Or.inl ⟨by rfl, ?_⟩) (by assumption) ?_
  rotate_left
  · intro W hSw
    have hCell := ((World.cell?_of_block (a := ⟨gl, 0, none⟩) (hSw.1.block _ ll.out hlg)).trans hl)
    go_simp
    first | done | (with_reducible rfl)
  try simp only [Act.put, sQa, sQb, sQc, gQa, gQb, gQc]
  refine' wpAnyH_take (i := 5) (oi := _) (v := ?_) rfl (by kernel_rfl) (by kernel_rfl) (by kernel_rfl) (fun _ _ _ h => h) (Or.inl ⟨by rfl, ?_⟩) (by assumption) ?_
  rotate_left
  · intro W hSw
    go_simp
    first | done | (with_reducible rfl)
  try simp only [Act.put, sQa, sQb, sQc, gQa, gQb, gQc]
  refine' wpAnyH_take (i := 6) (oi := _) (v := ?_) rfl (by kernel_rfl) (by kernel_rfl) (by kernel_rfl) (fun _ _ _ h => h) (Or.inl ⟨by rfl, ?_⟩) (by assumption) ?_
  rotate_left
  · intro W hSw
    go_simp
    first | done | (with_reducible rfl)
  try simp only [Act.put, sQa, sQb, sQc, gQa, gQb, gQc]
  refine' wpAnyH_take (i := 7) (oi := _) (v := ?_) rfl (by kernel_rfl) (by kernel_rfl) (by kernel_rfl) (fun _ _ _ h => h) (Or.inl ⟨by rfl, ?_⟩) (by assumption) ?_
  rotate_left
  · intro W hSw
    go_simp
    first | done | (with_reducible rfl)
  try simp only [Act.put, sQa, sQb, sQc, gQa, gQb, gQc]
  refine' wpAnyH_take (i := 8) (oi := _) (v := ?_) rfl (by kernel_rfl) (by kernel_rfl) (by kernel_rfl) (fun _ _ _ h => h) (Or.inl ⟨by rfl, ?_⟩) (by assumption) ?_
  rotate_left
  · intro W hSw
    have hCell := hSw.2
    go_simp
    first | done | (with_reducible rfl)
  try simp only [Act.put, sQa, sQb, sQc, gQa, gQb, gQc]
  refine wpAnyH_ready (rs := [9]) (by kernel_rfl) (by simp) ?_
  refine AllReadyH.cons (o := _) rfl (fun K hK => ?_) AllReadyH.nil
  refine step_buildOne slotBs (by decide) rfl (.tmp 12) rfl [.slice A1 u.length c1] rfl rfl ?_
  have hB9 := ext_alloc w.drew (.cells [Value.slice A1 u.length c1].toArray 27)
  have o9 := hid (hod.out.bel hB9)
  refine hK.out _ _ ?_ (fun hHeld => ?_)
  · exact hBK.out _ _ hHeld hB9
  clear hK K
  try simp only [Act.put, sQa, sQb, sQc, gQa, gQb, gQc]
  refine wpAnyH_ready (rs := [10]) (by kernel_rfl) (by simp) ?_
  refine AllReadyH.cons (o := _) rfl (fun K hK => ?_) AllReadyH.nil
  go_simp
  refine (hO.out _ _ (hOne.out w.drew (hfl.out w.drew hS0.out.1).1) (hfl.out _ hHeld.1).2.2).mono ?_
  rintro e5 w5 ⟨rfl, hB⟩
  have o10 := hid (o9.out.bel hB)
  go_wp2_with fail
  refine hK.out _ _ ?_ (fun hHeld => ?_)
  · exact hBK.out _ _ hHeld hB
  clear hK K
  try simp only [Act.put, sQa, sQb, sQc, gQa, gQb, gQc]
  refine wpAnyH_ready (rs := [11]) (by kernel_rfl) (by simp) ?_
  refine AllReadyH.cons (o := _) rfl (fun K hK => ?_) AllReadyH.nil
  go_simp
  refine (hFk.out _ (hfl.out _ hHeld.1).2.1).mono ?_
  rintro e6 w6 ⟨A6, c6, rfl, hf6, hB⟩
  have o11 := hid (o10.out.bel hB)
  have g11 := hid (Nat.lt_of_lt_of_le hgw hHeld.1.size)
  go_wp2_with fail
  refine hK.out _ _ ?_ (fun hHeld => ?_)
  · exact hBK.out _ _ hHeld hB
  clear hK K
  try simp only [Act.put, sQa, sQb, sQc, gQa, gQb, gQc]
  refine' wpAnyH_take (i := 12) (oi := _) (v := ?_) rfl (by kernel_rfl) (by kernel_rfl) (by kernel_rfl) (fun _ _ _ h => h) (Or.inl ⟨by rfl, ?_⟩) (by assumption) ?_
  rotate_left
  · intro W hSw
    go_simp
    first | done | (with_reducible rfl)
  try simp only [Act.put, sQa, sQb, sQc, gQa, gQb, gQc]
  refine wpAnyH_ready (rs := [13]) (by kernel_rfl) (by simp) ?_
  refine AllReadyH.cons (o := _) rfl (fun K hK => ?_) AllReadyH.nil
  refine step_store_slice rfl 27 (.tmp 16) (.tmp 15) rfl g i A6 _ c6 rfl rfl (ths.out _ o11.out) hst.out ?_
  rintro w7 rfl
  have o13 := hid (hset.out _ o11.out A6 c6 _ _ g11.out hf6)
  refine hK.out _ _ ?_ (fun hHeld => ?_)
  · exact hSK.out _ _ hHeld
  clear hK K
  try simp only [Act.put, sQa, sQb, sQc, gQa, gQb, gQc]
  refine wpAnyH_done (by kernel_rfl) ?_ _
  refine NoPanic.normal ?_
  go_wp2
  go_end0
  exact ⟨rfl, o13.out, hHeld.1⟩
end Go.Proofs.YtapnhdpgogfceaaGreatDoor

/- (VfD)
  Contracts of the landed package verify: inputs.
-/
namespace Go.Proofs.YtapnhdpgogfceaaGreatDoor
open Go.RowKit
set_option linter.unusedVariables false
set_option linter.unusedSimpArgs false
set_option maxRecDepth 100000

theorem VfUp_is (x : Pf) (A : Option Addr) (c : Nat) (D : Option Addr) (d gp gl g i c' B n : Nat) (ii : Int) (xs ys : List (List UInt8)) (s : Dg) (u : List UInt8) (F : Nat → Prop) (w : World) (hii : ii = (i : Int)) (hnx : xs.length = n) (hp : w.rangeAt gp 0 (pfC x A c D d)) (hl : w.cell? ⟨gl, 0, none⟩ = some (.slice (some ⟨g, 0, none⟩) n c'))
    (ho : RowO 27 (fun b => g < b) w B (some ⟨g, 0, none⟩) c' xs) (hi : i < x.ss.length) (hn : xs.length = x.ss.length + 1) (h256 : x.ss.length ≤ 256) (hs : Row F w D x.ss) (hF : ∀ b, F b → b ≠ g) (he : x.ss[i] = s) (hu : xs[i + 1]? = some u) (hul : u.length ≤ 3000) (hys : xs.set i (forkI x.k i s (sha256 u)) = ys)
    (hpg : gp ≠ g) (hlg : gl ≠ g) (hT : Tab w) (hTg : 0 < g) (hgw : g < w.heap.size) :
    Calls Tryz.prog 77 #[.int .i64 ii, .pointer (some ⟨gp, 0, none⟩), .pointer (some ⟨gl, 0, none⟩)] w fun e w' => e = .returned (.tuple #[]) ∧ RowO 27 (fun b => g < b) w' B (some ⟨g, 0, none⟩) c' ys ∧ Chg (fun b => b = g) w w' := by
  subst hii hnx hys
  exact VfUp_any x A c D d gp gl g i c' B xs s u F w hp hl ho hi hn h256 hs hF he hu hul hpg hlg hT hTg hgw
/-- What is in the list with the places from m on filled. -/
def filled (x : Pf) (m : Nat) : List (List UInt8) := List.replicate m [] ++ inL x m (x.ss.drop m)
theorem filled_len (x : Pf) {m : Nat} (h : m ≤ x.ss.length) : (filled x m).length = x.ss.length + 1 := by
  unfold filled
  rw [List.length_append, List.length_replicate, inL_length, List.length_drop]
  omega
theorem filled_zero (x : Pf) : filled x 0 = inP x := by unfold filled inP; simp
theorem filled_end (x : Pf) : (List.replicate (x.ss.length + 1) ([] : List UInt8)).set x.ss.length (endI x) = filled x x.ss.length := by
  unfold filled
  rw [inL_end, List.replicate_succ', List.set_append_right _ _ (by simp)]
  simp
theorem filled_up (x : Pf) {m : Nat} (h : m < x.ss.length) : ∃ u, (filled x (m + 1))[m + 1]? = some u ∧ u = (inL x (m + 1) (x.ss.drop (m + 1))).headD [] ∧ (filled x (m + 1)).set m (forkI x.k m x.ss[m] (sha256 u)) = filled x m := by
  obtain ⟨v, t, hv⟩ : ∃ v t, inL x (m + 1) (x.ss.drop (m + 1)) = v :: t := by
    cases hq : inL x (m + 1) (x.ss.drop (m + 1)) with
    | nil => exact absurd hq (inL_ne _ _ _)
    | cons v t => exact ⟨v, t, rfl⟩
  refine ⟨v, ?_, by rw [hv]; rfl, ?_⟩
  · unfold filled
    rw [List.getElem?_append_right (by simp), hv]
    simp
  · unfold filled
    rw [inL_drop x m h, hv, List.headD_cons, List.replicate_succ', List.append_assoc, List.set_append_right _ _ (by simp)]
    simp
set_option maxHeartbeats 2000000 in
theorem VfInputs_any (x : Pf) (A : Option Addr) (c : Nat) (D : Option Addr) (d : Nat) (F : Nat → Prop) (w : World) (hr : Rd w A x.v) (h1 : x.v.length ≤ c) (h2 : c ≤ maxLen) (hl : x.v.length ≤ 1000) (h256 : x.ss.length ≤ 256) (hs : Row F w D x.ss) (hT : Tab w) :
    Calls Tryz.prog 57 #[.agg (pfC x A c D d).toArray] w fun e w' => ∃ g c', e = .returned (.slice (some ⟨g, 0, none⟩) (inP x).length c') ∧ w.heap.size ≤ g ∧ RowO 27 (fun b => g < b) w' w.heap.size (some ⟨g, 0, none⟩) c' (inP x) ∧ Below w.heap.size w w' := by
  have W0 := ext_alloc w (.cells (pfC x A c D d).toArray 30)
  have B0 := BoxP.new w x A c D d 30
  have hsd := B0.sd
  have hal := hid B0.all
  have hup := Tryz.underlying30
  have hip := hid (sizePfC x A c D d)
  obtain ⟨iN, hiN, hzN, hsN, hbN⟩ := info_parts slotBs.info
  have hfl : ∀ W : World, Below w.heap.size w W → Rd W A x.v ∧ Row (fun b => b < w.heap.size) W D x.ss ∧ Tab W := fun W hb => ⟨hr.bel hb, (hs.mono fun b _ h => h).bel hb, hT.bel hb hT.low⟩
  have hlow := hid hT.low
  have hsz : (w.alloc (.cells (pfC x A c D d).toArray 30)).heap.size = w.heap.size + 1 := by simp
  have hEn := hid (fun W (hW : Rd W A x.v) => VfEnd_any x A c D d W hW h1 h2 hl)
  have hE0 := hid (filled_end x)
  have hle := hid h256
  have hUp := hid (fun (j ii : Nat) (W : World) (hj : j < x.ss.length) (hii : ii = x.ss.length - 1 - j) (hp : W.rangeAt w.heap.size 0 (pfC x A c D d)) (gl : Nat) (hl' : W.cell? ⟨gl, 0, none⟩ = some (.slice (some ⟨w.heap.size + 1, 0, none⟩) (x.ss.length + 1) (x.ss.length + 1)))
      (ho : RowO 27 (fun b => w.heap.size + 1 < b) W (w.heap.size + 1) (some ⟨w.heap.size + 1, 0, none⟩) (x.ss.length + 1) (filled x (x.ss.length - j))) (hb : Below w.heap.size w W) (hlg : gl ≠ w.heap.size + 1) (hgw : w.heap.size + 1 < W.heap.size) => (show Calls Tryz.prog 77 #[.int .i64 ((x.ss.length : Int) - 1 - (j : Int)), .pointer (some ⟨w.heap.size, 0, none⟩), .pointer (some ⟨gl, 0, none⟩)] W fun e w' => e = .returned (.tuple #[]) ∧ RowO 27 (fun b => w.heap.size + 1 < b) w' (w.heap.size + 1) (some ⟨w.heap.size + 1, 0, none⟩) (x.ss.length + 1) (filled x (x.ss.length - (j + 1))) ∧ Chg (fun b => b = w.heap.size + 1) W w' from by
    have hm : x.ss.length - (j + 1) < x.ss.length := by omega
    have e1 : x.ss.length - j = x.ss.length - (j + 1) + 1 := by omega
    rw [e1] at ho
    obtain ⟨u, k1, k2, k3⟩ := filled_up x hm
    obtain ⟨q1, q2, q3⟩ := hfl W hb
    exact VfUp_is x A c D d w.heap.size gl (w.heap.size + 1) (x.ss.length - (j + 1)) (x.ss.length + 1) (w.heap.size + 1) (x.ss.length + 1) _ _ _ _ u _ W (by omega) (filled_len x (by omega)) hp hl' ho hm (filled_len x (by omega)) h256 q2 (fun b (hb : b < w.heap.size) => by omega) rfl k1 (by rw [k2]; exact inL_head_le x hl _ _) k3 (by omega) hlg q3 (Nat.lt_succ_of_lt hT.low) hgw))
  have hset := hid (fun (W : World) (hW : RowO 27 (fun b => w.heap.size + 1 < b) W (w.heap.size + 1) (some ⟨w.heap.size + 1, 0, none⟩) (x.ss.length + 1) (List.replicate (x.ss.length + 1) ([] : List UInt8))) A6 c6 B6 (hB6 : w.heap.size + 1 < B6) (hf : Frs W B6 A6 c6 (endI x)) => (show W.there (w.heap.size + 1) x.ss.length 1 ∧ RowO 27 (fun b => w.heap.size + 1 < b) (W.setCells (w.heap.size + 1) x.ss.length [.slice A6 (endI x).length c6]) (w.heap.size + 1) (some ⟨w.heap.size + 1, 0, none⟩) (x.ss.length + 1) (filled x (x.ss.length - 0)) from by
    have hlt : x.ss.length < (List.replicate (x.ss.length + 1) ([] : List UInt8)).length := by simp
    have k1 := hW.thereV hlt
    have k2 := hW.set hlt (hf.rep (F := fun b => w.heap.size + 1 < b) (fun b hb => by show w.heap.size + 1 < b; omega))
    rw [hE0.out] at k2
    simp only [show Enc.size (List UInt8) = 1 from rfl, Nat.mul_one] at k1 k2
    exact ⟨k1, k2⟩))
  have hl0 := hid (filled_zero x)
  have hln := hid (inL_length x 0 x.ss)
  have hst := hid (show (Tryz.prog.info? 27).map (·.size) = some 1 by kernel_rfl)
  replace hfl := hid hfl
  clear hr hs hT h1 h2 hl h256 B0 hE0
  obtain ⟨n, hn⟩ : ∃ n, x.ss.length = n := ⟨_, rfl⟩
  rw [hn] at hsd hle hUp hset hln
  generalize hcp : pfC x A c D d = cs at *
  replace hcp := hid hcp
  have y1 : IntKind.i64.wrap ((n : Int) + 1) = (n : Int) + 1 := by have := hle.out; rw [IntKind.wrap_i64]; omega
  have y2 := hid (show n + 1 ≤ 1000 by have := hle.out; omega)
  replace hn := hid hn
  go_enter Tryz.func57, Tryz.ntmps57
  go_wp2_with (first
    | ((with_reducible refine wpList_make_full _ rfl (.tmp 11) (.tmp 11) 65 rfl (w.heap.size + 1) 27 iN (.slice none 0 0) (Enc.size (List UInt8)) ?_ hiN hzN hsN .i64 .i64 _ _ (n + 1) rfl rfl ?_ ?_ ?_ ?_ ?_ ?_); exact slotBs.under; (push_cast; rfl); (push_cast; rfl); (have := y2.out; rw [hbN]; omega); (have := y2.out; unfold maxLen; omega); exact Nat.le_of_eq hsz.symm; intro w1 ho1 hg1; have B1 := below_noneV hg1; have O1 := hid ho1; clear ho1 hg1))
  simp only [World.size_alloc] at O1
  have M1 := RowO.made (F := fun b => w.heap.size + 1 < b) (B := w.heap.size + 1) (x0 := ([] : List UInt8)) (z := [Value.slice none 0 0]) ⟨none, 0, rfl, Nat.le_refl _, Nat.zero_le _, Row.nil _ _ _⟩ (by decide) O1.out (fun h => by omega)
  have g1 := hid (show w.heap.size + 1 < w1.heap.size from (O1.out.lt _ rfl).2)
  have W1 := hid (ext_trans W0 B1)
  have a1 := hid (rangeBel2 B1 hal.out)
  have d1 := (B1.cell (World.block_lt_of_cell? _ _ hsd)).trans hsd
  have M3 := hid (M1.bel (ext_alloc w1 (.cells #[.slice (some ⟨w.heap.size + 1, 0, none⟩) (n + 1) (n + 1)] 65)))
  have c3 := block_cell (heap_alloc_new w1 (.cells #[.slice (some ⟨w.heap.size + 1, 0, none⟩) (n + 1) (n + 1)] 65)) 0
  have W3 := hid (ext_trans W1.out (ext_alloc w1 (.cells #[.slice (some ⟨w.heap.size + 1, 0, none⟩) (n + 1) (n + 1)] 65)))
  have a3 := hid (rangeBel2 (ext_alloc w1 (.cells #[.slice (some ⟨w.heap.size + 1, 0, none⟩) (n + 1) (n + 1)] 65)) a1.out)
  have s3 := hid (show w1.heap.size + 1 = (w1.alloc (.cells #[.slice (some ⟨w.heap.size + 1, 0, none⟩) (n + 1) (n + 1)] 65)).heap.size by simp)
  clear hal hsd B1 O1 M1 W1 a1 d1 hsz W0 hiN hzN hsN hbN
  generalize hw3 : w1.alloc (.cells #[.slice (some ⟨w.heap.size + 1, 0, none⟩) (n + 1) (n + 1)] 65) = w3 at *
  generalize w1.heap.size = gl at *
  replace c3 : w3.cell? ⟨gl, 0, none⟩ = some (.slice (some ⟨w.heap.size + 1, 0, none⟩) (n + 1) (n + 1)) := c3
  have l3 := hid (World.block_lt_of_cell? _ _ c3)
  have ne1 := hid (show gl ≠ w.heap.size + 1 by have := g1.out; omega)
  have ne2 := hid (show w.heap.size ≠ w.heap.size + 1 by omega)
  have g3 := hid (show w.heap.size + 1 < w3.heap.size by have := g1.out; have := s3.out; omega)
  have bK := hid (fun (W : World) (hc : Chg (fun b => b = w.heap.size + 1) w3 W) => (show Below w.heap.size w W from W3.out.trans (hc.below W3.out.size (fun b hb e => by omega))))
  have m3 := hid (M3.out.bel (bel_drew w3))
  have y3 : n < n + 1 := by omega
  have y4 : (n : Int) < (n : Int) + 1 := by omega
  clear hw3
  refine wp_region_noPanic ?_
  refine wp_region_held_drew (S := fun w' => Chg (fun b => b = w.heap.size + 1) w3 w') (by kernel_rfl) ?_ (fun hHeld => ?_)
  · exact (Chg.of_bel (bel_drew w3))
  refine' wpAnyH_take (i := 0) (oi := _) (v := ?_) rfl (by kernel_rfl) (by kernel_rfl) (by kernel_rfl) (fun _ _ _ h => h) (Or.inl ⟨by rfl, ?_⟩) (by assumption) ?_
  rotate_left
  · intro W hSw
    have hCell := ((World.cell?_of_block (a := ⟨gl, 0, none⟩) (hSw.block _ l3.out ne1.out)).trans c3)
    go_simp
    first | done | (with_reducible rfl)
  try simp only [Act.put, sQa, sQb, sQc, gQa, gQb, gQc]
  refine' wpAnyH_take (i := 1) (oi := _) (v := ?_) rfl (by kernel_rfl) (by kernel_rfl) (by kernel_rfl) (fun _ _ _ h => h) (Or.inl ⟨by rfl, ?_⟩) (by assumption) ?_
  rotate_left
  · intro W hSw
    go_simp
    first | done | (with_reducible rfl)
  try simp only [Act.put, sQa, sQb, sQc, gQa, gQb, gQc]
  refine' wpAnyH_take (i := 2) (oi := _) (v := _) rfl (by kernel_rfl) (by kernel_rfl) (by kernel_rfl) (fun _ _ _ h => h) (yieldsIf_load_mid (by rfl) _ _ rfl _ _ rfl _ _ (fun _ h => (rangeAt_kept a3.out fun hl => h.block _ hl ne2.out)) hup rfl hip.out) (by assumption) ?_
  try simp only [Act.put, sQa, sQb, sQc, gQa, gQb, gQc]
  refine wpAnyH_ready (rs := [3]) (by kernel_rfl) (by simp) ?_
  refine AllReadyH.cons (o := _) rfl (fun K hK => ?_) AllReadyH.nil
  go_simp
  refine (hEn.out _ (hfl.out _ (bK.out _ hHeld)).1).mono ?_
  rintro e5 w5 ⟨A5, c5, rfl, hf5, hB⟩
  have o5 := hid (m3.out.bel hB)
  obtain ⟨th5, q5⟩ := hset.out w5 o5.out A5 c5 _ (Nat.lt_of_lt_of_le g3.out hHeld.size) hf5
  replace q5 := hid q5
  go_wp2_with fail
  refine hK.out _ _ ?_ (fun hHeld => ?_)
  · exact hHeld.trans (Chg.of_bel hB)
  clear hK K
  try simp only [Act.put, sQa, sQb, sQc, gQa, gQb, gQc]
  refine' wpAnyH_take (i := 4) (oi := _) (v := ?_) rfl (by kernel_rfl) (by kernel_rfl) (by kernel_rfl) (fun _ _ _ h => h) (Or.inl ⟨by rfl, ?_⟩) (by assumption) ?_
  rotate_left
  · intro W hSw
    go_simp
    first | done | (with_reducible rfl)
  try simp only [Act.put, sQa, sQb, sQc, gQa, gQb, gQc]
  refine wpAnyH_ready (rs := [5]) (by kernel_rfl) (by simp) ?_
  refine AllReadyH.cons (o := _) rfl (fun K hK => ?_) AllReadyH.nil
  refine step_store_slice rfl 27 (.tmp 17) (.tmp 16) rfl (w.heap.size + 1) n A5 _ c5 rfl rfl th5 hst.out ?_
  intro w6 e6
  rw [← e6] at q5
  refine hK.out _ _ ?_ (fun hHeld => ?_)
  · exact (by rw [e6]; exact hHeld.trans (chg_cells _ _ _ _))
  clear hK K
  try simp only [Act.put, sQa, sQb, sQc, gQa, gQb, gQc]
  refine wpAnyH_done (by kernel_rfl) ?_ _
  refine NoPanic.normal ?_
  have C6 := hid hHeld
  clear hHeld e6 th5 o5 hf5 hB m3 M3 hEn hset hst
  have yn := hid (show n ≤ 256 from hle.out)
  go_wp2
  go_loopw [20] (fun v wr => ∃ j : Nat, j ≤ n ∧ v = .int .i64 j ∧ RowO 27 (fun b => w.heap.size + 1 < b) wr (w.heap.size + 1) (some ⟨w.heap.size + 1, 0, none⟩) (n + 1) (filled x (n - j)) ∧ Chg (fun b => b = w.heap.size + 1) w3 wr) (fun v _ => n - (intOf v).toNat)
  case atStart => exact ⟨0, Nat.zero_le _, rfl, q5.out, C6.out⟩
  case round =>
    obtain ⟨j, hj, rfl, hown, hc⟩ := hrel
    have bw := hid (bK.out _ hc)
    have aw := hid (rangeAt_kept a3.out fun hl => hc.block _ hl ne2.out)
    have cw := (World.cell?_of_block (a := ⟨gl, 0, none⟩) (hc.block _ l3.out ne1.out)).trans c3
    have gw := hid (Nat.lt_of_lt_of_le g3.out hc.size)
    have ow := hid hown
    have Cw := hid hc
    clear hown hc
    by_cases hlt : j < n
    · have y5 : IntKind.i64.wrap ((n : Int) - 1) = (n : Int) - 1 := by have := yn.out; rw [IntKind.wrap_i64]; omega
      have y6 : IntKind.i64.wrap ((n : Int) - 1 - (j : Int)) = (n : Int) - 1 - (j : Int) := by have := yn.out; rw [IntKind.wrap_i64]; omega
      go_wp2_with fail
      refine (hUp.out j (n - 1 - j) wr hlt rfl aw.out gl cw ow.out bw.out ne1.out gw.out).mono ?_
      rintro e8 w8 ⟨rfl, ho8, hc8⟩
      have o8 := hid ho8
      have C8 := hid (Cw.out.trans hc8)
      have y9 := yn.out
      clear ho8 hc8 y5 y6
      go_wp2
      go_roundw
      case rel => exact ⟨j + 1, by omega, by go_num, o8.out, C8.out⟩
      case measure => simp [intOf]; omega
    · obtain rfl : j = n := by omega
      have o9 := ow.out
      rw [Nat.sub_self, hl0.out] at o9
      replace o9 := hid o9
      go_wp2
      go_ret
      refine ⟨w.heap.size + 1, j + 1, ?_, Nat.le_succ _, RowO.base o9.out (Nat.le_succ _), bw.out⟩
      rw [show (inP x).length = j + 1 from hln.out]
      rfl
end Go.Proofs.YtapnhdpgogfceaaGreatDoor

/- (VfE)
  Contracts of the landed package verify: Inputs, Root, Fits.
-/
namespace Go.Proofs.YtapnhdpgogfceaaGreatDoor
open Go.RowKit
set_option linter.unusedVariables false
set_option linter.unusedSimpArgs false
set_option maxRecDepth 100000

/-- A proof that may be has a value of at most 64 bytes, and at most 256 sides. -/
theorem may_small {x : Pf} (h : mayF x = true) : x.v.length ≤ 1000 ∧ x.ss.length ≤ 256 := by
  unfold mayF at h
  rw [Bool.and_eq_true, decide_eq_true_eq] at h
  refine ⟨?_, h.1⟩
  have h2 := h.2
  unfold endP at h2
  split at h2
  · simp only [Bool.and_eq_true, decide_eq_true_eq] at h2
    rw [h2.2]
    simp
  · split at h2
    · simp only [Bool.and_eq_true] at h2
      have := (show x.v.length ≤ 64 from by have h3 := h2.2; unfold valB at h3; simp only [decide_eq_true_eq] at h3; exact h3.2)
      omega
    · split at h2
      · simp only [Bool.and_eq_true] at h2
        have := (show x.v.length ≤ 64 from by have h3 := h2.2; unfold valB at h3; simp only [decide_eq_true_eq] at h3; exact h3.2)
        omega
      · cases h2
set_option maxHeartbeats 1000000 in
theorem VfInputsE_any (x : Pf) (A : Option Addr) (c : Nat) (D : Option Addr) (d : Nat) (F : Nat → Prop) (m : Bool) (w : World) (hm : mayF x = m) (hr : Rd w A x.v) (h1 : x.v.length ≤ c) (h2 : c ≤ maxLen) (hs : Row F w D x.ss) (hT : Tab w) :
    Calls Tryz.prog 34 #[.agg (pfC x A c D d).toArray] w fun e w' => ∃ A' c', e = .returned (.tuple #[.slice A' (if m = true then inP x else []).length c', .int .i64 (if m = true then 0 else 8)]) ∧ RowO 27 (fun b => w.heap.size ≤ b ∧ ∀ a, A' = some a → a.block < b) w' w.heap.size A' c' (if m = true then inP x else []) ∧ Below w.heap.size w w' := by
  have W0 := ext_alloc w (.cells (pfC x A c D d).toArray 30)
  have B0 := BoxP.new w x A c D d 30
  have hal := hid B0.all
  have hup := Tryz.underlying30
  have hip := hid (sizePfC x A c D d)
  have hC := hid (fun W hW => PfCheck_is x A c D d m W hW h1 h2 hm)
  have hfl := hid (fun (W : World) (hb : Below w.heap.size w W) => (show Rd W A x.v ∧ Row F W D x.ss ∧ Tab W from ⟨hr.bel hb, hs.bel hb, hT.bel hb hT.low⟩))
  cases m with
  | false =>
    simp only [Bool.false_eq_true, ↓reduceIte] at hC ⊢
    replace hC := hid hC
    clear hm B0
    generalize pfC x A c D d = cs at *
    go_enter Tryz.func34, Tryz.ntmps34
    go_wp2_with (first
      | ((with_reducible refine wpList_load_rng rfl 30 (.tmp 1) rfl w.heap.size 0 rfl cs _ ?_ hup rfl hip.out ?_); exact hal.out))
    refine (hC.out _ (hfl.out _ W0).1).mono ?_
    rintro e w1 ⟨rfl, hb⟩
    go_wp2
    go_ret2
    exact ⟨none, 0, rfl, RowO.nil _ _ _, W0.trans (hb.mono W0.size)⟩
  | true =>
    simp only [↓reduceIte] at hC ⊢
    replace hC := hid hC
    obtain ⟨m1, m2⟩ := may_small hm
    have hI := hid (fun W hW hS hTW => VfInputs_any x A c D d F W hW h1 h2 m1 m2 hS hTW)
    clear hm B0
    generalize pfC x A c D d = cs at *
    generalize inP x = l at *
    go_enter Tryz.func34, Tryz.ntmps34
    go_wp2_with (first
      | ((with_reducible refine wpList_load_rng rfl 30 (.tmp 1) rfl w.heap.size 0 rfl cs _ ?_ hup rfl hip.out ?_); exact hal.out))
    refine (hC.out _ (hfl.out _ W0).1).mono ?_
    rintro e w1 ⟨rfl, hb⟩
    have al1 := hid (rangeBel2 hb hal.out)
    have W1 := hid (W0.trans (hb.mono W0.size))
    clear hb
    go_wp2_with (first
      | ((with_reducible refine wpList_load_rng rfl 30 (.tmp 1) rfl w.heap.size 0 rfl cs _ ?_ hup rfl hip.out ?_); exact al1.out))
    refine (hI.out _ (hfl.out _ W1.out).1 (hfl.out _ W1.out).2.1 (hfl.out _ W1.out).2.2).mono ?_
    rintro e w2 ⟨g, c2, rfl, hg, ho, hb⟩
    have W2 := hid (W1.out.trans (hb.mono W1.out.size))
    have hw := hid W1.out.size
    replace ho := hid ho
    replace hg := hid hg
    clear hb
    go_wp2
    go_ret2
    exact ⟨some ⟨g, 0, none⟩, c2, rfl, (RowO.base (ho.out.mono (fun b hb _ => ⟨by have := hw.out; have := hg.out; have hb : g < b := hb; omega, fun a ha => by injection ha with ha; subst ha; exact hb⟩) (fun a ha h => by injection ha with ha; subst ha; exact absurd (h.2 _ rfl) (Nat.lt_irrefl _))) hw.out), W2.out⟩
theorem boxesPZ (w : World) (x : Pf) (A : Option Addr) (c : Nat) (D : Option Addr) (d : Nat) :
    BoxP ((w.alloc (.cells (pfC x A c D d).toArray 30)).alloc (.cells z32 26)) w.heap.size x A c D d ∧ ((w.alloc (.cells (pfC x A c D d).toArray 30)).alloc (.cells z32 26)).heap[w.heap.size + 1]? = some (.cells z32 26) ∧
    Below w.heap.size w ((w.alloc (.cells (pfC x A c D d).toArray 30)).alloc (.cells z32 26)) := by
  have h2 := heap_alloc_new (w.alloc (.cells (pfC x A c D d).toArray 30)) (.cells z32 26)
  rw [World.size_alloc] at h2
  exact ⟨(BoxP.new w x A c D d _).bel (ext_alloc _ _), h2, ext_trans (ext_alloc _ _) (ext_alloc _ _)⟩
/-- Its root, or the zero digest. -/
def rootM (x : Pf) : Dg := if mayF x = true then rootV x else z0
set_option maxHeartbeats 1000000 in
theorem VfRoot_any (x : Pf) (A : Option Addr) (c : Nat) (D : Option Addr) (d : Nat) (F : Nat → Prop) (m : Bool) (w : World) (hm : mayF x = m) (hr : Rd w A x.v) (h1 : x.v.length ≤ c) (h2 : c ≤ maxLen) (hs : Row F w D x.ss) (hT : Tab w) :
    Calls Tryz.prog 43 #[.agg (pfC x A c D d).toArray] w fun e w' => e = .returned (.tuple #[.agg ((rootM x).1.map bv).toArray, .int .i64 (if m = true then 0 else 8)]) ∧ Below w.heap.size w w' := by
  obtain ⟨B0, z1, W0⟩ := boxesPZ w x A c D d
  have hal := hid B0.all
  have hup := Tryz.underlying30
  have hip := hid (sizePfC x A c D d)
  have hC := hid (fun W hW => PfCheck_is x A c D d m W hW h1 h2 hm)
  have hfl := hid (fun (W : World) (hb : Below w.heap.size w W) => (show Rd W A x.v ∧ Row F W D x.ss ∧ Tab W from ⟨hr.bel hb, hs.bel hb, hT.bel hb hT.low⟩))
  have hz := hid (show Tryz.prog.built 26 [] = some (z0.1.map bv).toArray by kernel_rfl)
  have zs : ((z0.1.map bv).toArray).size = 32 := by simp [z0.2]
  have zz := bvs_all z0.1
  replace z1 := hid z1
  cases m with
  | false =>
    have hR : rootM x = z0 := by unfold rootM; rw [hm]; rfl
    rw [hR]
    simp only [Bool.false_eq_true, ↓reduceIte] at hC ⊢
    replace hC := hid hC
    clear hm B0 hR
    generalize pfC x A c D d = cs at *
    generalize z0.1.map bv = dz at *
    go_enter Tryz.func43, Tryz.ntmps43
    go_wp2_with (first
      | (with_reducible refine wpList_alloc_row rfl 26 rfl z32 info32 ?_)
      | ((with_reducible refine wpList_load_rng rfl 30 (.tmp 1) rfl w.heap.size 0 rfl cs _ ?_ hup rfl hip.out ?_); exact hal.out))
    generalize (w.alloc (.cells cs.toArray 30)).alloc (.cells z32 26) = w0 at *
    refine (hC.out _ (hfl.out _ W0).1).mono ?_
    rintro e w1 ⟨rfl, hb⟩
    have z2 := hid ((hb.block _ (block_lt z1.out)).trans z1.out)
    have W1 := hid (W0.trans (hb.mono W0.size))
    clear hb
    go_wp2_with (first
      | ((with_reducible refine wpList_built rfl 26 _ rfl dz.toArray [] ?_ ?_ ?_); exact hz.out; rfl)
      | ((with_reducible refine wpList_store_row rfl 26 (.tmp 2) (.tmp 9) rfl (w.heap.size + 1) _ rfl rfl 26 z32 ?_ ?_ ?_ ?_ ?_); exact z2.out; (rw [zs]; exact size32); (rw [zs]; exact z32_size); exact zz; intro w3 hg3 hb3 hs3))
    exact bodyPost_ret (res_dig rfl _ _ (w.heap.size + 1) _ rfl hg3 zs) rfl ⟨rfl, W1.out.grown hb3 W1.out.size (fun g e => by injection e with e; omega)⟩
  | true =>
    obtain ⟨m1, m2⟩ := may_small hm
    have hI := hid (fun W hW hS hTW => VfInputs_any x A c D d F W hW h1 h2 m1 m2 hS hTW)
    have hR : rootM x = rootV x := by unfold rootM; rw [hm]; rfl
    rw [hR]
    simp only [↓reduceIte] at hC ⊢
    replace hC := hid hC
    obtain ⟨u, t, hut⟩ : ∃ u t, inP x = u :: t := by
      cases hq : inP x with
      | nil => exact absurd hq (inL_ne _ _ _)
      | cons u t => exact ⟨u, t, rfl⟩
    have hul : u.length ≤ 3000 := by have := inL_head_le x m1 0 x.ss; rw [show inL x 0 x.ss = u :: t from hut] at this; exact this
    have hrv : (rootV x).1 = sha256 u := by show sha256 ((inP x).headD []) = _; rw [hut]; rfl
    rw [hut] at hI
    have zd : ((rootV x).1.map bv).toArray.size = 32 := by simp [(rootV x).2]
    have zo := bvs_all (rootV x).1
    have hO := hid (fun W A hW hTW => Of_any A 1 1 [u] W hW rfl (by simp) (by simp; omega) hTW)
    rw [show sha256 [u].flatten = (rootV x).1 by rw [hrv]; simp] at hO
    clear hm B0 hR hut hrv hz zs zz
    generalize pfC x A c D d = cs at *
    generalize (rootV x).1.map bv = dR at *
    have hg2 := hid (fun (W : World) (A1 : Option Addr) (c1 : Nat) (h : Rd W A1 u) (k : u.length ≤ c1 ∧ c1 ≤ maxLen) => rds_one W A1 c1 u 27 h k)
    go_enter Tryz.func43, Tryz.ntmps43
    go_wp2_with (first
      | (with_reducible refine wpList_alloc_row rfl 26 rfl z32 info32 ?_)
      | ((with_reducible refine wpList_load_rng rfl 30 (.tmp 1) rfl w.heap.size 0 rfl cs _ ?_ hup rfl hip.out ?_); exact hal.out))
    generalize (w.alloc (.cells cs.toArray 30)).alloc (.cells z32 26) = w0 at *
    refine (hC.out _ (hfl.out _ W0).1).mono ?_
    rintro e w1 ⟨rfl, hb⟩
    have al1 := hid (rangeBel2 hb hal.out)
    have z2 := hid ((hb.block _ (block_lt z1.out)).trans z1.out)
    have W1 := hid (W0.trans (hb.mono W0.size))
    clear hb
    go_wp2_with (first
      | ((with_reducible refine wpList_load_rng rfl 30 (.tmp 1) rfl w.heap.size 0 rfl cs _ ?_ hup rfl hip.out ?_); exact al1.out))
    refine (hI.out _ (hfl.out _ W1.out).1 (hfl.out _ W1.out).2.1 (hfl.out _ W1.out).2.2).mono ?_
    rintro e w2 ⟨g, c2, rfl, hg, ho, hb⟩
    have z3 := hid ((hb.block _ (block_lt z2.out)).trans z2.out)
    have W2 := hid (W1.out.trans (hb.mono W1.out.size))
    obtain ⟨b9, o9, hA9, hc9⟩ := (RowO.row ho).rds (by simp)
    injection hA9 with hA9
    injection hA9 with hA9 hB9
    subst hA9 hB9
    obtain ⟨A1, c1, hcell, hrd, k1⟩ := hc9 0 u rfl
    have hR1 := hid (hg2.out w2 A1 c1 hrd k1)
    have T2 := hid ((hfl.out _ W2.out).2.2)
    have B3 := ext_alloc w2 (.cells [Value.slice A1 u.length c1].toArray 27)
    have T3 := hid (T2.out.bel B3 T2.out.low)
    have z4 := hid ((B3.block _ (block_lt z3.out)).trans z3.out)
    have W3 := hid (W2.out.trans (B3.mono W2.out.size))
    clear hb ho hc9 hrd k1 hg2 B3
    go_wp2_with fail
    refine (hO.out _ _ hR1.out T3.out).mono ?_
    rintro e w4 ⟨rfl, hb4⟩
    have z5 := hid ((hb4.block _ (block_lt z4.out)).trans z4.out)
    have W4 := hid (W3.out.trans (hb4.mono W3.out.size))
    clear hb4
    go_wp2_with (first
      | ((with_reducible refine wpList_store_row rfl 26 (.tmp 2) (.tmp 16) rfl (w.heap.size + 1) _ rfl rfl 26 z32 ?_ ?_ ?_ ?_ ?_); exact z5.out; (rw [zd]; exact size32); (rw [zd]; exact z32_size); exact zo; intro w5 hg5 hb5 hs5))
    exact bodyPost_ret (res_dig rfl _ _ (w.heap.size + 1) _ rfl hg5 zd) rfl ⟨rfl, W4.out.grown hb5 W4.out.size (fun g e => by injection e with e; omega)⟩
end Go.Proofs.YtapnhdpgogfceaaGreatDoor

/- (VfF)
  Contracts of the landed package verify: Fits.
-/
namespace Go.Proofs.YtapnhdpgogfceaaGreatDoor
open Go.RowKit
set_option linter.unusedVariables false
set_option linter.unusedSimpArgs false
set_option maxRecDepth 100000

def fitsF (x : Pf) (r : Dg) : Bool := mayF x && decide (rootV x = r)
set_option maxHeartbeats 1000000 in
theorem VfFits_is (x : Pf) (A : Option Addr) (c : Nat) (D : Option Addr) (d : Nat) (r : Dg) (F : Nat → Prop) (b : Bool) (w : World) (hb : fitsF x r = b) (hr : Rd w A x.v) (h1 : x.v.length ≤ c) (h2 : c ≤ maxLen) (hs : Row F w D x.ss) (hT : Tab w) :
    Calls Tryz.prog 23 #[.agg (pfC x A c D d).toArray, .agg (r.1.map bv).toArray] w fun e w' => e = .returned (.bool b) ∧ Below w.heap.size w w' := by
  obtain ⟨B0, r0, W0⟩ := boxesPD w x A c D d r 30 26
  have hal := hid B0.all
  have hup := Tryz.underlying30
  have hu := Tryz.underlying26
  have hip := hid (sizePfC x A c D d)
  have hiD := hid (sizeDg r)
  have hiD2 := hid (sizeDg (rootM x))
  obtain ⟨m, hm⟩ : ∃ m, mayF x = m := ⟨_, rfl⟩
  have hC := hid (fun W hW hS hTW => VfRoot_any x A c D d F m W hm hW h1 h2 hS hTW)
  have hfl := hid (fun (W : World) (hb : Below w.heap.size w W) => (show Rd W A x.v ∧ Row F W D x.ss ∧ Tab W from ⟨hr.bel hb, hs.bel hb, hT.bel hb hT.low⟩))
  have zd : ((rootM x).1.map bv).toArray.size = 32 := by simp [(rootM x).2]
  have zo := bvs_all (rootM x).1
  have hE : ∀ W, (Op.equalIn 10000 26 (.agg ((rootM x).1.map bv).toArray) (.agg (r.1.map bv).toArray)).run Tryz.prog W = .ok (decide (rootM x = r)) W := fun W => eqd_is (rootM x) r _ rfl W
  have hbb : b = (m && decide (rootM x = r)) := by
    rw [← hb]
    unfold fitsF rootM
    rw [hm]
    cases m <;> rfl
  generalize decide (rootM x = r) = q at *
  replace r0 := hid r0
  clear hm B0 hb
  generalize pfC x A c D d = cs at *
  generalize (rootM x).1.map bv = dR at *
  generalize r.1.map bv = dr at *
  go_enter Tryz.func23, Tryz.ntmps23
  go_wp2_with (first
    | ((with_reducible refine wpList_load_rng rfl 30 (.tmp 2) rfl w.heap.size 0 rfl cs _ ?_ hup rfl hip.out ?_); exact hal.out))
  generalize (w.alloc (.cells cs.toArray 30)).alloc (.cells dr.toArray 26) = w0 at *
  refine (hC.out _ (hfl.out _ W0).1 (hfl.out _ W0).2.1 (hfl.out _ W0).2.2).mono ?_
  rintro e w1 ⟨rfl, hb⟩
  have r1 := hid (rangeBel2 hb r0.out)
  have W1 := hid (W0.trans (hb.mono W0.size))
  have e1 := hid (heap_alloc_new w1 (.cells z32 26))
  clear hb
  subst hbb
  cases m with
  | false =>
    go_wp2_with (first
      | (with_reducible refine wpList_alloc_row rfl 26 rfl z32 info32 ?_)
      | ((with_reducible refine wpList_store_row rfl 26 (.tmp 5) (.tmp 10) rfl _ _ rfl rfl 26 z32 ?_ ?_ ?_ ?_ ?_); exact e1.out; (rw [zd]; exact size32); (rw [zd]; exact z32_size); exact zo; intro w5 hg5 hb5 hs5; have X5 := hid (xnewP rfl hb5); have W5 := hid (W1.out.trans (X5.out.mono W1.out.size)); clear hg5 hb5 hs5))
    go_ret
    exact ⟨rfl, W5.out⟩
  | true =>
    go_wp2_with (first
      | (with_reducible refine wpList_alloc_row rfl 26 rfl z32 info32 ?_)
      | ((with_reducible refine wpList_store_row rfl 26 (.tmp 5) (.tmp 10) rfl _ _ rfl rfl 26 z32 ?_ ?_ ?_ ?_ ?_); exact e1.out; (rw [zd]; exact size32); (rw [zd]; exact z32_size); exact zo; intro w5 hg5 hb5 hs5; have X5 := hid (xnewP rfl hb5); have W5 := hid (W1.out.trans (X5.out.mono W1.out.size)); have r5 := hid (rangeBel2 X5.out r1.out); have n5 := hid (rangeOf hg5); clear hg5 hb5 hs5)
      | ((with_reducible refine wpList_load_rng ?_ 26 (.tmp 5) rfl w1.heap.size 0 rfl dR _ ?_ hu rfl hiD2.out ?_); rfl; exact n5.out)
      | ((with_reducible refine wpList_load_rng ?_ 26 (.tmp 3) rfl (w.heap.size + 1) 0 rfl dr _ ?_ hu rfl hiD.out ?_); rfl; exact r5.out))
    go_ret
    exact ⟨by rw [Bool.true_and]; rfl, W5.out⟩
end Go.Proofs.YtapnhdpgogfceaaGreatDoor
