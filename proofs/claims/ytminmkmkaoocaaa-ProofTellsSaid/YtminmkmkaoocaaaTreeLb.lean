/-
  Contracts of the landed package tree: node, isLeaf, isFork, roads, single.
-/
import Derived.Test.YtminmkmkaoocaaaTreeLa
import Derived.StillTailTactics
namespace Go.Proofs.Ytminmkmkaoocaaa
open Go.RowKit
set_option linter.unusedVariables false
set_option linter.unusedSimpArgs false
set_option maxRecDepth 100000

def leafB (ns : List Nd) (n : Int) : Bool := decide (n ≠ 0) && (ndAt ns n).leaf
def forkB (ns : List Nd) (n : Int) : Bool := decide (n ≠ 0) && !(ndAt ns n).leaf
def singleP (ns : List Nd) (a b : Int) : Int := if (leafB ns a && decide (b = 0)) = true then a else if (leafB ns b && decide (a = 0)) = true then b else 0
def z2C : Array Value := #[.int .i64 0, .int .i64 0]
theorem zInfo2 : (Try.prog.info? 82).map (fun i => (i.zero, i.size)) = some (some (.agg z2C), z2C.size) := by kernel_rfl
theorem size2 : (Try.prog.info? 82).map (·.size) = some 2 := by kernel_rfl
theorem built2 (a b : Int) : Try.prog.built 82 [(0, .int .i64 a), (1, .int .i64 b)] = some #[Value.int .i64 a, .int .i64 b] := by kernel_rfl
theorem one2 (a b : Int) : (#[Value.int .i64 a, .int .i64 b] : Array Value).all (·.oneCell') = true := all_oneCell_toArray (cs := [Value.int .i64 a, .int .i64 b]) fun u hu => by
  simp at hu
  rcases hu with rfl | rfl <;> rfl
theorem below_two {w w1 : World} {o1 o2 : Obj} {k : Nat} (hk : k = w.heap.size + 1) (hb : ((w.alloc o1).alloc o2).grownBy w1 (some k)) : Below w.heap.size w w1 :=
  (ext_trans (ext_alloc w o1) (ext_alloc _ o2)).grown hb (ext_trans (ext_alloc w o1) (ext_alloc _ o2)).size (fun g e => by injection e with e; omega)

theorem PNode_at (q o j m c : Nat) (root : Int) (x : Nd) (A' : Option Addr) (c' : Nat) (w : World) (hR : w.rangeAt q (o + j * 36) (ndC x A' c')) (hj : j < m) (hm : m ≤ 9223372036854775807) :
    Calls Try.prog 51 #[.agg #[.slice (some ⟨q, o, none⟩) m c, .int .i64 root], .int .i64 ((j : Int) + 1)] w fun e w' => e = .returned (.agg (ndC x A' c').toArray) ∧ Below w.heap.size w w' := by
  have hw : IntKind.i64.wrap ((j : Int) + 1 - 1) = j := by rw [IntKind.wrap_i64]; omega
  have hne : ((j : Int) + 1 == 0) = false := beq_eq_false_iff_ne.2 (by omega)
  have bT := ((BoxT.new w (some ⟨q, o, none⟩) m c root 60).bel (ext_alloc _ (.cells zNdC 54))).ns
  have hR2 := hid (rangeBel2 (ext_alloc _ (.cells zNdC 54)) (rangeBel2 (ext_alloc w (.cells #[.slice (some ⟨q, o, none⟩) m c, .int .i64 root] 60)) hR))
  have hz := hid (heap_alloc_new (w.alloc (.cells #[.slice (some ⟨q, o, none⟩) m c, .int .i64 root] 60)) (.cells zNdC 54))
  have hun := Try.underlying54
  have hiN := hid (show (Try.prog.info? 54).map (·.size) = some (ndC x A' c').length by rw [len_nd]; exact sizeNd)
  have hiS := hid (show (Try.prog.info? 54).map (·.size) = some (ndC x A' c').toArray.size by rw [List.size_toArray, len_nd]; exact sizeNd)
  have hzs := hid (show zNdC.size = (ndC x A' c').toArray.size by rw [zSizeNd, List.size_toArray, len_nd])
  have hone := hid (one_nd x A' c')
  generalize ndC x A' c' = cs at *
  clear hR
  go_enter Try.func51, Try.ntmps51
  go_wp2_with (first
    | (with_reducible refine wpList_alloc_row rfl 54 rfl zNdC zInfoNd ?_)
    | ((with_reducible refine wpList_load_rng rfl 54 (.tmp 13) rfl q (o + j * 36) rfl cs _ ?_ hun rfl hiN.out ?_); exact hR2.out)
    | ((with_reducible refine wpList_store_row rfl 54 (.tmp 4) (.tmp 14) rfl _ _ rfl rfl 54 zNdC ?_ ?_ ?_ ?_ ?_); (first | exact hz.out | (have e := hz.out; simp only [World.size_alloc] at e; exact e)); exact hiS.out; exact hzs.out; exact hone.out; intro w4 hg4 hb4 hs4; try simp only [World.size_alloc] at hg4 hb4))
  refine bodyPost_ret (results_cell_row Try.results51 _ _ (w.heap.size + 1) 54 _ (0, 0) _ rfl hg4 hun rfl hiS.out) rfl ⟨rfl, below_two rfl hb4⟩
theorem PNode_zero (A : Option Addr) (m c : Nat) (root : Int) (w : World) :
    Calls Try.prog 51 #[.agg #[.slice A m c, .int .i64 root], .int .i64 0] w fun e w' => e = .returned (.agg (ndC nd0 none 0).toArray) ∧ Below w.heap.size w w' := by
  have hz := hid (heap_alloc_new (w.alloc (.cells #[.slice A m c, .int .i64 root] 60)) (.cells zNdC 54))
  have hun := Try.underlying54
  have hbu := hid (show Try.prog.built 54 [] = some (ndC nd0 none 0).toArray by kernel_rfl)
  have hiS := hid (show (Try.prog.info? 54).map (·.size) = some (ndC nd0 none 0).toArray.size by rw [List.size_toArray, len_nd]; exact sizeNd)
  have hzs := hid (show zNdC.size = (ndC nd0 none 0).toArray.size by rw [zSizeNd, List.size_toArray, len_nd])
  have hone := hid (one_nd nd0 none 0)
  generalize ndC nd0 none 0 = cs at *
  go_enter Try.func51, Try.ntmps51
  go_wp2_with (first
    | (with_reducible refine wpList_alloc_row rfl 54 rfl zNdC zInfoNd ?_)
    | ((with_reducible refine wpList_built rfl 54 _ rfl cs.toArray [] ?_ ?_ ?_); exact hbu.out; rfl)
    | ((with_reducible refine wpList_store_row rfl 54 (.tmp 4) (.tmp 7) rfl _ _ rfl rfl 54 zNdC ?_ ?_ ?_ ?_ ?_); (first | exact hz.out | (have e := hz.out; simp only [World.size_alloc] at e; exact e)); exact hiS.out; exact hzs.out; exact hone.out; intro w4 hg4 hb4 hs4; try simp only [World.size_alloc] at hg4 hb4))
  refine bodyPost_ret (results_cell_row Try.results51 _ _ (w.heap.size + 1) 54 _ (0, 0) _ rfl hg4 hun rfl hiS.out) rfl ⟨rfl, below_two rfl hb4⟩
theorem PIsLeaf_any (F : Nat → Prop) (A : Option Addr) (c : Nat) (ns : List Nd) (root n : Int) (w : World) (hr : Row F w A ns) (h0 : 0 ≤ n) (hn : n ≤ ns.length) (hc : ns.length ≤ 9223372036854775807) :
    Calls Try.prog 50 #[.agg #[.slice A ns.length c, .int .i64 root], .int .i64 n] w fun e w' => e = .returned (.bool (leafB ns n)) ∧ Below w.heap.size w w' := by
  have W0 := ext_alloc w (.cells #[.slice A ns.length c, .int .i64 root] 60)
  have bT := (BoxT.new w A ns.length c root 60).ns
  by_cases hz : n = 0
  · subst hz
    go_enter Try.func50, Try.ntmps50
    go_wp2
    go_ret
    exact ⟨ret_bP (by simp [leafB]), W0⟩
  · obtain ⟨j, hj, rfl, hx⟩ : ∃ (j : Nat) (hj : j < ns.length), n = (j : Int) + 1 ∧ ndAt ns n = ns[j] := by
      obtain ⟨j, rfl⟩ : ∃ j : Nat, n = (j : Int) + 1 := ⟨(n - 1).toNat, by omega⟩
      exact ⟨j, by omega, rfl, ndAt_at (by omega)⟩
    obtain ⟨q, o, rfl, A', c', hR, _⟩ := row_nd (hr.bel W0) hj
    have hw : IntKind.i64.wrap ((j : Int) + 1 - 1) = j := by rw [IntKind.wrap_i64]; omega
    have hne : ((j : Int) + 1 != 0) = true := bne_iff_ne.2 hz
    have hl := nd_leaf hR
    have hA := hid (show leafB ns ((j : Int) + 1) = ns[j].leaf by unfold leafB; rw [hx, decide_eq_true hz, Bool.true_and])
    generalize ns[j].leaf = lf at *
    clear hR
    go_enter Try.func50, Try.ntmps50
    go_wp2
    go_ret
    exact ⟨ret_bP hA.out.symm, W0⟩
theorem PIsFork_any (F : Nat → Prop) (A : Option Addr) (c : Nat) (ns : List Nd) (root n : Int) (w : World) (hr : Row F w A ns) (h0 : 0 ≤ n) (hn : n ≤ ns.length) (hc : ns.length ≤ 9223372036854775807) :
    Calls Try.prog 72 #[.agg #[.slice A ns.length c, .int .i64 root], .int .i64 n] w fun e w' => e = .returned (.bool (forkB ns n)) ∧ Below w.heap.size w w' := by
  have W0 := ext_alloc w (.cells #[.slice A ns.length c, .int .i64 root] 60)
  have bT := (BoxT.new w A ns.length c root 60).ns
  by_cases hz : n = 0
  · subst hz
    go_enter Try.func72, Try.ntmps72
    go_wp2
    go_ret
    exact ⟨ret_bP (by simp [forkB]), W0⟩
  · obtain ⟨j, hj, rfl, hx⟩ : ∃ (j : Nat) (hj : j < ns.length), n = (j : Int) + 1 ∧ ndAt ns n = ns[j] := by
      obtain ⟨j, rfl⟩ : ∃ j : Nat, n = (j : Int) + 1 := ⟨(n - 1).toNat, by omega⟩
      exact ⟨j, by omega, rfl, ndAt_at (by omega)⟩
    obtain ⟨q, o, rfl, A', c', hR, _⟩ := row_nd (hr.bel W0) hj
    have hw : IntKind.i64.wrap ((j : Int) + 1 - 1) = j := by rw [IntKind.wrap_i64]; omega
    have hne : ((j : Int) + 1 != 0) = true := bne_iff_ne.2 hz
    have hl := nd_leaf hR
    have hA := hid (show forkB ns ((j : Int) + 1) = !ns[j].leaf by unfold forkB; rw [hx, decide_eq_true hz, Bool.true_and])
    generalize ns[j].leaf = lf at *
    clear hR
    go_enter Try.func72, Try.ntmps72
    go_wp2
    go_ret
    exact ⟨ret_bP hA.out.symm, W0⟩
theorem PRoads_at (q o j m c : Nat) (root : Int) (x : Nd) (A' : Option Addr) (c' : Nat) (w : World) (hR : w.rangeAt q (o + j * 36) (ndC x A' c')) (hj : j < m) (hm : m ≤ 9223372036854775807) :
    Calls Try.prog 54 #[.agg #[.slice (some ⟨q, o, none⟩) m c, .int .i64 root], .int .i64 ((j : Int) + 1)] w fun e w' => e = .returned (.agg #[.int .i64 x.l, .int .i64 x.r]) ∧ Below w.heap.size w w' := by
  have hw : IntKind.i64.wrap ((j : Int) + 1 - 1) = j := by rw [IntKind.wrap_i64]; omega
  have bT := ((BoxT.new w (some ⟨q, o, none⟩) m c root 60).bel (ext_alloc _ (.cells z2C 82))).ns
  have hR2 := rangeBel2 (ext_alloc _ (.cells z2C 82)) (rangeBel2 (ext_alloc w (.cells #[.slice (some ⟨q, o, none⟩) m c, .int .i64 root] 60)) hR)
  have hz := hid (heap_alloc_new (w.alloc (.cells #[.slice (some ⟨q, o, none⟩) m c, .int .i64 root] 60)) (.cells z2C 82))
  have hu2 := Try.underlying82
  have hL := nd_l hR2
  have hRr := nd_r hR2
  have hbu := hid (built2 x.l x.r)
  clear hR hR2
  generalize x.l = l at *
  generalize x.r = r at *
  have X := ext_trans (ext_alloc w (.cells #[.slice (some ⟨q, o, none⟩) m c, .int .i64 root] 60)) (ext_alloc _ (.cells z2C 82))
  have hz := hz.out
  simp only [World.size_alloc] at hz
  replace hz := hid hz
  go_enter Try.func54, Try.ntmps54
  go_wp2_with (first
    | (with_reducible refine wpList_alloc_row rfl 82 rfl z2C zInfo2 ?_))
  generalize hw1 : (w.alloc (.cells #[.slice (some ⟨q, o, none⟩) m c, .int .i64 root] 60)).alloc (.cells z2C 82) = w1 at *
  have i0 : (0 : Int) ≤ (j : Int) := by omega
  have i1 : (j : Int) < (m : Int) := by omega
  have i2 : (j : Int).toNat = j := by omega
  have i3 : IntKind.i64.wrap (j : Int) = j := by rw [IntKind.wrap_i64]; omega
  go_still_tail 17, (by kernel_rfl)
  go_wp2_with (first
    | ((with_reducible refine wpList_built rfl 82 _ rfl #[Value.int .i64 l, .int .i64 r] [(0, .int .i64 l), (1, .int .i64 r)] ?_ ?_ ?_); exact hbu.out; rfl)
    | ((with_reducible refine wpList_store_row rfl 82 (.tmp 4) (.tmp 21) rfl (w.heap.size + 1) _ rfl rfl 82 z2C ?_ ?_ ?_ ?_ ?_); exact hz.out; exact size2; rfl; exact one2 l r; intro w4 hg4 hb4 hs4))
  refine bodyPost_ret (results_cell_row Try.results54 _ _ (w.heap.size + 1) 82 _ (0, 0) _ rfl hg4 hu2 rfl size2) rfl ⟨rfl, (X.trans ((bel_drew w1).mono X.size)).grown hb4 X.size (fun g e => by injection e with e; omega)⟩
end Go.Proofs.Ytminmkmkaoocaaa
