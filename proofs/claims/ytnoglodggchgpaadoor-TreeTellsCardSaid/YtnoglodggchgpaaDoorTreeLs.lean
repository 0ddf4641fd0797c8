/-
  Contracts of the landed package tree: Same, of any two.
-/
import Derived.Test.YtnoglodggchgpaaDoorBEq
import Derived.Test.YtnoglodggchgpaaDoorBits
import Derived.Test.YtnoglodggchgpaaDoorTrB
import Derived.Test.YtnoglodggchgpaaDoorTrA
namespace Go.Proofs.YtnoglodggchgpaaDoor
open Go.RowKit
set_option linter.unusedVariables false
set_option linter.unusedSimpArgs false
set_option maxRecDepth 100000

def eqN (x y : Nd) : Bool := (x.leaf == y.leaf) && decide (x.k = y.k) && decide (x.v = y.v) && (x.l == y.l) && (x.r == y.r)
theorem eqN_iff {x y : Nd} : eqN x y = true ↔ x = y := by
  obtain ⟨a1, a2, a3, a4, a5⟩ := x
  obtain ⟨b1, b2, b3, b4, b5⟩ := y
  unfold eqN
  simp [Bool.and_eq_true, and_assoc]
theorem take_eq_succN {ns ms : List Nd} {j : Nat} (h1 : j < ns.length) (h2 : j < ms.length) (h : ns.take j = ms.take j) : ns.take (j + 1) = ms.take (j + 1) ↔ ns[j] = ms[j] := by
  rw [List.take_succ_eq_append_getElem h1, List.take_succ_eq_append_getElem h2, h]
  constructor
  · intro e
    have := List.append_cancel_left e
    simpa using this
  · intro e
    rw [e]
theorem ret_bN {a b : Bool} (h : a = b) : Ending.returned (Value.bool a) = .returned (.bool b) := by rw [h]
theorem boxesNN (w : World) (x y : Nd) (A A2 : Option Addr) (c c2 : Nat) (t : TypeId) :
    BoxN ((w.alloc (.cells (ndC x A c).toArray t)).alloc (.cells (ndC y A2 c2).toArray t)) w.heap.size x A c ∧ BoxN ((w.alloc (.cells (ndC x A c).toArray t)).alloc (.cells (ndC y A2 c2).toArray t)) (w.heap.size + 1) y A2 c2 ∧
    Below w.heap.size w ((w.alloc (.cells (ndC x A c).toArray t)).alloc (.cells (ndC y A2 c2).toArray t)) := by
  have h1 := BoxN.new w x A c t
  have h2 := BoxN.new (w.alloc (.cells (ndC x A c).toArray t)) y A2 c2 t
  rw [World.size_alloc] at h2
  exact ⟨h1.bel (ext_alloc _ _), h2, ext_trans (ext_alloc _ _) (ext_alloc _ _)⟩
set_option maxHeartbeats 2000000 in
theorem PSameNode_is (x y : Nd) (A A2 : Option Addr) (c c2 : Nat) (b : Bool) (w : World) (hr : Rd w A x.v) (hr2 : Rd w A2 y.v) (hb : eqN x y = b) :
    Calls Tryd.prog 88 #[.agg (ndC x A c).toArray, .agg (ndC y A2 c2).toArray] w fun e w' => e = .returned (.bool b) ∧ Below w.heap.size w w' := by
  obtain ⟨B1, B2, W0⟩ := boxesNN w x y A A2 c c2 50
  have hu := Tryd.underlying23
  have r1 := hid (hr.bel W0)
  have r2 := hid (hr2.bel W0)
  have k1 := hid B1.key
  have k2 := hid B2.key
  have f1 := B1.leaf
  have f2 := B2.leaf
  have v1 := B1.val
  have v2 := B2.val
  have l1 := B1.l
  have l2 := B2.l
  have s1 := B1.r
  have s2 := B2.r
  have i1 := hid (sizeDgT x.k)
  have i2 := hid (sizeDgT y.k)
  obtain ⟨kb, hkb⟩ : ∃ kb, decide (x.k = y.k) = kb := ⟨_, rfl⟩
  obtain ⟨vb, hvb⟩ : ∃ vb, decide (x.v = y.v) = vb := ⟨_, rfl⟩
  obtain ⟨fb, hfb⟩ : ∃ fb, (x.leaf == y.leaf) = fb := ⟨_, rfl⟩
  obtain ⟨lb, hlb⟩ : ∃ lb, (x.l == y.l) = lb := ⟨_, rfl⟩
  obtain ⟨rb, hrb⟩ : ∃ rb, (x.r == y.r) = rb := ⟨_, rfl⟩
  have hE : ∀ W, (Op.equalIn 10000 23 (.agg (x.k.1.map bv).toArray) (.agg (y.k.1.map bv).toArray)).run Tryd.prog W = .ok kb W := fun W => eqd_is x.k y.k kb hkb W
  have hV := hid (fun W (h1 : Rd W A x.v) (h2 : Rd W A2 y.v) => BEqual_is A A2 c c2 x.v y.v vb W h1 h2 hvb)
  have hB : b = (fb && kb && vb && lb && rb) := by
    rw [← hb, ← hkb, ← hvb, ← hfb, ← hlb, ← hrb]
    rfl
  clear hb hkb hvb B1 B2 hr hr2
  generalize x.k.1.map bv = dk1 at *
  generalize y.k.1.map bv = dk2 at *
  generalize x.v.length = n1 at *
  generalize y.v.length = n2 at *
  generalize x.leaf = lf1 at *
  generalize y.leaf = lf2 at *
  generalize x.l = a1 at *
  generalize y.l = a2 at *
  generalize x.r = q1 at *
  generalize y.r = q2 at *
  generalize ndC x A c = cs1 at *
  generalize ndC y A2 c2 = cs2 at *
  replace hB := hid hB
  have fin : ∀ a : Bool, a = (fb && kb && vb && lb && rb) → Ending.returned (.bool a) = .returned (.bool b) := fun a h => by rw [h, hB.out]
  replace fin := hid fin
  clear hB
  go_enter Tryd.func88, Tryd.ntmps88
  cases fb
  · go_wp2
    go_ret
    exact ⟨fin.out _ rfl, W0⟩
  cases kb
  · go_wp2_with (first
      | ((with_reducible refine wpList_load_rng ?_ 23 (.tmp 11) rfl w.heap.size 1 rfl dk1 _ ?_ hu rfl i1.out ?_); rfl; exact k1.out)
      | ((with_reducible refine wpList_load_rng ?_ 23 (.tmp 13) rfl (w.heap.size + 1) 1 rfl dk2 _ ?_ hu rfl i2.out ?_); rfl; exact k2.out))
    go_ret
    exact ⟨fin.out _ rfl, W0⟩
  go_wp2_with (first
    | ((with_reducible refine wpList_load_rng ?_ 23 (.tmp 11) rfl w.heap.size 1 rfl dk1 _ ?_ hu rfl i1.out ?_); rfl; exact k1.out)
    | ((with_reducible refine wpList_load_rng ?_ 23 (.tmp 13) rfl (w.heap.size + 1) 1 rfl dk2 _ ?_ hu rfl i2.out ?_); rfl; exact k2.out))
  refine (hV.out _ r1.out r2.out).mono ?_
  rintro e w7 ⟨rfl, rfl⟩
  have W1 := hid W0
  cases vb
  · go_wp2
    go_ret
    exact ⟨fin.out _ rfl, W1.out⟩
  cases lb
  · go_wp2
    go_ret
    exact ⟨fin.out _ rfl, W1.out⟩
  cases rb
  · go_wp2
    go_ret
    exact ⟨fin.out _ rfl, W1.out⟩
  · go_wp2
    go_ret
    exact ⟨fin.out _ rfl, W1.out⟩
set_option maxHeartbeats 4000000 in
theorem PEqualFuncN_any (F G : Nat → Prop) (A D : Option Addr) (c d : Nat) (ns ms : List Nd) (w : World) (hr : Row F w A ns) (hs : Row G w D ms) (hc : ns.length ≤ 9223372036854775807) (hd : ms.length ≤ 9223372036854775807) :
    Calls Tryd.prog 87 #[.slice A ns.length c, .slice D ms.length d, .func (.func 88) #[] #[]] w fun e w' => e = .returned (.bool (decide (ns = ms))) ∧ Below w.heap.size w w' := by
  obtain ⟨ans, ha⟩ : ∃ ans, decide (ns = ms) = ans := ⟨_, rfl⟩
  rw [ha]
  replace ha := hid ha
  by_cases hl : ns.length = ms.length
  · have hl2 := hid hl
    rw [← hl] at hd ⊢
    replace hl := hl2
    clear hl2
    go_enter Tryd.func87, Tryd.ntmps87
    go_wp2
    go_loopw [17] (fun i wr => ∃ j : Nat, j ≤ ns.length ∧ i = .int .i64 j ∧ ns.take j = ms.take j ∧ Below w.heap.size w wr) (fun i _ => ns.length - (intOf i).toNat)
    case atStart => exact ⟨0, Nat.zero_le _, rfl, by simp, Below.refl _ _⟩
    case round =>
      obtain ⟨j, hj, rfl, hrel, hb⟩ := hrel
      by_cases hlt : j < ns.length
      · have hlt2 : j < ms.length := by rw [← hl.out]; exact hlt
        have E := hid (take_eq_succN hlt hlt2 hrel)
        replace hrel := hid hrel
        have hu2 := Tryd.underlying50
        obtain ⟨b, o, hA, A1, c1, r1, h1, h2, h3, -, -⟩ := row_nd (hr.bel hb) hlt
        obtain ⟨b', o', hD, D1, d1, r2, h4, h5, h6, -, -⟩ := row_nd (hs.bel hb) hlt2
        have hrd := hid h3.rd
        have hrd2 := hid h6.rd
        subst hA hD
        have hs1 := hid (show (Tryd.prog.info? 50).map (·.size) = some (ndC ns[j] A1 c1).length by rw [len_nd]; exact sizeNd)
        have hs2 := hid (show (Tryd.prog.info? 50).map (·.size) = some (ndC ms[j] D1 d1).length by rw [len_nd]; exact sizeNd)
        have ht1 := hid (show (Tryd.prog.info? 50).map (·.size) = some (ndC ns[j] A1 c1).toArray.size by rw [List.size_toArray, len_nd]; exact sizeNd)
        have ht2 := hid (show (Tryd.prog.info? 50).map (·.size) = some (ndC ms[j] D1 d1).toArray.size by rw [List.size_toArray, len_nd]; exact sizeNd)
        have hz1 := hid (show zNdC.size = (ndC ns[j] A1 c1).toArray.size by rw [zSizeNd, List.size_toArray, len_nd])
        have hz2 := hid (show zNdC.size = (ndC ms[j] D1 d1).toArray.size by rw [zSizeNd, List.size_toArray, len_nd])
        have ho1 := hid (one_nd ns[j] A1 c1)
        have ho2 := hid (one_nd ms[j] D1 d1)
        have hn1 := hid (fun (W : World) (g : Nat) (t : TypeId) (h : W.heap[g]? = some (.cells (ndC ns[j] A1 c1).toArray t (0, 0))) => (BoxN.heap h).all)
        have hn2 := hid (fun (W : World) (g : Nat) (t : TypeId) (h : W.heap[g]? = some (.cells (ndC ms[j] D1 d1).toArray t (0, 0))) => (BoxN.heap h).all)
        obtain ⟨eb, heb⟩ : ∃ eb, eqN ns[j] ms[j] = eb := ⟨_, rfl⟩
        have hno : eb = false → ans = false := by
          intro h
          rw [← ha.out, decide_eq_false]
          intro e
          have := eqN_iff.2 (E.out.1 (by rw [e]))
          rw [heb, h] at this
          cases this
        have hyes : eb = true → ns.take (j + 1) = ms.take (j + 1) := fun h1 => E.out.2 (eqN_iff.1 (heb.trans h1))
        have hcall := hid (fun (W : World) (k1 : Rd W A1 ns[j].v) (k2 : Rd W D1 ms[j].v) => PSameNode_is ns[j] ms[j] A1 D1 c1 d1 eb W k1 k2 heb)
        replace hno := hid hno
        replace hyes := hid hyes
        replace heb := hid heb
        clear E h3 h6 hr hs h1 h2 h4 h5
        have hbs := hb.size
        go_wp2_with (first
          | ((with_reducible refine wpList_load_rng rfl 50 (.tmp 20) rfl b (o + j * 36) rfl (ndC ns[j] A1 c1) _ ?_ hu2 rfl hs1.out ?_); exact r1)
          | ((with_reducible refine wpList_load_rng rfl 50 (.tmp 24) rfl b' (o' + j * 36) rfl (ndC ms[j] D1 d1) _ ?_ hu2 rfl hs2.out ?_); exact rangeBel2 (xnewP rfl hb4) r2)
          | ((with_reducible refine wpList_load_rng rfl 50 (.tmp 8) rfl wr.heap.size 0 rfl (ndC ns[j] A1 c1) _ ?_ hu2 rfl hs1.out ?_); exact rangeBel2 (xnewP rfl hb5) (hn1.out _ _ _ hg4))
          | ((with_reducible refine wpList_load_rng rfl 50 (.tmp 9) rfl w4.heap.size 0 rfl (ndC ms[j] D1 d1) _ ?_ hu2 rfl hs2.out ?_); exact (hn2.out _ _ _ hg5))
          | (with_reducible refine wpList_alloc_row rfl 50 rfl zNdC zInfoNd ?_)
          | ((with_reducible refine wpList_store_row rfl 50 (.tmp 8) (.tmp 21) rfl wr.heap.size (ndC ns[j] A1 c1).toArray rfl ?_ 50 zNdC ?_ ?_ ?_ ?_ ?_); rfl; exact heap_alloc_new wr _; exact ht1.out; exact hz1.out; exact ho1.out; intro w4 hg4 hb4 hs4; clear hs4)
          | ((with_reducible refine wpList_store_row rfl 50 (.tmp 9) (.tmp 25) rfl w4.heap.size (ndC ms[j] D1 d1).toArray rfl ?_ 50 zNdC ?_ ?_ ?_ ?_ ?_); rfl; exact heap_alloc_new w4 _; exact ht2.out; exact hz2.out; exact ho2.out; intro w5 hg5 hb5 hs5; clear hs5))
        have B4 := xnewP rfl hb4
        have B5 := xnewP rfl hb5
        have B05 := B4.trans (B5.mono B4.size)
        have B1 := hid (hb.trans (B05.mono hbs))
        have hrd5 := hrd.out.bel B05
        have hrd25 := hrd2.out.bel B05
        clear hg4 hb4 hg5 hb5 r1 r2 hrd hrd2
        refine (hcall.out w5 hrd5 hrd25).mono ?_
        rintro e w6 ⟨rfl, hb6⟩
        have B16 := B1.out.trans (hb6.mono B1.out.size)
        cases eb
        · replace hno := hid (hno.out rfl)
          go_wp2
          go_ret
          exact ⟨ret_bN hno.out.symm, B16⟩
        · replace hyes := hid (hyes.out rfl)
          go_wp2
          go_roundw
          case rel => exact ⟨j + 1, by omega, by go_num, hyes.out, B16⟩
          case measure => simp [intOf]; omega
      · obtain rfl : j = ns.length := by omega
        have hans : ans = true := by
          rw [← ha.out, decide_eq_true]
          rw [List.take_length] at hrel
          rw [hrel, hl.out, List.take_length]
        replace hans := hid hans
        replace hrel := hid hrel
        go_wp2
        go_ret
        exact ⟨ret_bN hans.out.symm, hb⟩
  · have hans : ans = false := by
      rw [← ha.out, decide_eq_false]
      intro e
      exact hl (by rw [e])
    subst hans
    go_enter Tryd.func87, Tryd.ntmps87
    go_wp2
    go_ret
    exact ⟨rfl, Below.refl _ _⟩
/-- Whether two trees are the same. -/
def sameT (x y : Tr) : Bool := (x.root == y.root) && decide (x.ns = y.ns)
theorem sameT_self (x : Tr) : sameT x x = true := by simp [sameT]
theorem boxesTwo (w : World) (A D : Option Addr) (n m c d : Nat) (root r2 : Int) :
    BoxT ((w.alloc (.cells #[.slice A n c, .int .i64 root] 44)).alloc (.cells #[.slice D m d, .int .i64 r2] 44)) w.heap.size A n c root ∧
    BoxT ((w.alloc (.cells #[.slice A n c, .int .i64 root] 44)).alloc (.cells #[.slice D m d, .int .i64 r2] 44)) (w.heap.size + 1) D m d r2 ∧
    Below w.heap.size w ((w.alloc (.cells #[.slice A n c, .int .i64 root] 44)).alloc (.cells #[.slice D m d, .int .i64 r2] 44)) := by
  have h2 := BoxT.new (w.alloc (.cells #[.slice A n c, .int .i64 root] 44)) D m d r2 44
  rw [World.size_alloc] at h2
  exact ⟨(BoxT.new w A n c root _).bel (ext_alloc _ _), h2, ext_trans (ext_alloc _ _) (ext_alloc _ _)⟩
set_option maxHeartbeats 2000000 in
theorem PSameT_is (F G : Nat → Prop) (A D : Option Addr) (c d : Nat) (ns ms : List Nd) (r1 r2 : Int) (b : Bool) (w : World) (hr : Row F w A ns) (hs : Row G w D ms) (hc : ns.length ≤ 9223372036854775807) (hd : ms.length ≤ 9223372036854775807) (hb : sameT ⟨ns, r1⟩ ⟨ms, r2⟩ = b) :
    Calls Tryd.prog 42 #[.agg #[.slice A ns.length c, .int .i64 r1], .agg #[.slice D ms.length d, .int .i64 r2]] w fun e w' => e = .returned (.bool b) ∧ Below w.heap.size w w' := by
  obtain ⟨T1, T2, W0⟩ := boxesTwo w A D ns.length ms.length c d r1 r2
  have hE := hid (PEqualFuncN_any F G A D c d ns ms _ (hr.bel W0) (hs.bel W0) hc hd)
  have y1 := T1.ns
  have y2 := T2.ns
  have y3 := T1.rt
  have y4 := T2.rt
  obtain ⟨rb, hrb⟩ : ∃ rb, (r1 == r2) = rb := ⟨_, rfl⟩
  unfold sameT at hb
  dsimp only at hb
  rw [hrb] at hb
  clear T1 T2
  go_enter Tryd.func42, Tryd.ntmps42
  cases rb
  · subst hb
    rw [Bool.false_and]
    clear hE
    go_wp2
    go_ret
    exact ⟨rfl, W0⟩
  · subst hb
    rw [Bool.true_and]
    go_wp2_with fail
    refine hE.out.mono ?_
    rintro e w1 ⟨rfl, hb1⟩
    go_wp2
    go_ret
    exact ⟨rfl, W0.trans (hb1.mono W0.size)⟩
end Go.Proofs.YtnoglodggchgpaaDoor
