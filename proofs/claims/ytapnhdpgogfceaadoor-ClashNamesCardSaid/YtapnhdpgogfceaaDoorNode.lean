/-
  Nodes and trees in memory: a node's 36 cells, a tree's 2. No program is named here.
-/
import Derived.Test.YtapnhdpgogfceaaDoorTreeP
import Derived.Test.YtapnhdpgogfceaaDoorMem
namespace Go.Proofs.YtapnhdpgogfceaaDoor
open Go.RowKit
set_option linter.unusedVariables false

/-- A node's cells. -/
def ndC (x : Nd) (A : Option Addr) (c : Nat) : List Value := [.bool x.leaf] ++ (x.k.1.map bv ++ ([.slice A x.v.length c] ++ ([.int .i64 x.l] ++ [.int .i64 x.r])))
def I64 (n : Int) : Prop := -9223372036854775808 ≤ n ∧ n ≤ 9223372036854775807
theorem len_nd (x : Nd) (A : Option Addr) (c : Nat) : (ndC x A c).length = 36 := by simp [ndC, x.k.2]
theorem one_nd (x : Nd) (A : Option Addr) (c : Nat) : (ndC x A c).toArray.all (·.oneCell') = true := all_oneCell_toArray fun u hu => by
  simp only [ndC, List.mem_append, List.mem_singleton] at hu
  rcases hu with rfl | h | rfl | rfl | rfl
  · rfl
  · exact bvs_one _ u h
  · rfl
  · rfl
  · rfl
theorem rep_nd {F : Nat → Prop} {w : World} {x : Nd} {vs : List Value} (h : Enc.rep F w x vs) : ∃ A c, vs = ndC x A c ∧ x.v.length ≤ c ∧ c ≤ maxLen ∧ Row F w A x.v ∧ I64 x.l ∧ I64 x.r := by
  obtain ⟨u1, t1, rfl, h1, u2, t2, rfl, h2, u3, t3, rfl, ⟨A, c, rfl, h3⟩, u4, t4, rfl, ⟨rfl, h4⟩, rfl, h5⟩ := h
  have h1 : u1 = [.bool x.leaf] := h1
  have h2 : u2 = x.k.1.map bv := h2
  subst h1 h2
  exact ⟨A, c, rfl, h3.1, h3.2.1, h3.2.2, h4, h5⟩
theorem rep_nd_mk {F : Nat → Prop} {w : World} (x : Nd) (A : Option Addr) (c : Nat) (h1 : x.v.length ≤ c) (h2 : c ≤ maxLen) (h3 : Row F w A x.v) (h4 : I64 x.l) (h5 : I64 x.r) : Enc.rep F w x (ndC x A c) :=
  ⟨_, _, rfl, rfl, _, _, rfl, rfl, _, _, rfl, ⟨A, c, rfl, h1, h2, h3⟩, _, _, rfl, ⟨rfl, h4⟩, rfl, h5⟩

theorem range_sub {W : World} {b o : Nat} {xs ys zs : List Value} (h : W.rangeAt b o (xs ++ (ys ++ zs))) (k : Nat) (hk : xs.length = k) : W.rangeAt b (o + k) ys := fun j v hv => by
  have := h (k + j) v (by
    rw [List.getElem?_append_right (by omega), List.getElem?_append_left (by have := (List.getElem?_eq_some_iff.1 hv).1; omega), hk, Nat.add_sub_cancel_left]
    exact hv)
  rw [← Nat.add_assoc] at this
  exact this
theorem range_one {W : World} {b o : Nat} {v : Value} (h : W.rangeAt b o [v]) : W.cell? ⟨b, o, none⟩ = some v := h 0 v rfl
section
variable {W W' : World} {b o : Nat} {x : Nd} {A : Option Addr} {c : Nat}
theorem nd_leaf (h : W.rangeAt b o (ndC x A c)) : W.cell? ⟨b, o, none⟩ = some (.bool x.leaf) := h 0 _ rfl
theorem nd_key (h : W.rangeAt b o (ndC x A c)) : W.rangeAt b (o + 1) (x.k.1.map bv) := range_sub (xs := [Value.bool x.leaf]) h 1 rfl
theorem nd_at (h : W.rangeAt b o (ndC x A c)) (j : Nat) (v : Value) (hv : ([.slice A x.v.length c, .int .i64 x.l, .int .i64 x.r] : List Value)[j]? = some v) : W.cell? ⟨b, o + (33 + j), none⟩ = some v := by
  refine h (33 + j) v ?_
  have e : ndC x A c = ([Value.bool x.leaf] ++ x.k.1.map bv) ++ [.slice A x.v.length c, .int .i64 x.l, .int .i64 x.r] := by simp [ndC]
  have l : ([Value.bool x.leaf] ++ x.k.1.map bv).length = 33 := by simp [x.k.2]
  rw [e, List.getElem?_append_right (by omega), l, Nat.add_sub_cancel_left]
  exact hv
theorem nd_val (h : W.rangeAt b o (ndC x A c)) : W.cell? ⟨b, o + 33, none⟩ = some (.slice A x.v.length c) := nd_at h 0 _ rfl
theorem nd_l (h : W.rangeAt b o (ndC x A c)) : W.cell? ⟨b, o + 34, none⟩ = some (.int .i64 x.l) := nd_at h 1 _ rfl
theorem nd_r (h : W.rangeAt b o (ndC x A c)) : W.cell? ⟨b, o + 35, none⟩ = some (.int .i64 x.r) := nd_at h 2 _ rfl
end
/-- A node in a box of its own: its parts. -/
structure BoxN (W : World) (g : Nat) (x : Nd) (A : Option Addr) (c : Nat) : Prop where
  all : W.rangeAt g 0 (ndC x A c)
  leaf : W.cell? ⟨g, 0, none⟩ = some (.bool x.leaf)
  key : W.rangeAt g 1 (x.k.1.map bv)
  val : W.cell? ⟨g, 33, none⟩ = some (.slice A x.v.length c)
  l : W.cell? ⟨g, 34, none⟩ = some (.int .i64 x.l)
  r : W.cell? ⟨g, 35, none⟩ = some (.int .i64 x.r)
theorem BoxN.of {W : World} {g : Nat} {x : Nd} {A : Option Addr} {c : Nat} (h : W.rangeAt g 0 (ndC x A c)) : BoxN W g x A c := by
  have h1 := nd_key h
  have h2 := nd_val h
  have h3 := nd_l h
  have h4 := nd_r h
  rw [Nat.zero_add] at h1 h2 h3 h4
  exact ⟨h, nd_leaf h, h1, h2, h3, h4⟩
theorem BoxN.bel {W W' : World} {g : Nat} {x : Nd} {A : Option Addr} {c : Nat} (h : BoxN W g x A c) (hb : Below W.heap.size W W') : BoxN W' g x A c := BoxN.of (rangeBel2 hb h.all)
theorem BoxN.lt {W : World} {g : Nat} {x : Nd} {A : Option Addr} {c : Nat} (h : BoxN W g x A c) : g < W.heap.size := World.block_lt_of_cell? _ _ h.leaf
theorem BoxN.heap {W : World} {g : Nat} {x : Nd} {A : Option Addr} {c : Nat} {t : TypeId} (h : W.heap[g]? = some (.cells (ndC x A c).toArray t (0, 0))) : BoxN W g x A c := BoxN.of (rangeOf h)
theorem BoxN.new (W : World) (x : Nd) (A : Option Addr) (c : Nat) (t : TypeId) : BoxN (W.alloc (.cells (ndC x A c).toArray t)) W.heap.size x A c := BoxN.heap (heap_alloc_new W _)
/-- A tree in a box of its own. -/
structure BoxT (W : World) (g : Nat) (A : Option Addr) (n c : Nat) (root : Int) : Prop where
  all : W.rangeAt g 0 [.slice A n c, .int .i64 root]
  ns : W.cell? ⟨g, 0, none⟩ = some (.slice A n c)
  rt : W.cell? ⟨g, 1, none⟩ = some (.int .i64 root)
theorem BoxT.of {W : World} {g : Nat} {A : Option Addr} {n c : Nat} {root : Int} (h : W.rangeAt g 0 [.slice A n c, .int .i64 root]) : BoxT W g A n c root := ⟨h, h 0 _ rfl, h 1 _ rfl⟩
theorem BoxT.bel {W W' : World} {g : Nat} {A : Option Addr} {n c : Nat} {root : Int} (h : BoxT W g A n c root) (hb : Below W.heap.size W W') : BoxT W' g A n c root := BoxT.of (rangeBel2 hb h.all)
theorem BoxT.new (W : World) (A : Option Addr) (n c : Nat) (root : Int) (t : TypeId) : BoxT (W.alloc (.cells #[.slice A n c, .int .i64 root] t)) W.heap.size A n c root := BoxT.of (rangeOf (l := [.slice A n c, .int .i64 root]) (heap_alloc_new W _))
theorem BoxT.lt {W : World} {g : Nat} {A : Option Addr} {n c : Nat} {root : Int} (h : BoxT W g A n c root) : g < W.heap.size := World.block_lt_of_cell? _ _ h.ns

/-- The j-th node of a row. -/
theorem row_nd {F : Nat → Prop} {w : World} {A : Option Addr} {ns : List Nd} (h : Row F w A ns) {j : Nat} (hj : j < ns.length) :
    ∃ b o, A = some ⟨b, o, none⟩ ∧ ∃ A' c', w.rangeAt b (o + j * 36) (ndC ns[j] A' c') ∧ ns[j].v.length ≤ c' ∧ c' ≤ maxLen ∧ Row F w A' ns[j].v ∧ I64 ns[j].l ∧ I64 ns[j].r := by
  obtain ⟨b, o, rfl, _, _, h3⟩ := h (by omega)
  obtain ⟨vs, h1, h2⟩ := h3 j _ (List.getElem?_eq_getElem hj)
  obtain ⟨A', c', rfl, h4⟩ := rep_nd h1
  rw [size_nd] at h2
  exact ⟨b, o, rfl, A', c', h2, h4⟩
theorem ones_at {ns : List Nd} (ho : Ones ns) {n : Int} (h0 : 0 < n) (hn : n ≤ ns.length) : ∃ (j : Nat) (hj : j < ns.length), n = (j : Int) + 1 ∧ ndAt ns n = ns[j] ∧ oneN ns[j] j = true := by
  obtain ⟨j, rfl⟩ : ∃ j : Nat, n = (j : Int) + 1 := ⟨(n - 1).toNat, by omega⟩
  have hj : j < ns.length := by omega
  exact ⟨j, hj, rfl, ndAt_at hj, ho j hj⟩
theorem one_fork {x : Nd} {a : Nat} (h : oneN x a = true) (hl : x.leaf = false) : 0 ≤ x.l ∧ x.l ≤ a ∧ 0 ≤ x.r ∧ x.r ≤ a ∧ ¬ (x.l = 0 ∧ x.r = 0) ∧ x.k = z0 ∧ x.v = [] := by
  unfold oneN at h
  rw [hl] at h
  simp at h
  exact ⟨h.1.1.1, h.1.1.2.1, h.1.1.2.2.1, h.1.1.2.2.2.1, fun q => h.1.1.2.2.2.2.elim (fun a => a q.1) (fun a => a q.2), h.1.2, h.2⟩
theorem one_leaf {x : Nd} {a : Nat} (h : oneN x a = true) (hl : x.leaf = true) : valB x.v = true ∧ x.l = 0 ∧ x.r = 0 := by
  unfold oneN at h
  rw [hl] at h
  simp at h
  exact ⟨h.1.1, h.1.2, h.2⟩
end Go.Proofs.YtapnhdpgogfceaaDoor
