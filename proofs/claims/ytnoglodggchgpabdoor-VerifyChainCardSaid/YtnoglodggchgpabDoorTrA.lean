/-
  Texts laid together: TreeLa, TreeLb, TreeLc, TreeLd.
-/
import Derived.Test.YtnoglodggchgpabDoorTreeB
import Derived.Test.YtnoglodggchgpabDoorPrA
import Derived.Test.YtnoglodggchgpabDoorRoad
import Derived.Test.YtnoglodggchgpabDoorBits
import Derived.Test.YtnoglodggchgpabDoorMem
import Derived.StillTailTactics
set_option maxRecDepth 100000
/- (TreeLa)
  Contracts of the landed package tree: isValue, isFull, mayStand, bit.
-/
namespace Go.Proofs.YtnoglodggchgpabDoor
open Go.RowKit
set_option linter.unusedVariables false
set_option linter.unusedSimpArgs false
set_option maxRecDepth 100000

theorem built_prv (A : Option Addr) (n c : Nat) : Tryd.prog.built 76 [(1, .slice A n c)] = some (z0.1.map bv ++ [Value.slice A n c]).toArray := by kernel_rfl
theorem mayP_one (k : Dg) (v : List UInt8) : mayP [⟨k, v⟩] = valB v := by
  unfold mayP
  simp [chain]

end Go.Proofs.YtnoglodggchgpabDoor

/- (TreeLb)
  Contracts of the landed package tree: node, isLeaf, isFork, roads, single.
-/
namespace Go.Proofs.YtnoglodggchgpabDoor
open Go.RowKit
set_option linter.unusedVariables false
set_option linter.unusedSimpArgs false
set_option maxRecDepth 100000

def leafB (ns : List Nd) (n : Int) : Bool := decide (n ≠ 0) && (ndAt ns n).leaf
def forkB (ns : List Nd) (n : Int) : Bool := decide (n ≠ 0) && !(ndAt ns n).leaf
def singleP (ns : List Nd) (a b : Int) : Int := if (leafB ns a && decide (b = 0)) = true then a else if (leafB ns b && decide (a = 0)) = true then b else 0
def z2C : Array Value := #[.int .i64 0, .int .i64 0]
theorem one2 (a b : Int) : (#[Value.int .i64 a, .int .i64 b] : Array Value).all (·.oneCell') = true := all_oneCell_toArray (cs := [Value.int .i64 a, .int .i64 b]) fun u hu => by
  simp at hu
  rcases hu with rfl | rfl <;> rfl
theorem below_two {w w1 : World} {o1 o2 : Obj} {k : Nat} (hk : k = w.heap.size + 1) (hb : ((w.alloc o1).alloc o2).grownBy w1 (some k)) : Below w.heap.size w w1 :=
  (ext_trans (ext_alloc w o1) (ext_alloc _ o2)).grown hb (ext_trans (ext_alloc w o1) (ext_alloc _ o2)).size (fun g e => by injection e with e; omega)

end Go.Proofs.YtnoglodggchgpabDoor

/- (TreeLc)
  Contracts of the landed package tree: single, isRight.
-/
namespace Go.Proofs.YtnoglodggchgpabDoor
open Go.RowKit
set_option linter.unusedVariables false
set_option linter.unusedSimpArgs false
set_option maxRecDepth 100000

theorem key_extract (x : Nd) (A : Option Addr) (c : Nat) : (ndC x A c).toArray.extract 1 33 = (x.k.1.map bv).toArray := by
  apply Array.ext'
  have hl : (x.k.1.map bv).length = 32 := by rw [List.length_map]; exact x.k.2
  simp only [Array.toList_extract, ndC, List.cons_append, List.nil_append, List.extract_eq_take_drop, List.drop_succ_cons, List.drop_zero]
  rw [List.take_append_of_le_length (by omega), List.take_of_length_le (by omega)]
theorem boxesT2 (w : World) (A : Option Addr) (n c : Nat) (root a b : Int) (t u : TypeId) :
    BoxT ((w.alloc (.cells #[.slice A n c, .int .i64 root] t)).alloc (.cells #[.int .i64 a, .int .i64 b] u)) w.heap.size A n c root ∧ ((w.alloc (.cells #[.slice A n c, .int .i64 root] t)).alloc (.cells #[.int .i64 a, .int .i64 b] u)).rangeAt (w.heap.size + 1) 0 [.int .i64 a, .int .i64 b] ∧
    Below w.heap.size w ((w.alloc (.cells #[.slice A n c, .int .i64 root] t)).alloc (.cells #[.int .i64 a, .int .i64 b] u)) := by
  have h1 := BoxT.new w A n c root t
  have h2 := rangeOf (l := [Value.int .i64 a, .int .i64 b]) (heap_alloc_new (w.alloc (.cells #[.slice A n c, .int .i64 root] t)) (.cells #[.int .i64 a, .int .i64 b] u))
  rw [World.size_alloc] at h2
  exact ⟨h1.bel (ext_alloc _ _), h2, ext_trans (ext_alloc _ _) (ext_alloc _ _)⟩


theorem xnewP {w0 w4 : World} {o : Obj} {k : Nat} (hk : k = w0.heap.size) (hb : (w0.alloc o).grownBy w4 (some k)) : Below w0.heap.size w0 w4 :=
  (ext_alloc w0 o).grown hb (ext_alloc w0 o).size (fun g e => by injection e with e; omega)
theorem boxesTDp (w : World) (A : Option Addr) (n c : Nat) (root : Int) (b : Dg) (t u : TypeId) :
    BoxT ((w.alloc (.cells #[.slice A n c, .int .i64 root] t)).alloc (.cells (b.1.map bv).toArray u)) w.heap.size A n c root ∧ ((w.alloc (.cells #[.slice A n c, .int .i64 root] t)).alloc (.cells (b.1.map bv).toArray u)).rangeAt (w.heap.size + 1) 0 (b.1.map bv) ∧
    Below w.heap.size w ((w.alloc (.cells #[.slice A n c, .int .i64 root] t)).alloc (.cells (b.1.map bv).toArray u)) := by
  have h1 := BoxT.new w A n c root t
  have h2 := rangeOf (heap_alloc_new (w.alloc (.cells #[.slice A n c, .int .i64 root] t)) (.cells (b.1.map bv).toArray u))
  rw [World.size_alloc] at h2
  exact ⟨h1.bel (ext_alloc _ _), h2, ext_trans (ext_alloc _ _) (ext_alloc _ _)⟩
theorem PShared_is (a b : Dg) (u v : Value) (s : Nat) (hu : u = .agg (a.1.map bv).toArray) (hv : v = .agg (b.1.map bv).toArray) (hs : shared a.1 b.1 = s) (w : World) :
    Calls Tryd.prog 27 #[u, v] w fun e w' => e = .returned (.int .i64 (s : Int)) ∧ Below w.heap.size w w' := by
  subst hu hv hs
  exact PShared_any a.1 b.1 w a.2 b.2
theorem rgt_kind {ns : List Nd} {e : Nat} {n : Int} {b : Dg} (h : 0 ≤ rgt ns e n b) : (n = 0 ∧ rgt ns e n b = 0) ∨ (n ≠ 0 ∧ (ndAt ns n).leaf = true ∧ rgt ns e n b = 1) ∨ (n ≠ 0 ∧ (ndAt ns n).leaf = false ∧ rgt ns e n b = 2) := by
  by_cases hz : n = 0
  · subst hz; exact .inl ⟨rfl, rgt_zero⟩
  · cases hl : (ndAt ns n).leaf with
    | true =>
      refine .inr (.inl ⟨hz, rfl, ?_⟩)
      rw [rgt_leaf hz hl] at h ⊢
      split at h
      · omega
      · rename_i q; rw [if_neg q]
    | false =>
      obtain ⟨_, _, _, _, _, h5⟩ := fork_parts hz hl h
      exact .inr (.inr ⟨hz, rfl, h5⟩)
/-- A fork is right where its two are, and no leaf stands alone behind it. -/
theorem right_single {ns : List Nd} {f : Nat} {l r : Int} {b b' : Dg} (hno : ¬ (l = 0 ∧ r = 0)) :
    decide (0 ≤ (if rgt ns f l b < 0 then (-1 : Int) else if rgt ns f r b' < 0 ∨ rgt ns f l b + rgt ns f r b' < 2 then -1 else 2)) = (decide (singleP ns l r = 0) && (decide (0 ≤ rgt ns f l b) && decide (0 ≤ rgt ns f r b'))) := by
  by_cases ha : rgt ns f l b < 0
  · rw [if_pos ha, decide_eq_false (show ¬ 0 ≤ rgt ns f l b by omega), Bool.false_and, Bool.and_false]; rfl
  · rw [if_neg ha, decide_eq_true (show 0 ≤ rgt ns f l b by omega), Bool.true_and]
    by_cases hb : rgt ns f r b' < 0
    · rw [if_pos (.inl hb), decide_eq_false (show ¬ 0 ≤ rgt ns f r b' by omega), Bool.and_false]; rfl
    · rw [decide_eq_true (show 0 ≤ rgt ns f r b' by omega), Bool.and_true]
      have h1 := rgt_kind (show 0 ≤ rgt ns f l b by omega)
      have h2 := rgt_kind (show 0 ≤ rgt ns f r b' by omega)
      unfold singleP leafB
      rcases h1 with ⟨a1, a2⟩ | ⟨a1, a2, a3⟩ | ⟨a1, a2, a3⟩ <;> rcases h2 with ⟨c1, c2⟩ | ⟨c1, c2, c3⟩ | ⟨c1, c2, c3⟩ <;> simp_all

end Go.Proofs.YtnoglodggchgpabDoor

/- (TreeLd)
  Contracts of the landed package tree: Check, twinNode.
-/
namespace Go.Proofs.YtnoglodggchgpabDoor
open Go.RowKit
set_option linter.unusedVariables false
set_option linter.unusedSimpArgs false
set_option maxRecDepth 100000

theorem nd_set (x : Nd) (A A2 : Option Addr) (c c2 : Nat) : (ndC x A c).toArray.setIfInBounds 33 (.slice A2 x.v.length c2) = (ndC x A2 c2).toArray := by
  apply Array.ext'
  have hl : (x.k.1.map bv).length = 32 := by rw [List.length_map]; exact x.k.2
  simp only [Array.toList_setIfInBounds, ndC, List.cons_append, List.nil_append, List.set_cons_succ]
  rw [List.set_append_right _ _ (by omega), hl]
  rfl

end Go.Proofs.YtnoglodggchgpabDoor
