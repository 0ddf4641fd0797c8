/-
  Words for layer 10's laws: arguments in boxes; what a state with an account answers.
-/
import Derived.Test.YtcifncmfjlbhjaaDoorAcG
import Derived.Test.YtcifncmfjlbhjaaDoorAcD
namespace Go.Proofs.YtcifncmfjlbhjaaDoor
open Go.RowKit
set_option linter.unusedVariables false
set_option maxRecDepth 100000

theorem boxesTDA (w : World) (A : Option Addr) (n c : Nat) (root : Int) (k : Dg) (a : Ac) (t u v : TypeId) :
    BoxT (((w.alloc (.cells #[.slice A n c, .int .i64 root] t)).alloc (.cells (k.1.map bv).toArray u)).alloc (.cells (acC a).toArray v)) w.heap.size A n c root ∧
    (((w.alloc (.cells #[.slice A n c, .int .i64 root] t)).alloc (.cells (k.1.map bv).toArray u)).alloc (.cells (acC a).toArray v)).rangeAt (w.heap.size + 1) 0 (k.1.map bv) ∧
    (((w.alloc (.cells #[.slice A n c, .int .i64 root] t)).alloc (.cells (k.1.map bv).toArray u)).alloc (.cells (acC a).toArray v)).rangeAt (w.heap.size + 1 + 1) 0 (acC a) ∧
    Below w.heap.size w (((w.alloc (.cells #[.slice A n c, .int .i64 root] t)).alloc (.cells (k.1.map bv).toArray u)).alloc (.cells (acC a).toArray v)) := by
  obtain ⟨h1, h2, h3⟩ := boxesTDp w A n c root k t u
  have h4 := rangeOf (heap_alloc_new ((w.alloc (.cells #[.slice A n c, .int .i64 root] t)).alloc (.cells (k.1.map bv).toArray u)) (.cells (acC a).toArray v))
  simp only [World.size_alloc] at h4
  exact ⟨h1.bel (ext_alloc _ _), rangeBel2 (ext_alloc _ _) h2, h4, ext_trans h3 (ext_alloc _ _)⟩
theorem boxesTDAD (w : World) (A : Option Addr) (n c : Nat) (root : Int) (k : Dg) (a : Ac) (o : Dg) (t u v x : TypeId) :
    BoxT ((((w.alloc (.cells #[.slice A n c, .int .i64 root] t)).alloc (.cells (k.1.map bv).toArray u)).alloc (.cells (acC a).toArray v)).alloc (.cells (o.1.map bv).toArray x)) w.heap.size A n c root ∧
    ((((w.alloc (.cells #[.slice A n c, .int .i64 root] t)).alloc (.cells (k.1.map bv).toArray u)).alloc (.cells (acC a).toArray v)).alloc (.cells (o.1.map bv).toArray x)).rangeAt (w.heap.size + 1) 0 (k.1.map bv) ∧
    ((((w.alloc (.cells #[.slice A n c, .int .i64 root] t)).alloc (.cells (k.1.map bv).toArray u)).alloc (.cells (acC a).toArray v)).alloc (.cells (o.1.map bv).toArray x)).rangeAt (w.heap.size + 1 + 1) 0 (acC a) ∧
    ((((w.alloc (.cells #[.slice A n c, .int .i64 root] t)).alloc (.cells (k.1.map bv).toArray u)).alloc (.cells (acC a).toArray v)).alloc (.cells (o.1.map bv).toArray x)).rangeAt (w.heap.size + 1 + 1 + 1) 0 (o.1.map bv) ∧
    Below w.heap.size w ((((w.alloc (.cells #[.slice A n c, .int .i64 root] t)).alloc (.cells (k.1.map bv).toArray u)).alloc (.cells (acC a).toArray v)).alloc (.cells (o.1.map bv).toArray x)) := by
  obtain ⟨h1, h2, h3, h4⟩ := boxesTDA w A n c root k a t u v
  have h5 := rangeOf (heap_alloc_new (((w.alloc (.cells #[.slice A n c, .int .i64 root] t)).alloc (.cells (k.1.map bv).toArray u)).alloc (.cells (acC a).toArray v)) (.cells (o.1.map bv).toArray x))
  simp only [World.size_alloc] at h5
  exact ⟨h1.bel (ext_alloc _ _), rangeBel2 (ext_alloc _ _) h2, rangeBel2 (ext_alloc _ _) h3, h5, ext_trans h4 (ext_alloc _ _)⟩
theorem setL_yes {t : Tr} {k : Dg} {a : Ac} (ha : a.ok) (hm : mayA t = true) (hl : t.ns.length ≤ 100000) : setL t k a = allT (setT t k a) := by
  unfold setL
  rw [if_pos hm, (setT_spec ha hm hl).2.2.1]
/-- What a state with an account answers. -/
theorem back {t : Tr} {k o : Dg} {a : Ac} (ha : a.ok) (hm : mayA t = true) (hl : t.ns.length ≤ 100000) :
    getA (setT t k a) k = a ∧ (o ≠ k → getA (setT t k a) o = getA t o) ∧ getTB (setT t k a) k = decide (a ≠ ac0) := by
  obtain ⟨h1, h2, h3, -⟩ := setT_spec (k := k) ha hm hl
  have hs := (all_spec (mayA_T hm).1).1
  refine ⟨?_, fun hne => ?_, ?_⟩
  · unfold getA
    rw [if_pos h1, h3]
    exact in_set_self hs k ha
  · unfold getA
    rw [if_pos h1, if_pos hm, h3]
    exact in_set_other hs a (fun e => hne e.symm)
  · unfold getTB
    rw [h2, Bool.true_and, h3]
    exact has_set k a
/-- The total turns by what the account's balance does. -/
theorem total_turns {t : Tr} {k : Dg} {a : Ac} (ha : a.ok) (hm : mayA t = true) (hl : t.ns.length ≤ 100000) : totP (allT (setT t k a)) + (getA t k).b = totP (allT t) + a.b := by
  obtain ⟨h1, h2, h3, -⟩ := setT_spec (k := k) ha hm hl
  have hs := (all_spec (mayA_T hm).1).1
  rw [h3]
  have := tot_set hs k ha
  unfold getA
  rw [if_pos hm]
  exact this
end Go.Proofs.YtcifncmfjlbhjaaDoor
