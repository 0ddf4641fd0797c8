/-
  Contracts of the landed package tree: each, the iterator over a trie's pairs.
-/
import Derived.Test.YtfjkcdccnbggnaaDoorTrA
import Derived.Test.YtfjkcdccnbggnaaDoorTreeW
import Derived.Test.YtfjkcdccnbggnaaDoorRoad
namespace Go.Proofs.YtfjkcdccnbggnaaDoor
open Go.RowKit Go.Shelf
set_option linter.unusedVariables false
set_option linter.unusedSimpArgs false
set_option maxRecDepth 100000
attribute [local go_sem] Oper.semAt_some


/-- What is yielded: a pair, and where its value lies. -/
structure EItem where
  p : Pr
  A : Option Addr
  c : Nat
def EItem.encs (x : EItem) : Array Value := #[.agg (x.p.k.1.map bv).toArray, .slice x.A x.p.v.length x.c]
/-- What a round keeps: all that lay ahead of the range, and the boxes of tries and of roads. -/
def KeepT (n₀ : Nat) (W W' : World) : Prop := Below n₀ W W' ∧ ∀ (b : Nat) (cs : Array Value) (t : TypeId) (fr : Nat × Nat), W.heap[b]? = some (.cells cs t fr) → t = 86 ∨ t = 131 → W'.heap[b]? = W.heap[b]?
theorem KeepT.refl (n₀ : Nat) (W : World) : KeepT n₀ W W := ⟨Below.refl _ _, fun _ _ _ _ _ _ => rfl⟩
theorem KeepT.trans {n₀ : Nat} {A B C : World} (h : KeepT n₀ A B) (k : KeepT n₀ B C) : KeepT n₀ A C :=
  ⟨h.1.trans k.1, fun b cs t fr hb ht => (k.2 b cs t fr ((h.2 b cs t fr hb ht).trans hb) ht).trans (h.2 b cs t fr hb ht)⟩
theorem KeepT.bel {n₀ : Nat} {W W' : World} (hb : Below W.heap.size W W') (hn : n₀ ≤ W.heap.size) : KeepT n₀ W W' :=
  ⟨hb.mono hn, fun b cs t fr h _ => hb.block b (Array.getElem?_eq_some_iff.1 h).1⟩

end Go.Proofs.YtfjkcdccnbggnaaDoor
