/-
  Layer 9's law ClashTells: a tree and two proofs in boxes.
-/
import Derived.Test.YtapnhdpgogfceaaGreatDoorClF
namespace Go.Proofs.YtapnhdpgogfceaaGreatDoor
open Go.RowKit
set_option linter.unusedVariables false

theorem boxes9 (w : World) (A : Option Addr) (n c : Nat) (root : Int) (x : Pf) (A1 : Option Addr) (c1 : Nat) (D1 : Option Addr) (d1 : Nat) (y : Pf) (A2 : Option Addr) (c2 : Nat) (D2 : Option Addr) (d2 : Nat) :
    (((w.alloc (.cells #[.slice A n c, .int .i64 root] 24)).alloc (.cells (pfC x A1 c1 D1 d1).toArray 30)).alloc (.cells (pfC y A2 c2 D2 d2).toArray 30)).rangeAt w.heap.size 0 [.slice A n c, .int .i64 root] ∧
    (((w.alloc (.cells #[.slice A n c, .int .i64 root] 24)).alloc (.cells (pfC x A1 c1 D1 d1).toArray 30)).alloc (.cells (pfC y A2 c2 D2 d2).toArray 30)).rangeAt (w.heap.size + 1) 0 (pfC x A1 c1 D1 d1) ∧
    (((w.alloc (.cells #[.slice A n c, .int .i64 root] 24)).alloc (.cells (pfC x A1 c1 D1 d1).toArray 30)).alloc (.cells (pfC y A2 c2 D2 d2).toArray 30)).rangeAt (w.heap.size + 1 + 1) 0 (pfC y A2 c2 D2 d2) ∧
    Below w.heap.size w (((w.alloc (.cells #[.slice A n c, .int .i64 root] 24)).alloc (.cells (pfC x A1 c1 D1 d1).toArray 30)).alloc (.cells (pfC y A2 c2 D2 d2).toArray 30)) := by
  obtain ⟨h1, h2, h3⟩ := boxesTP w A n c root x A1 c1 D1 d1 24 30
  have h4 := BoxP.new ((w.alloc (.cells #[.slice A n c, .int .i64 root] 24)).alloc (.cells (pfC x A1 c1 D1 d1).toArray 30)) y A2 c2 D2 d2 30
  simp only [World.size_alloc] at h4
  exact ⟨(h1.bel (ext_alloc _ _)).all, (h2.bel (ext_alloc _ _)).all, h4.all, h3.trans ((ext_alloc _ _).mono h3.size)⟩
end Go.Proofs.YtapnhdpgogfceaaGreatDoor
