/-
 Layer 15: Give's contract by what a law wants of it.
-/
import Derived.Test.YtmjocmogfckmmaaDoorPuL
import Derived.Test.YtmjocmogfckmmaaDoorPuS
namespace Go.Proofs.YtmjocmogfckmmaaDoor
open Go.RowKit
set_option linter.unusedVariables false

theorem give_q (F : Nat → Prop) (A : Option Addr) (c : Nat) (ns : List Nd) (root : Int) (x : Dp) (w : World) (hx : x.ok) (hr : Row F w A ns) (hc : ns.length ≤ 90000) (gc z : Int) (P : Tr → Prop) (h1 : giveTC ⟨ns, root⟩ x = gc) (h2 : giveTE ⟨ns, root⟩ = z) (h3 : ∀ o, GiveOk ⟨ns, root⟩ x o → P o) :
  Calls Tryd.prog 10 #[.agg #[.slice A ns.length c, .int .i64 root], .agg (dpC x).toArray] w (StQ gc z P w) := by
 subst h1 h2
 refine (PPuGive_any F A c ns root x w hx hr hc).mono fun e w' h => ?_
 obtain ⟨o, A', c', k1, k2, k3, k4⟩ := h
 exact ⟨o, A', c', k1, k2, k3, h3 o k4⟩
end Go.Proofs.YtmjocmogfckmmaaDoor
