/-
 Layer 15: Pay's contract by what a law wants of it.
-/
import Derived.Test.YtmjocmogfckmmaaDoorPuS
import Derived.Test.YtmjocmogfckmmaaDoorPuM
namespace Go.Proofs.YtmjocmogfckmmaaDoor
open Go.RowKit
set_option linter.unusedVariables false

theorem pay_q (F : Nat → Prop) (A : Option Addr) (c : Nat) (ns : List Nd) (root : Int) (x : Tx) (box : Dg) (w : World) (hx : x.ok) (hr : Row F w A ns) (hc : ns.length ≤ 90000) (hT : Tab w) (gc z : Int) (P : Tr → Prop) (h1 : payTC ⟨ns, root⟩ x box = gc) (h2 : payTE ⟨ns, root⟩ x = z) (h3 : ∀ o, PayOk ⟨ns, root⟩ x box o → P o) :
  Calls Tryd.prog 7 #[.agg #[.slice A ns.length c, .int .i64 root], .agg (txC x).toArray, .agg (box.1.map bv).toArray] w (StQ gc z P w) := by
 subst h1 h2
 refine (PPuPay_any F A c ns root x box w hx hr hc hT).mono fun e w' h => ?_
 obtain ⟨o, A', c', k1, k2, k3, k4⟩ := h
 exact ⟨o, A', c', k1, k2, k3, h3 o k4⟩
end Go.Proofs.YtmjocmogfckmmaaDoor
