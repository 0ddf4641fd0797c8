/-
  What Seek and Of answer (pure); a text that may be read. No program is named here.
-/
import Derived.Test.YtapnhdpgogfceaaGreatDoorClP
namespace Go.Proofs.YtapnhdpgogfceaaGreatDoor
open Go.RowKit
set_option linter.unusedVariables false

/-- A text that may be read, with its capacity. -/
def Txt (w : World) (A : Option Addr) (c : Nat) (l : List UInt8) : Prop := Rd w A l ∧ l.length ≤ c ∧ c ≤ maxLen
theorem Txt.bel {w w' : World} {A : Option Addr} {c : Nat} {l : List UInt8} (h : Txt w A c l) (hb : Below w.heap.size w w') : Txt w' A c l := ⟨h.1.bel hb, h.2⟩
def seekP (x y : Pf) : List UInt8 × List UInt8 := if (mayF x && (mayF y && unlikeF x y)) = true then firstI (inP x) (inP y) else ([], [])
def seekE (x y : Pf) : Int := if (mayF x && mayF y) = true then if unlikeF x y = true then 0 else 2 else 8
/-- A tree's root, by definition. -/
def rootT (t : Tr) : Dg := ⟨sumP t.ns 256 t.root, sumP_length⟩
def ofP (t : Tr) (p : Pf) : List UInt8 × List UInt8 := if (mayT t && (mayF p && (decide (rootV p = rootT t) && unlikeF (makeF t p.k) p))) = true then firstI (inP (makeF t p.k)) (inP p) else ([], [])
def ofE (t : Tr) (p : Pf) : Int := if (mayT t && mayF p) = true then if (decide (rootV p = rootT t) && unlikeF (makeF t p.k) p) = true then 0 else 6 else 8
end Go.Proofs.YtapnhdpgogfceaaGreatDoor
