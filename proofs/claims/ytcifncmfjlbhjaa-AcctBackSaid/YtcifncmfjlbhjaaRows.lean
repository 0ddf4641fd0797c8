/-
  No cell of these rows narrows 'for every input' (looked for: loops, veiled, ifaces, maps, wideKeys, modest, calm, conditions, laid).
  DERIVED. THE GIVEN ROWS OF THIS SEAT. 3 by the template 'for every input the law returns true; each argument reads behind the call as it read before'; 0 by the template 'total and deterministic' (their statements: YtcifncmfjlbhjaaTotals.lean).
  GIVEN WITH THE SEED: the statements are not yours to turn. If you find one false, say at which input.
  Laid BY PROGRAM, IN A SANDBOX (cutbox-rows.mjs): the forced cells as the released guide's own fill.sh prints them over the translation c77f310f0001708b… (all of the seat's roots in one cut). By AI agents, Wed Nov 11 2026. No macro, syntax, notation, axiom, sorry.
-/
import Derived.Test.YtcifncmfjlbhjaaChecked
import GoSem.Claim
import GoSem.ClaimJoined
import GoSem.ClaimMapViews
import Derived.JoinedTies
import Derived.KernelRfl
namespace Go.Proofs.Ytcifncmfjlbhjaa
/- THE CELL 'sum', in the pinned program and in every row, IS THE sha256 OF THE DUMP (.gsa) THAT YtcifncmfjlbhjaaProg.lean LOADS. Nothing in Lean hashes anything: it is a label: what it is worth is what the hold of that sum in a sandbox is worth. -/
noncomputable def Try.pinned : Pinned := { name := "ytcifncmfjlbhjaa", sum := "c77f310f0001708bd9a18a5b4a18f16912ecf2310d8058a3ded871b55771e3bf", checked := Try.checked }
namespace Rows
def none {H : Type} : Left H := { results := [], args := [] }

/-- 'beadrolllaw10.AcctDoes': WHATEVER THE INPUT: true; the input reads as it did. -/
def acctDoesSpec : ChangeSpec := { name := "acctDoes", fn := fun _ => fun
  | [d1, d2, d3] => { results := [.lit (.bool true)], args := [d1, d2, d3] }
  | _ => none }
def acctDoesRow : OpenClaim := { program := "ytcifncmfjlbhjaa", sum := "c77f310f0001708bd9a18a5b4a18f16912ecf2310d8058a3ded871b55771e3bf", func := "beadroll/beadrolllaw10.AcctDoes", spec := "acctDoes", inPlace := ["math/bits.Add64"], unfollowed := true, recurses := true, apart := false }
def AcctDoesSaid : Prop := acctDoesRow.holds Try.pinned (OpenSpec.ofChange acctDoesSpec)

/-- ITS FALSE NEIGHBOUR: 'it returns false'. Refute it at one input. -/
def acctDoesWrong : ChangeSpec := { name := "acctDoes", fn := fun _ => fun
  | [d1, d2, d3] => { results := [.lit (.bool false)], args := [d1, d2, d3] }
  | _ => none }
def AcctDoesWrongFalsely : Prop := acctDoesRow.holds Try.pinned (OpenSpec.ofChange acctDoesWrong)

/-- 'beadrolllaw10.AcctBack': WHATEVER THE INPUT: true; the input reads as it did. -/
def acctBackSpec : ChangeSpec := { name := "acctBack", fn := fun _ => fun
  | [d1, d2, d3, d4] => { results := [.lit (.bool true)], args := [d1, d2, d3, d4] }
  | _ => none }
def acctBackRow : OpenClaim := { program := "ytcifncmfjlbhjaa", sum := "c77f310f0001708bd9a18a5b4a18f16912ecf2310d8058a3ded871b55771e3bf", func := "beadroll/beadrolllaw10.AcctBack", spec := "acctBack", unfollowed := true, recurses := true, apart := false }
def AcctBackSaid : Prop := acctBackRow.holds Try.pinned (OpenSpec.ofChange acctBackSpec)

/-- ITS FALSE NEIGHBOUR: 'it returns false'. Refute it at one input. -/
def acctBackWrong : ChangeSpec := { name := "acctBack", fn := fun _ => fun
  | [d1, d2, d3, d4] => { results := [.lit (.bool false)], args := [d1, d2, d3, d4] }
  | _ => none }
def AcctBackWrongFalsely : Prop := acctBackRow.holds Try.pinned (OpenSpec.ofChange acctBackWrong)

/-- 'beadrolllaw10.AcctTotal': WHATEVER THE INPUT: true; the input reads as it did. -/
def acctTotalSpec : ChangeSpec := { name := "acctTotal", fn := fun _ => fun
  | [d1, d2, d3] => { results := [.lit (.bool true)], args := [d1, d2, d3] }
  | _ => none }
def acctTotalRow : OpenClaim := { program := "ytcifncmfjlbhjaa", sum := "c77f310f0001708bd9a18a5b4a18f16912ecf2310d8058a3ded871b55771e3bf", func := "beadroll/beadrolllaw10.AcctTotal", spec := "acctTotal", inPlace := ["math/bits.Add64"], unfollowed := true, recurses := true, apart := false }
def AcctTotalSaid : Prop := acctTotalRow.holds Try.pinned (OpenSpec.ofChange acctTotalSpec)

/-- ITS FALSE NEIGHBOUR: 'it returns false'. Refute it at one input. -/
def acctTotalWrong : ChangeSpec := { name := "acctTotal", fn := fun _ => fun
  | [d1, d2, d3] => { results := [.lit (.bool false)], args := [d1, d2, d3] }
  | _ => none }
def AcctTotalWrongFalsely : Prop := acctTotalRow.holds Try.pinned (OpenSpec.ofChange acctTotalWrong)

/- THE SECOND FORM. 'bulk': how many values and letters a reading holds, each counted each time it is reached (what is shared counts as often as it is met; a slice's spare places count too). A statement '..UptoSaid' is the law's where the arguments, and the package variables that the reading takes, are together of bulk at most 1048576: NARROWER than '..Said'. Prove '..Said' where nothing that the law and all that it calls make is longer than what came in: it says more and counts as full. Else prove '..UptoSaid'. A law counts once. -/
mutual
def uptoBulk {H : Type} : DataW H → Nat
  | .lit (.string bytes) => bytes.length + 1
  | .lit _ => 1
  | .nil => 1
  | .ptr d => uptoBulk d + 1
  | .slice elems spare => uptoBulkAll elems + uptoBulkAll spare + 1
  | .agg parts => uptoBulkAll parts + 1
  | .iface _ d => uptoBulk d + 1
  | .map entries => uptoBulkEntries entries + 1
  | .held _ => 1
def uptoBulkAll {H : Type} : List (DataW H) → Nat
  | [] => 0
  | d :: r => uptoBulk d + uptoBulkAll r
def uptoBulkEntries {H : Type} : List (Lit × DataW H) → Nat
  | [] => 0
  | x :: r => uptoBulkEntry x + uptoBulkEntries r
def uptoBulkEntry {H : Type} : Lit × DataW H → Nat
  | (.string bytes, d) => bytes.length + uptoBulk d + 1
  | (_, d) => uptoBulk d + 1
 end
def uptoSmall : (H : Type) → List (DataW H) → Bool := fun _ ds => decide (uptoBulkAll ds ≤ 1048576)
def OpenSpec.upto (s : _root_.Go.ChangeSpec) : _root_.Go.OpenSpec := { _root_.Go.OpenSpec.ofChange s with cond := some uptoSmall }

/-- 'beadrolllaw10.AcctDoes', WHERE WHAT IT READS IS OF BULK AT MOST 1048576: true; the input reads as it did. -/
def acctDoesUptoRow : OpenClaim := { program := "ytcifncmfjlbhjaa", sum := "c77f310f0001708bd9a18a5b4a18f16912ecf2310d8058a3ded871b55771e3bf", func := "beadroll/beadrolllaw10.AcctDoes", spec := "acctDoes", inPlace := ["math/bits.Add64"], unfollowed := true, recurses := true, apart := false, narrowed := true }
def AcctDoesUptoSaid : Prop := acctDoesUptoRow.holds Try.pinned (OpenSpec.upto acctDoesSpec)

/-- 'beadrolllaw10.AcctBack', WHERE WHAT IT READS IS OF BULK AT MOST 1048576: true; the input reads as it did. -/
def acctBackUptoRow : OpenClaim := { program := "ytcifncmfjlbhjaa", sum := "c77f310f0001708bd9a18a5b4a18f16912ecf2310d8058a3ded871b55771e3bf", func := "beadroll/beadrolllaw10.AcctBack", spec := "acctBack", unfollowed := true, recurses := true, apart := false, narrowed := true }
def AcctBackUptoSaid : Prop := acctBackUptoRow.holds Try.pinned (OpenSpec.upto acctBackSpec)

/-- 'beadrolllaw10.AcctTotal', WHERE WHAT IT READS IS OF BULK AT MOST 1048576: true; the input reads as it did. -/
def acctTotalUptoRow : OpenClaim := { program := "ytcifncmfjlbhjaa", sum := "c77f310f0001708bd9a18a5b4a18f16912ecf2310d8058a3ded871b55771e3bf", func := "beadroll/beadrolllaw10.AcctTotal", spec := "acctTotal", inPlace := ["math/bits.Add64"], unfollowed := true, recurses := true, apart := false, narrowed := true }
def AcctTotalUptoSaid : Prop := acctTotalUptoRow.holds Try.pinned (OpenSpec.upto acctTotalSpec)

end Rows
end Go.Proofs.Ytcifncmfjlbhjaa
