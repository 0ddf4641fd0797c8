/-
  Texts laid together: Ref02, Ref02b, Ref02c, Ref02e.
-/
import Derived.Test.YtpfglincdlmfhaaBits
import Derived.Test.YtpfglincdlmfhaaPlain
import Derived.RegionTactic
import Derived.BigRegion
import Derived.Deep.RegionHeld3
import Derived.StillTailTactics
set_option maxRecDepth 100000
/- (Ref02)
  Contracts of the document's own answers for layer 2.
-/
namespace Go.Proofs.Ytpfglincdlmfhaa
open Go.RowKit
set_option linter.unusedVariables false
set_option maxRecDepth 100000




def z64 : Array Value := wvs (List.replicate 64 0)
theorem z64_size : z64.size = 64 := by decide +kernel

end Go.Proofs.Ytpfglincdlmfhaa

/- (Ref02b)
  The document's schedule of a block's words.
-/
namespace Go.Proofs.Ytpfglincdlmfhaa
open Go.RowKit
set_option linter.unusedVariables false
set_option maxRecDepth 100000


theorem take_drop_succ (l : List UInt8) (t i : Nat) (h : 4 * t + i < l.length) : (l.drop (4 * t)).take (i + 1) = (l.drop (4 * t)).take i ++ [l[4 * t + i]] := by
  rw [List.take_succ_eq_append_getElem (by simp; omega)]
  simp

end Go.Proofs.Ytpfglincdlmfhaa

/- (Ref02c)
  The document's padding.
-/
namespace Go.Proofs.Ytpfglincdlmfhaa
open Go.RowKit
set_option linter.unusedVariables false
set_option maxRecDepth 100000

def z8 : Array Value := ((List.replicate 8 (0 : UInt8)).map bv).toArray

end Go.Proofs.Ytpfglincdlmfhaa

/- (Ref02e)
  The document's 'Sum': the digest of bytes.
-/
namespace Go.Proofs.Ytpfglincdlmfhaa
open Go.RowKit
set_option linter.unusedVariables false
set_option maxRecDepth 100000

def z8w : Array Value := wvs (List.replicate 8 0)


end Go.Proofs.Ytpfglincdlmfhaa
