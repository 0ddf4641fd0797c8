/-
 Layer 10, plain: how a total turns, in two numbers.
-/
import Derived.Test.YtmjocmogfckmmaaDoorAcL
namespace Go.Proofs.YtmjocmogfckmmaaDoor
open Go.RowKit
set_option linter.unusedVariables false

theorem tot_fits {t : Tr} (hm : mayT t = true) (hc : t.ns.length ≤ 1000000) : totP (allT t) < 340282366920938463463374607431768211456 := by
 have h1 := tot_le (allT t)
 have h2 := all_len hm hc
 omega
end Go.Proofs.YtmjocmogfckmmaaDoor
