/-
  The document's answers of layer 14: digest, Read.
-/
import Derived.Test.YtpfglincdlmfhaaDoorHd
import Derived.Test.YtpfglincdlmfhaaDoorRef10a
import Derived.Test.YtpfglincdlmfhaaDoorCutsB
import Derived.Test.YtpfglincdlmfhaaDoorDgF
namespace Go.Proofs.YtpfglincdlmfhaaDoor
open Go.RowKit
set_option linter.unusedVariables false
set_option linter.unusedSimpArgs false
set_option maxRecDepth 100000

theorem res_hd {fn : Func} {p u : Tmp} (h : fn.results = #[.cell p 25, .tmp u]) (tmps : Array Value) (w : World) (g : Nat) (x : Hd) (e1 : tmps.getD p undef = .pointer (some ⟨g, 0, none⟩))
    (hg : w.heap[g]? = some (.cells (hdC x).toArray 25 (0, 0))) : (results fn tmps).run Tryd.prog w = .ok (.tuple #[.agg (hdC x).toArray, tmps.getD u undef]) w := by
  have h2 := run_loadVar_mid (P := Tryd.prog) w g 0 25 (hdC x) _ (rangeOf hg) Tryd.underlying25 rfl (sizeHd x)
  rw [results_cell_tmp h, e1]
  simp only [asAddr, Sem.run_pure, Result.andThen_ok, h2]
end Go.Proofs.YtpfglincdlmfhaaDoor
