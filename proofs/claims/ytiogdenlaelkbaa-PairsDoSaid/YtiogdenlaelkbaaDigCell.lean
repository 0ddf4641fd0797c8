/-
  Cells of digests in blocks of their own; quotients and rests by 8 and by 2.
-/
import Derived.Test.YtiogdenlaelkbaaKeyP
import Derived.Test.YtiogdenlaelkbaaDig
import Derived.Test.YtiogdenlaelkbaaHeld
import Derived.IntWalk
namespace Go.Proofs.Ytiogdenlaelkbaa
open Go.RowKit
set_option linter.unusedVariables false
set_option linter.unusedSimpArgs false

theorem dcell (ds : Array Value) (t : TypeId) (w : World) (m : Nat) : (w.alloc (.cells ds t)).cell? ⟨w.heap.size, m, none⟩ = ds[m]? := cell_of_row _ _ _ _ _ (0, 0) (heap_alloc_new w _)
theorem dget (l : List UInt8) (m : Nat) (hm : m < l.length) : (l.map bv).toArray[m]? = some (.int .u8 ((l.getD m 0).toNat : Int)) := by
  simp [bv, List.getD, hm]

theorem tdiv8 (i : Nat) : (i : Int).tdiv 8 = ((i / 8 : Nat) : Int) := by rw [Int.tdiv_eq_ediv_of_nonneg (by omega)]; omega
theorem tmod8 (i : Nat) : (i : Int).tmod 8 = ((i % 8 : Nat) : Int) := by rw [Int.tmod_eq_emod_of_nonneg (by omega)]; omega
theorem tdiv2 (i : Nat) : (i : Int).tdiv 2 = ((i / 2 : Nat) : Int) := by rw [Int.tdiv_eq_ediv_of_nonneg (by omega)]; omega
theorem tmod2 (i : Nat) : (i : Int).tmod 2 = ((i % 2 : Nat) : Int) := by rw [Int.tmod_eq_emod_of_nonneg (by omega)]; omega

theorem res_dig {fn : Func} {p u : Tmp} (h : fn.results = #[.cell p 24, .tmp u]) (tmps : Array Value) (w : World) (g : Nat) (cs : Array Value) (e1 : tmps.getD p undef = .pointer (some ⟨g, 0, none⟩))
    (hg : w.heap[g]? = some (.cells cs 24 (0, 0))) (hs : cs.size = 32) : (results fn tmps).run Try.prog w = .ok (.tuple #[.agg cs, tmps.getD u undef]) w := by
  have h2 := run_loadVar_mid (P := Try.prog) w g 0 24 cs.toList _ (rangeOf hg) Try.underlying24 rfl (by rw [Array.length_toList, hs]; exact size32)
  rw [results_cell_tmp h, e1]
  simp only [asAddr, Sem.run_pure, Result.andThen_ok, h2]
end Go.Proofs.Ytiogdenlaelkbaa
