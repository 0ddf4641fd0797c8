/-
  Trees: results of a tree and an error; how long values are. 
-/
import Derived.Test.YtfjkcdccnbggnaaDoorTreeLo
namespace Go.Proofs.YtfjkcdccnbggnaaDoor
open Go.RowKit
set_option linter.unusedVariables false
set_option linter.unusedSimpArgs false
set_option maxRecDepth 100000

theorem res_tr2 {fn : Func} {p u : Tmp} (h : fn.results = #[.cell p 44, .tmp u]) (tmps : Array Value) (w : World) (g : Nat) (A : Option Addr) (n c : Nat) (root : Int) (e1 : tmps.getD p undef = .pointer (some ⟨g, 0, none⟩))
    (hg : w.heap[g]? = some (.cells #[.slice A n c, .int .i64 root] 44 (0, 0))) : (results fn tmps).run Tryd.prog w = .ok (.tuple #[.agg #[.slice A n c, .int .i64 root], tmps.getD u undef]) w := by
  have h2 := run_loadVar_mid (P := Tryd.prog) w g 0 44 [.slice A n c, .int .i64 root] _ (rangeOf (l := [Value.slice A n c, .int .i64 root]) hg) Tryd.underlying44 rfl sizeTr
  have e2 : tmps[p]?.getD undef = .pointer (some ⟨g, 0, none⟩) := by simpa using e1
  simp only [results, h]
  simp [Sem.run_bind, Result.andThen, e2, asAddr, Sem.run_pure, h2]
theorem may_vals {t : Tr} (h : mayT t = true) : ∀ x ∈ t.ns, x.v.length ≤ 64 := fun x hx => by
  obtain ⟨i, hi, rfl⟩ := List.getElem_of_mem hx
  have ho := (mayT_iff.1 h).2.2.2.1 i hi
  cases hl : t.ns[i].leaf with
  | true =>
    have := (one_leaf ho hl).1
    unfold valB at this
    simp at this
    omega
  | false =>
    rw [(one_fork ho hl).2.2.2.2.2.2]
    simp
theorem built_tr0 : Tryd.prog.built 44 [] = some zTrC := by kernel_rfl
theorem one_zTr : zTrC.all (·.oneCell') = true := by decide +kernel
end Go.Proofs.YtfjkcdccnbggnaaDoor
