/-
  Stores into a block of one's own, one cell or more: what the block is then. No program is named here.
-/
import Derived.Test.YtpfglincdlmfhaaDoorTrN
namespace Go.Proofs.YtpfglincdlmfhaaDoor
open Go.RowKit
set_option linter.unusedVariables false

section
variable {P : Program} {ops : Array Oper} {rest : List Oper} {o : Oper} {a : Act} {w : World} {Q : Exit → Act → World → Prop}
theorem run_storeVar_one (w : World) (g f : Nat) (ty : TypeId) (v : Value) (hv : v.cells = #[v]) (h1 : v.oneCell' = true) (ht : w.there g f 1) (hi : (P.info? ty).map (·.size) = some 1) :
    (storeVar ty ⟨g, f, none⟩ v).run P w = .ok () (w.setCells g f [v]) := by
  have := run_storeCells_cells (P := P) g f [v] 0 w (fun j hj => by simpa using (ht j (by simpa using hj)).1) (fun j hj => by simpa using (ht j (by simpa using hj)).2) (fun u hu => by simp at hu; subst hu; exact h1)
  cases hq : P.info? ty with
  | none => simp [hq] at hi
  | some i =>
    have hs : i.size = 1 := by simpa [hq] using hi
    simp only [Nat.add_zero] at this
    simp [storeVar, sizeOf, typeInfo, hq, hv, hs, this]
theorem wpList_store_oneB (hgd : o.guard = none) (ty : TypeId) (x y : Operand) (ho : o.op = .store ty x y)
    (g f : Nat) (v : Value) (cur : Array Value) (t : TypeId) (hx : a.eval x = .pointer (some ⟨g, f, none⟩)) (hy : a.eval y = v) (hv : v.cells = #[v]) (h1 : v.oneCell' = true) (hg : w.heap[g]? = some (.cells cur t (0, 0))) (hf : f < cur.size) (hi : (P.info? ty).map (·.size) = some 1)
    (h : ∀ w', w'.heap[g]? = some (.cells (cur.setIfInBounds f v) t (0, 0)) → Chg (fun b => b = g) w w' → wpList P ops Q rest (a.put o.dst undef) w') : wpList P ops Q (o :: rest) a w :=
  wpList_plain hgd fun _ hK => by
    unfold Oper.wp execOp
    simp only [ho, hx, hy, Instr.storeAt, Instr.sureAddr, Sem.run_bind, Sem.run_pure, Result.andThen_ok, run_storeVar_one w g f ty v hv h1 (there_of_block hg f 1 (by omega)) hi]
    exact hK _ _ (h _ (setCells_block [v] f w cur hg) (chg_cells g f [v] w))
theorem wpList_store_manyB (hgd : o.guard = none) (ty : TypeId) (x y : Operand) (ho : o.op = .store ty x y)
    (g f : Nat) (cs : List Value) (cur : Array Value) (t : TypeId) (hx : a.eval x = .pointer (some ⟨g, f, none⟩)) (hy : a.eval y = .agg cs.toArray) (hg : w.heap[g]? = some (.cells cur t (0, 0))) (hfit : f + cs.length ≤ cur.size)
    (hi : (P.info? ty).map (·.size) = some cs.length) (h1 : cs.toArray.all (·.oneCell') = true)
    (h : ∀ w', w'.heap[g]? = some (.cells (setA cur f cs) t (0, 0)) → Chg (fun b => b = g) w w' → wpList P ops Q rest (a.put o.dst undef) w') : wpList P ops Q (o :: rest) a w :=
  wpList_store_mid hgd ty x y ho g f cs.toArray hx hy (there_of_block hg f _ (by rw [List.size_toArray]; exact hfit)) (by rw [List.size_toArray]; exact hi) h1 (h _ (setCells_block cs f w cur hg) (chg_cells g f cs w))
end
end Go.Proofs.YtpfglincdlmfhaaDoor
