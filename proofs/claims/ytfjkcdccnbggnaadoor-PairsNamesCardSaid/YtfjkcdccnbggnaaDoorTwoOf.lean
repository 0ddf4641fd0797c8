/-
  A statement that digests two keys, each with a text of one byte, in whatever order its parts come up: one condition over all orders.
-/
import Derived.Test.YtfjkcdccnbggnaaDoorPrR
import Derived.Test.YtfjkcdccnbggnaaDoorConvC
import Derived.Test.YtfjkcdccnbggnaaDoorTagX
import Derived.Test.YtfjkcdccnbggnaaDoorMem
namespace Go.Proofs.YtfjkcdccnbggnaaDoor
open Go.RowKit
set_option linter.unusedVariables false
set_option linter.unusedSimpArgs false
set_option maxRecDepth 100000

/-! ### what has come up stands in its slot, whatever the order -/
def putIf (l : Nat → Bool) (v : Nat → Value) : List (Nat × Option Nat) → Act → Act
  | [], a => a
  | d :: ds, a => if l d.1 = true then (putIf l v ds a).put d.2 (v d.1) else putIf l v ds a
def ApartD (ds : List (Nat × Option Nat)) : Prop := ds.Pairwise fun d e => d.1 ≠ e.1 ∧ ∀ s, d.2 = some s → e.2 ≠ some s
section
variable {l l' : Nat → Bool} {v v' : Nat → Value} {a : Act}
theorem putIf_congr : ∀ (ds : List (Nat × Option Nat)), (∀ d ∈ ds, l' d.1 = l d.1 ∧ v' d.1 = v d.1) → putIf l' v' ds a = putIf l v ds a
  | [], _ => rfl
  | d :: ds, h => by
    obtain ⟨h1, h2⟩ := h d (by simp)
    simp only [putIf, h1, h2, putIf_congr ds fun e he => h e (by simp [he])]
theorem putIf_put {i : Nat} {di : Option Nat} {x : Value} (h0 : l i = false) (h1 : l' i = true) (hx : v' i = x) (hl : ∀ k, k ≠ i → l' k = l k) (hv : ∀ k, k ≠ i → v' k = v k) : ∀ (ds : List (Nat × Option Nat)), ApartD ds → (i, di) ∈ ds → (putIf l v ds a).put di x = putIf l' v' ds a
  | [], _, hm => by simp at hm
  | d :: ds, hd, hm => by
    obtain ⟨hd1, hd2⟩ := List.pairwise_cons.1 hd
    rcases List.mem_cons.1 hm with rfl | hm
    · simp only [putIf, h0, h1, hx, if_true, Bool.false_eq_true, if_false]
      rw [putIf_congr (l := l) (l' := l') (v := v) (v' := v') ds fun e he => ⟨hl _ fun q => (hd1 e he).1 q.symm, hv _ fun q => (hd1 e he).1 q.symm⟩]
    · have hne := (hd1 _ hm).1
      have ih := putIf_put h0 h1 hx hl hv ds hd2 hm
      simp only [putIf, hl _ hne, hv _ hne]
      split
      · rw [Act.put_comm _ _ _ (hd1 _ hm).2, ih]
      · exact ih
theorem put_size (d : Option Nat) (x : Value) : (a.put d x).tmps.size = a.tmps.size := by cases d <;> simp [Act.put]
theorem putIf_size : ∀ ds : List (Nat × Option Nat), (putIf l v ds a).tmps.size = a.tmps.size
  | [] => rfl
  | d :: ds => by
    simp only [putIf]
    split
    · rw [put_size, putIf_size ds]
    · exact putIf_size ds
theorem eval_put_ne {d : Option Nat} {x : Value} {s : Nat} (h : d ≠ some s) : (a.put d x).eval (.tmp s) = a.eval (.tmp s) := by
  cases d with
  | none => rfl
  | some e =>
    have : e ≠ s := fun q => h (by rw [q])
    simp [Act.put, Act.eval, Array.getD_eq_getD_getElem?, Array.getElem?_setIfInBounds, this]
theorem eval_put_self {x : Value} {s : Nat} (h : s < a.tmps.size) : (a.put (some s) x).eval (.tmp s) = x := by
  simp [Act.put, Act.eval, Array.getD_eq_getD_getElem?, Array.getElem?_setIfInBounds, h]
theorem putIf_other {s : Nat} : ∀ ds : List (Nat × Option Nat), (∀ d ∈ ds, d.2 ≠ some s) → (putIf l v ds a).eval (.tmp s) = a.eval (.tmp s)
  | [], _ => rfl
  | d :: ds, h => by
    simp only [putIf]
    split
    · rw [eval_put_ne (h d (by simp)), putIf_other ds fun e he => h e (by simp [he])]
    · exact putIf_other ds fun e he => h e (by simp [he])
theorem putIf_eval {k s : Nat} (hk : l k = true) (hs : s < a.tmps.size) : ∀ ds : List (Nat × Option Nat), ApartD ds → (k, some s) ∈ ds → (putIf l v ds a).eval (.tmp s) = v k
  | [], _, hm => by simp at hm
  | d :: ds, hd, hm => by
    obtain ⟨hd1, hd2⟩ := List.pairwise_cons.1 hd
    rcases List.mem_cons.1 hm with rfl | hm
    · simp only [putIf, hk, if_true]
      exact eval_put_self (by rw [putIf_size]; exact hs)
    · have hne : d.2 ≠ some s := fun q => (hd1 _ hm).2 s q rfl
      simp only [putIf]
      split
      · rw [eval_put_ne hne, putIf_eval hk hs ds hd2 hm]
      · exact putIf_eval hk hs ds hd2 hm
end
def upd (v : Nat → Value) (i : Nat) (x : Value) : Nat → Value := fun k => if k = i then x else v k
theorem upd_self (v : Nat → Value) (i : Nat) (x : Value) : upd v i x i = x := by simp [upd]
theorem upd_ne {v : Nat → Value} {i k : Nat} {x : Value} (h : k ≠ i) : upd v i x k = v k := by simp [upd, h]

/-! ### worlds in which all cells that were there are as they were -/
theorem rds_keep {w w' : World} {A : Option Addr} {ls : List (List UInt8)} (h : Rds w A ls) (hk : ∀ p : Addr, p.block < w.heap.size → w'.cell? p = w.cell? p) : Rds w' A ls := fun hn => by
  obtain ⟨b, o, rfl, hc⟩ := h hn
  refine ⟨b, o, rfl, fun j l hl => ?_⟩
  obtain ⟨A', c', h1, h2, h3⟩ := hc j l hl
  exact ⟨A', c', (hk _ (World.block_lt_of_cell? _ _ h1)).trans h1, h2.keep hk, h3⟩
theorem keep_frz {w w' : World} {g : Nat} {C : Array Value} {e : TypeId} {fr fr' : Nat × Nat} (h : w.heap[g]? = some (.cells C e fr)) (h' : w'.heap[g]? = some (.cells C e fr')) (hc : Chg (fun b => b = g) w w') (p : Addr) (hp : p.block < w.heap.size) : w'.cell? p = w.cell? p := by
  by_cases hb : p.block = g
  · simp only [World.cell?, hb, h, h']
  · exact World.cell?_of_block (hc.block p.block hp hb)

/-! ### the operations -/
theorem slotBsT : Slot Tryd.prog (List UInt8) 79 24 (.slice none 0 0) 24 where
  under := Tryd.underlying79
  info := by kernel_rfl
  zero := rfl
  pos := by decide
theorem slotU8T : Slot Tryd.prog UInt8 24 5 (.int .u8 0) 1 where
  under := Tryd.underlying24
  info := by kernel_rfl
  zero := rfl
  pos := by decide
theorem step_twoW {w : World} {ops : Array Oper} {o : Oper} {a : Act} {K : Act → World → Prop} {Q : Exit → Act → World → Prop} {X : Prop} (hw : Region.wanted o (yielded ops a.tmps) = true)
    (x y : Operand) (hop : o.op = .buildSlice 79 2 #[(0, x), (1, y)]) (u v : Value) (hx : a.eval x = u) (hy : a.eval y = v) (hu : u.cells = #[u]) (hv : v.cells = #[v])
    (hK : K (a.put o.dst (.slice (some ⟨w.heap.size, 0, none⟩) 2 2)) (w.alloc (.cells #[u, v] 24))) : if Region.wanted o (yielded ops a.tmps) = true then Oper.wp Tryd.prog o a w K Q else X := by
  rw [if_pos hw]
  obtain ⟨i, hi, hz, hsz, hby⟩ := info_parts slotBsT.info
  have hsz : i.size = 1 := hsz
  have hr : (Instr.buildSlice 79 2 #[(0, u), (1, v)]).run Tryd.prog w = .ok (.slice (some ⟨w.heap.size, 0, none⟩) 2 2) (w.alloc (.cells #[u, v] 24)) := by
    refine run_buildSlice w _ _ 2 #[(0, u), (1, v)] _ i _ slotBsT.under hi hz (by omega) (by omega) ?_
    rw [show (#[(0, u), (1, v)] : Array (Nat × Value)).toList = [(0, u), (1, v)] from rfl, fill_cons (off := 0) (by simp [hu, hsz]) (by simp [hu, hsz]), fill_cons (off := 1) (by simp [hv, hsz]) (by simp [lay, hu, hv, hsz])]
    rw [Instr.fill, hu, hv]
    congr 2
    simp [lay, hsz]
  unfold Oper.wp execOp
  simp only [hop, List.map_toArray, List.map_cons, List.map_nil, hx, hy, Sem.run_bind, hr, Result.andThen_ok]
  exact hK
theorem step_twoS {w : World} {ops : Array Oper} {o : Oper} {a : Act} {K : Act → World → Prop} {Q : Exit → Act → World → Prop} {X : Prop} (hg : o.guard = none)
    (x y : Operand) (hop : o.op = .buildSlice 79 2 #[(0, x), (1, y)]) (u v : Value) (hx : a.eval x = u) (hy : a.eval y = v) (hu : u.cells = #[u]) (hv : v.cells = #[v])
    (hK : K (a.put o.dst (.slice (some ⟨w.heap.size, 0, none⟩) 2 2)) (w.alloc (.cells #[u, v] 24))) : if Region.wanted o (yielded ops a.tmps) = true then Oper.wp Tryd.prog o a w K Q else X :=
  step_twoW (by simp [Region.wanted, hg]) x y hop u v hx hy hu hv hK
theorem step_ofT {w : World} {ops : Array Oper} {o : Oper} {a : Act} {K : Act → World → Prop} {Q : Exit → Act → World → Prop} {X : Prop} (hg : o.guard = none)
    (k : Int) (s : Nat) (ts : Array TypeId) (hop : o.op = .call { callee := .value (.func 15), args := #[.const (.int .u8 k), .tmp s], argTypes := ts }) (v : Value) (hy : a.eval (.tmp s) = v)
    {R : World → Prop} {r : Value} (hC : Calls Tryd.prog 15 #[.int .u8 k, v] w fun e w' => e = .returned r ∧ R w') (hK : ∀ w', R w' → K (a.put o.dst r) w') : if Region.wanted o (yielded ops a.tmps) = true then Oper.wp Tryd.prog o a w K Q else X := by
  rw [if_pos (by simp [Region.wanted, hg])]
  rcases o with ⟨dst, op, ty, pos, after, guard⟩
  simp only at hg hop hK
  subst hg hop
  have hy2 : a.tmps[s]?.getD undef = v := by rw [← hy]; simp [Act.eval, Array.getD_eq_getD_getElem?]
  go_simp
  refine hC.mono ?_
  rintro e w' ⟨rfl, hR⟩
  exact hK w' hR

theorem step_stT {P : Program} {ops : Array Oper} {o : Oper} {a : Act} {w : World} {K : Act → World → Prop} {Q : Exit → Act → World → Prop} {X : Prop} (hw : o.guard = none) (ty : TypeId) (x y : Operand) (ho : o.op = .store ty x y)
    (g : Nat) (cs : Array Value) (hx : a.eval x = .pointer (some ⟨g, 0, none⟩)) (hy : a.eval y = .agg cs) (t : TypeId) (old : Array Value) (hg : w.heap[g]? = some (.cells old t (0, 0)))
    (hi : (P.info? ty).map (·.size) = some cs.size) (hold : old.size = cs.size) (h1 : cs.all (·.oneCell') = true)
    (h : ∀ w', w'.heap[g]? = some (.cells cs t (0, 0)) → w.grownBy w' (some g) → K (a.put o.dst undef) w') : if Region.wanted o (yielded ops a.tmps) = true then Oper.wp P o a w K Q else X := by
  rw [if_pos (by simp [Region.wanted, hw])]
  exact wp_store_row ty x y ho g cs hx hy t old hg hi hold h1 fun w' h2 h3 _ => h w' h2 h3
theorem step_alT {P : Program} {ops : Array Oper} {o : Oper} {a : Act} {w : World} {K : Act → World → Prop} {Q : Exit → Act → World → Prop} {X : Prop} (hw : o.guard = none) (ty : TypeId) (ho : o.op = .alloc ty)
    (zs : Array Value) (hz : (P.info? ty).map (fun i => (i.zero, i.size)) = some (some (.agg zs), zs.size))
    (h : ∀ g w', w.heap.size ≤ g → w'.heap[g]? = some (.cells zs ty (0, 0)) → Below w.heap.size w w' → K (a.put o.dst (.pointer (some ⟨g, 0, none⟩))) w') : if Region.wanted o (yielded ops a.tmps) = true then Oper.wp P o a w K Q else X := by
  rw [if_pos (by simp [Region.wanted, hw])]
  have hq : ∃ i, P.info? ty = some i ∧ i.zero = some (.agg zs) := by
    cases hq : P.info? ty with
    | none => simp [hq] at hz
    | some i => simp [hq] at hz; exact ⟨i, rfl, hz.1⟩
  obtain ⟨i, hi, hzz⟩ := hq
  unfold Oper.wp execOp
  simp only [ho]
  simp [Instr.alloc, zeroValue, typeInfo, hi, hzz, newVar, Value.cells]
  exact h _ _ (Nat.le_refl _) (heap_alloc_new w (.cells zs ty)) (ext_alloc w _)

/-! ### the shape -/
def lf (A : Array Bool) : Nat → Bool := fun k => A.getD k false
theorem lf_ne {A : Array Bool} {i k : Nat} (h : k ≠ i) : lf (A.setIfInBounds i true) k = lf A k := by
  simp [lf, Array.getD_eq_getD_getElem?, Array.getElem?_setIfInBounds, Ne.symm h]
theorem lf_self {A : Array Bool} {i : Nat} (h : i < A.size) : lf (A.setIfInBounds i true) i = true := by
  simp [lf, Array.getD_eq_getD_getElem?, Array.getElem?_setIfInBounds, h]
theorem put_lf {A : Array Bool} {v : Nat → Value} {a : Act} {i : Nat} {di : Option Nat} {x : Value} {ds : List (Nat × Option Nat)} (hd : ApartD ds) (hm : (i, di) ∈ ds) (h0 : lf A i = false) (hi : i < A.size) : (putIf (lf A) v ds a).put di x = putIf (lf (A.setIfInBounds i true)) (upd v i x) ds a :=
  putIf_put h0 (lf_self hi) (upd_self v i x) (fun k h => lf_ne h) (fun k h => upd_ne h) ds hd hm
def Lq (p q : Nat) (x y z : Bool) : Array Bool := #[true, decide (1 ≤ p), decide (2 ≤ p), decide (3 ≤ p), decide (4 ≤ p), true, decide (1 ≤ q), decide (2 ≤ q), decide (3 ≤ q), decide (4 ≤ q), x, y, z, false]
def chkT (ops : Array Oper) (p q : Nat) (x y z : Bool) : Bool :=
  !(Region.ready .any ops (Lq p q x y z)).isEmpty && (Region.ready .any ops (Lq p q x y z)).all fun i => decide ((i = 1 ∧ p = 0) ∨ (i = 2 ∧ p = 1) ∨ (i = 3 ∧ p = 2) ∨ (i = 4 ∧ p = 3) ∨ (i = 6 ∧ q = 0) ∨ (i = 7 ∧ q = 1) ∨ (i = 8 ∧ q = 2) ∨ (i = 9 ∧ q = 3) ∨ (i = 10 ∧ x = false) ∨ (i = 11 ∧ y = false) ∨ (i = 12 ∧ z = false ∧ p = 4 ∧ q = 4 ∧ x = true) ∨ (i = 13 ∧ y = true ∧ z = true))
def dsT (s1 s2 s3 s4 s6 s7 s8 s9 s10 s11 : Nat) : List (Nat × Option Nat) := [(1, some s1), (2, some s2), (3, some s3), (4, some s4), (6, some s6), (7, some s7), (8, some s8), (9, some s9), (10, some s10), (11, some s11), (12, none), (13, none)]
theorem apartD_of : ∀ ds : List (Nat × Option Nat), (ds.map (·.1)).Nodup → (ds.filterMap (·.2)).Nodup → ApartD ds
  | [], _, _ => List.Pairwise.nil
  | (k, d) :: ds, h1, h2 => by
    have h1' := List.nodup_cons.1 (show (k :: ds.map (·.1)).Nodup from h1)
    refine List.pairwise_cons.2 ⟨fun e he => ⟨fun q => h1'.1 (List.mem_map.2 ⟨e, he, q.symm⟩), fun s hs hs2 => ?_⟩, apartD_of ds h1'.2 ?_⟩
    · dsimp only at hs
      subst hs
      have h2' := List.nodup_cons.1 (show (s :: ds.filterMap (·.2)).Nodup from h2)
      exact h2'.1 (List.mem_filterMap.2 ⟨e, he, hs2⟩)
    · cases d with
      | none => exact h2
      | some s => exact (List.nodup_cons.1 (show (s :: ds.filterMap (·.2)).Nodup from h2)).2
structure TwoT (ops : Array Oper) (s0 s5 s1 s2 s3 s4 s6 s7 s8 s9 s10 s11 : Nat) (cA cB : UInt8) : Prop where
  o1 : ∃ o, ops[1]? = some o ∧ o.guard = none ∧ o.dst = some s1 ∧ o.op = .buildSlice 24 1 #[(0, .const (.int .u8 (cA.toNat : Int)))]
  o2 : ∃ o, ops[2]? = some o ∧ o.guard = none ∧ o.dst = some s2 ∧ o.op = .convert 24 24 (.tmp s1)
  o3 : ∃ o, ops[3]? = some o ∧ o.guard = none ∧ o.dst = some s3 ∧ o.op = .buildSlice 79 2 #[(0, .tmp s0), (1, .tmp s2)]
  o4 : ∃ o, ops[4]? = some o ∧ o.guard = none ∧ o.dst = some s4 ∧ ∃ ts, o.op = .call { callee := .value (.func 15), args := #[.const (.int .u8 1), .tmp s3], argTypes := ts }
  o6 : ∃ o, ops[6]? = some o ∧ o.guard = none ∧ o.dst = some s6 ∧ o.op = .buildSlice 24 1 #[(0, .const (.int .u8 (cB.toNat : Int)))]
  o7 : ∃ o, ops[7]? = some o ∧ o.guard = none ∧ o.dst = some s7 ∧ o.op = .convert 24 24 (.tmp s6)
  o8 : ∃ o, ops[8]? = some o ∧ o.guard = none ∧ o.dst = some s8 ∧ o.op = .buildSlice 79 2 #[(0, .tmp s5), (1, .tmp s7)]
  o9 : ∃ o, ops[9]? = some o ∧ o.guard = none ∧ o.dst = some s9 ∧ ∃ ts, o.op = .call { callee := .value (.func 15), args := #[.const (.int .u8 1), .tmp s8], argTypes := ts }
  o10 : ∃ o, ops[10]? = some o ∧ o.guard = none ∧ o.dst = some s10 ∧ o.op = .alloc 23
  o11 : ∃ o, ops[11]? = some o ∧ o.guard = none ∧ o.dst = some s11 ∧ o.op = .alloc 23
  o12 : ∃ o, ops[12]? = some o ∧ o.guard = none ∧ o.dst = none ∧ o.op = .store 23 (.tmp s10) (.tmp s4)
  o13 : ∃ o, ops[13]? = some o ∧ o.guard = none ∧ o.dst = none ∧ o.op = .store 23 (.tmp s11) (.tmp s9)
  rdy : ∀ p q : Fin 5, ∀ x y z : Bool, chkT ops p q x y z = true
  fin : Region.ready .any ops (Array.replicate 14 true) = []
  dis : ((dsT s1 s2 s3 s4 s6 s7 s8 s9 s10 s11).filterMap (·.2)).Nodup
  n0 : s0 ∉ (dsT s1 s2 s3 s4 s6 s7 s8 s9 s10 s11).filterMap (·.2)
  n5 : s5 ∉ (dsT s1 s2 s3 s4 s6 s7 s8 s9 s10 s11).filterMap (·.2)

/-! ### what a chain of operations has come to -/
def ChainT (B : Nat) (k : Dg) (c : UInt8) (dl : List UInt8) (p i : Nat) (v : Nat → Value) (w : World) : Prop :=
  (p = 1 → ∃ g, v (i + 1) = .slice (some ⟨g, 0, none⟩) 1 1 ∧ B ≤ g ∧ w.heap[g]? = some (.cells #[bv c] 5 (0, 0))) ∧
  (p = 2 → ∃ g, v (i + 2) = .slice (some ⟨g, 0, none⟩) 1 1 ∧ Rd w (some ⟨g, 0, none⟩) [c]) ∧
  (p = 3 → ∃ g, v (i + 3) = .slice (some ⟨g, 0, none⟩) 2 2 ∧ Rds w (some ⟨g, 0, none⟩) [k.1, [c]]) ∧
  (p = 4 → v (i + 4) = .agg (dl.map bv).toArray)
def BoxD (B : Nat) (i : Nat) (v : Nat → Value) (w : World) : Prop := ∃ g, v i = .pointer (some ⟨g, 0, none⟩) ∧ B ≤ g ∧ w.heap[g]? = some (.cells z32 23 (0, 0))
section
variable {B : Nat} {k : Dg} {c : UInt8} {dl : List UInt8} {p i : Nat} {v : Nat → Value} {w w' : World}
theorem ChainT.bel (h : ChainT B k c dl p i v w) (hb : Below w.heap.size w w') : ChainT B k c dl p i v w' := by
  obtain ⟨h1, h2, h3, h4⟩ := h
  refine ⟨fun e => ?_, fun e => ?_, fun e => ?_, h4⟩
  · obtain ⟨g, a, b, d⟩ := h1 e; exact ⟨g, a, b, (hb.block _ (block_lt d)).trans d⟩
  · obtain ⟨g, a, d⟩ := h2 e; exact ⟨g, a, d.bel hb⟩
  · obtain ⟨g, a, d⟩ := h3 e; exact ⟨g, a, d.bel hb⟩
theorem BoxD.bel (h : BoxD B i v w) (hb : Below w.heap.size w w') : BoxD B i v w' := by
  obtain ⟨g, a, b, d⟩ := h; exact ⟨g, a, b, (hb.block _ (block_lt d)).trans d⟩
theorem ChainT.frz (h : ChainT B k c dl p i v w) {g : Nat} {C : Array Value} {e : TypeId} {fr : Nat × Nat} (f : w.heap[g]? = some (.cells C e (0, 0))) (f' : w'.heap[g]? = some (.cells C e fr)) (hc : Chg (fun b => b = g) w w') (hne : p = 1 → v (i + 1) ≠ .slice (some ⟨g, 0, none⟩) 1 1) : ChainT B k c dl p i v w' := by
  obtain ⟨h1, h2, h3, h4⟩ := h
  refine ⟨fun e => ?_, fun e => ?_, fun e => ?_, h4⟩
  · obtain ⟨g2, a, b, d⟩ := h1 e
    exact ⟨g2, a, b, (hc.block _ (block_lt d) (fun q => hne e (by rw [a, q]))).trans d⟩
  · obtain ⟨g, a, d⟩ := h2 e; exact ⟨g, a, d.keep (keep_frz f f' hc)⟩
  · obtain ⟨g, a, d⟩ := h3 e; exact ⟨g, a, rds_keep d (keep_frz f f' hc)⟩
theorem BoxD.frz (h : BoxD B i v w) {g : Nat} (f : w.heap[g]? = some (.cells #[bv c] 5 (0, 0))) (hc : Chg (fun b => b = g) w w') : BoxD B i v w' := by
  obtain ⟨g2, a, b, d⟩ := h
  refine ⟨g2, a, b, (hc.block _ (block_lt d) (fun q => ?_)).trans d⟩
  have q : g2 = g := q
  subst q
  rw [f] at d
  injection d with d
  injection d with d
  have := congrArg Array.size d
  rw [z32_size] at this
  simp at this
theorem ChainT.upd (h : ChainT B k c dl p i v w) {j : Nat} {x : Value} (h1 : j ≠ i + 1) (h2 : j ≠ i + 2) (h3 : j ≠ i + 3) (h4 : j ≠ i + 4) : ChainT B k c dl p i (upd v j x) w := by
  unfold ChainT
  rw [upd_ne h1.symm, upd_ne h2.symm, upd_ne h3.symm, upd_ne h4.symm]
  exact h
theorem BoxD.upd (h : BoxD B i v w) {j : Nat} {x : Value} (h1 : j ≠ i) : BoxD B i (upd v j x) w := by
  unfold BoxD
  rw [upd_ne h1.symm]
  exact h
end




/-! ### whatever comes up -/
theorem rdy_mem {ops : Array Oper} {s0 s5 s1 s2 s3 s4 s6 s7 s8 s9 s10 s11 : Nat} {cA cB : UInt8} (hS : TwoT ops s0 s5 s1 s2 s3 s4 s6 s7 s8 s9 s10 s11 cA cB) {p q : Nat} (hp : p ≤ 4) (hq : q ≤ 4) (x y z : Bool) : Region.ready .any ops (Lq p q x y z) ≠ [] ∧
    ∀ i ∈ Region.ready .any ops (Lq p q x y z), (i = 1 ∧ p = 0) ∨ (i = 2 ∧ p = 1) ∨ (i = 3 ∧ p = 2) ∨ (i = 4 ∧ p = 3) ∨ (i = 6 ∧ q = 0) ∨ (i = 7 ∧ q = 1) ∨ (i = 8 ∧ q = 2) ∨ (i = 9 ∧ q = 3) ∨ (i = 10 ∧ x = false) ∨ (i = 11 ∧ y = false) ∨ (i = 12 ∧ z = false ∧ p = 4 ∧ q = 4 ∧ x = true) ∨ (i = 13 ∧ y = true ∧ z = true) := by
  have h : chkT ops p q x y z = true := hS.rdy ⟨p, by omega⟩ ⟨q, by omega⟩ x y z
  unfold chkT at h
  rw [Bool.and_eq_true] at h
  refine ⟨fun e => ?_, fun i hi => ?_⟩
  · rw [e] at h; simp at h
  · exact of_decide_eq_true (List.all_eq_true.1 h.2 i hi)
section
variable {ops : Array Oper} {Q : Exit → Act → World → Prop} {a0 : Act} {W0 : World} {s0 s5 s1 s2 s3 s4 s6 s7 s8 s9 s10 s11 : Nat} {cA cB : UInt8}
theorem two_z (hS : TwoT ops s0 s5 s1 s2 s3 s4 s6 s7 s8 s9 s10 s11 cA cB) (dA dB : List UInt8) (hlA : dA.length = 32) (hlB : dB.length = 32) (hsz : ∀ s, s ∈ (dsT s1 s2 s3 s4 s6 s7 s8 s9 s10 s11).filterMap (·.2) → s < a0.tmps.size)
    (hQ : ∀ (v : Nat → Value) (w : World) (g h : Nat), Below W0.heap.size W0 w → W0.heap.size ≤ g → W0.heap.size ≤ h → g ≠ h → w.heap[g]? = some (.cells (dA.map bv).toArray 23 (0, 0)) → w.heap[h]? = some (.cells (dB.map bv).toArray 23 (0, 0)) → v 10 = .pointer (some ⟨g, 0, none⟩) → v 11 = .pointer (some ⟨h, 0, none⟩) → Q .normal (putIf (lf (Array.replicate 14 true)) v (dsT s1 s2 s3 s4 s6 s7 s8 s9 s10 s11) a0) w)
    (v : Nat → Value) (w : World) (g : Nat) (hW : Below W0.heap.size W0 w) (e10 : v 10 = .pointer (some ⟨g, 0, none⟩)) (hg0 : W0.heap.size ≤ g) (fA : w.heap[g]? = some (.cells (dA.map bv).toArray 23 (0, 0))) (e9 : v 9 = .agg (dB.map bv).toArray) :
    ((∃ h, v 11 = .pointer (some ⟨h, 0, none⟩) ∧ W0.heap.size ≤ h ∧ w.heap[h]? = some (.cells z32 23 (0, 0)) ∧ h ≠ g) → wpAnyH Tryd.prog .any ops Q (fun _ => True) 1 (Lq 4 4 true true true) (putIf (lf (Lq 4 4 true true true)) v (dsT s1 s2 s3 s4 s6 s7 s8 s9 s10 s11) a0) w) := by
  have hD := apartD_of (dsT s1 s2 s3 s4 s6 s7 s8 s9 s10 s11) (by simp [dsT]) hS.dis
  rintro ⟨h, e11, hh0, fh, hne⟩
  obtain ⟨h1, h2⟩ := rdy_mem hS (Nat.le_refl 4) (Nat.le_refl 4) true true true
  refine ⟨fun e => absurd e h1, fun i hi => ?_⟩
  have hi13 : i = 13 := by have := h2 i hi; simp at this; omega
  subst hi13
  obtain ⟨o, ho, hg, hd, hop⟩ := hS.o13
  refine wpOp_step ho fun K' hK => ?_
  refine step_stT hg 23 (.tmp s11) (.tmp s9) hop h (dB.map bv).toArray ?_ ?_ 23 z32 fh ?_ ?_ (bvs_all dB) ?_
  · rw [putIf_eval (k := 11) rfl (hsz _ (by simp [dsT])) _ hD (by simp [dsT])]; exact e11
  · rw [putIf_eval (k := 9) rfl (hsz _ (by simp [dsT])) _ hD (by simp [dsT])]; exact e9
  · rw [List.size_toArray, List.length_map, hlB]; exact size32
  · exact z32_size.trans (by simp [hlB])
  intro w' d' hG
  refine hK _ _ ⟨trivial, ?_⟩
  rw [hd, put_lf (i := 13) hD (by simp [dsT]) rfl (by simp [Lq]), show (Lq 4 4 true true true).setIfInBounds 13 true = Array.replicate 14 true from rfl]
  refine ⟨hS.fin, hQ _ w' g h (hW.grown hG hW.size (fun k e => by injection e with e; omega)) hg0 hh0 (Ne.symm hne) ((hG.block _ (block_lt fA) (by simpa using Ne.symm hne)).trans fA) d' ?_ ?_⟩
  · rw [upd_ne (by decide)]; exact e10
  · rw [upd_ne (by decide)]; exact e11
theorem two_zz (hS : TwoT ops s0 s5 s1 s2 s3 s4 s6 s7 s8 s9 s10 s11 cA cB) (dA dB : List UInt8) (hlA : dA.length = 32) (hlB : dB.length = 32) (hsz : ∀ s, s ∈ (dsT s1 s2 s3 s4 s6 s7 s8 s9 s10 s11).filterMap (·.2) → s < a0.tmps.size)
    (hQ : ∀ (v : Nat → Value) (w : World) (g h : Nat), Below W0.heap.size W0 w → W0.heap.size ≤ g → W0.heap.size ≤ h → g ≠ h → w.heap[g]? = some (.cells (dA.map bv).toArray 23 (0, 0)) → w.heap[h]? = some (.cells (dB.map bv).toArray 23 (0, 0)) → v 10 = .pointer (some ⟨g, 0, none⟩) → v 11 = .pointer (some ⟨h, 0, none⟩) → Q .normal (putIf (lf (Array.replicate 14 true)) v (dsT s1 s2 s3 s4 s6 s7 s8 s9 s10 s11) a0) w)
    (y : Bool) (v : Nat → Value) (w : World) (g : Nat) (hW : Below W0.heap.size W0 w) (e10 : v 10 = .pointer (some ⟨g, 0, none⟩)) (hg0 : W0.heap.size ≤ g) (fA : w.heap[g]? = some (.cells (dA.map bv).toArray 23 (0, 0))) (e9 : v 9 = .agg (dB.map bv).toArray)
    (hy : y = true → ∃ h, v 11 = .pointer (some ⟨h, 0, none⟩) ∧ W0.heap.size ≤ h ∧ w.heap[h]? = some (.cells z32 23 (0, 0)) ∧ h ≠ g) : wpAnyH Tryd.prog .any ops Q (fun _ => True) (1 + (if y = true then 0 else 1)) (Lq 4 4 true y true) (putIf (lf (Lq 4 4 true y true)) v (dsT s1 s2 s3 s4 s6 s7 s8 s9 s10 s11) a0) w := by
  cases y with
  | true => exact two_z hS dA dB hlA hlB hsz hQ v w g hW e10 hg0 fA e9 (hy rfl)
  | false =>
    have hD := apartD_of (dsT s1 s2 s3 s4 s6 s7 s8 s9 s10 s11) (by simp [dsT]) hS.dis
    obtain ⟨h1, h2⟩ := rdy_mem hS (Nat.le_refl 4) (Nat.le_refl 4) true false true
    refine ⟨fun e => absurd e h1, fun i hi => ?_⟩
    have hi11 : i = 11 := by have := h2 i hi; simp at this; omega
    subst hi11
    obtain ⟨o, ho, hg, hd, hop⟩ := hS.o11
    refine wpOp_step ho fun K' hK => ?_
    refine step_alT hg 23 hop z32 info32 ?_
    intro h w' hgle f hb
    refine hK _ _ ⟨trivial, ?_⟩
    rw [hd, put_lf (i := 11) hD (by simp [dsT]) rfl (by simp [Lq]), show (Lq 4 4 true false true).setIfInBounds 11 true = Lq 4 4 true true true from rfl]
    have hl := block_lt fA
    exact two_z hS dA dB hlA hlB hsz hQ (upd v 11 _) w' g (hW.trans (hb.mono hW.size)) (by rw [upd_ne (by decide)]; exact e10) hg0 ((hb.block _ hl).trans fA) (by rw [upd_ne (by decide)]; exact e9) ⟨h, upd_self _ _ _, Nat.le_trans hW.size hgle, f, by omega⟩
theorem two_main (hS : TwoT ops s0 s5 s1 s2 s3 s4 s6 s7 s8 s9 s10 s11 cA cB) (k1 k2 : Dg) (b1 b2 : Nat) (hsz : ∀ s, s ∈ (dsT s1 s2 s3 s4 s6 s7 s8 s9 s10 s11).filterMap (·.2) → s < a0.tmps.size)
    (e0 : a0.eval (.tmp s0) = .slice (some ⟨b1, 0, none⟩) 32 32) (e5 : a0.eval (.tmp s5) = .slice (some ⟨b2, 0, none⟩) 32 32) (r1 : Rd W0 (some ⟨b1, 0, none⟩) k1.1) (r2 : Rd W0 (some ⟨b2, 0, none⟩) k2.1) (hT : Tab W0)
    (hQ : ∀ (v : Nat → Value) (w : World) (g h : Nat), Below W0.heap.size W0 w → W0.heap.size ≤ g → W0.heap.size ≤ h → g ≠ h → w.heap[g]? = some (.cells ((sha256 (tagB 1 [k1.1, [cA]])).map bv).toArray 23 (0, 0)) → w.heap[h]? = some (.cells ((sha256 (tagB 1 [k2.1, [cB]])).map bv).toArray 23 (0, 0)) → v 10 = .pointer (some ⟨g, 0, none⟩) → v 11 = .pointer (some ⟨h, 0, none⟩) → Q .normal (putIf (lf (Array.replicate 14 true)) v (dsT s1 s2 s3 s4 s6 s7 s8 s9 s10 s11) a0) w) :
    ∀ (n p q : Nat) (x y : Bool) (v : Nat → Value) (w : World), p ≤ 4 → q ≤ 4 → (4 - p) + (4 - q) + (if x = true then 0 else 1) + (if y = true then 0 else 1) = n →
      (Below W0.heap.size W0 w ∧ ChainT W0.heap.size k1 cA (sha256 (tagB 1 [k1.1, [cA]])) p 0 v w ∧ ChainT W0.heap.size k2 cB (sha256 (tagB 1 [k2.1, [cB]])) q 5 v w ∧ (p = 1 → q = 1 → v 1 ≠ v 6) ∧ (x = true → BoxD W0.heap.size 10 v w) ∧ (y = true → BoxD W0.heap.size 11 v w) ∧ (x = true → y = true → v 10 ≠ v 11)) →
      wpAnyH Tryd.prog .any ops Q (fun _ => True) (n + 2) (Lq p q x y false) (putIf (lf (Lq p q x y false)) v (dsT s1 s2 s3 s4 s6 s7 s8 s9 s10 s11) a0) w := by
  have hD := apartD_of (dsT s1 s2 s3 s4 s6 s7 s8 s9 s10 s11) (by simp [dsT]) hS.dis
  have hlA : (sha256 (tagB 1 [k1.1, [cA]])).length = 32 := S8.bytes_len _
  have hlB : (sha256 (tagB 1 [k2.1, [cB]])).length = 32 := S8.bytes_len _
  intro n
  induction n using Nat.strongRecOn with
  | ind n ih =>
  intro p q x y v w hp hq hn ⟨hW, hA, hB, hAB, hX, hY, hXY⟩
  obtain ⟨h1, h2⟩ := rdy_mem hS hp hq x y false
  refine ⟨fun e => absurd e h1, fun i hi => ?_⟩
  · rcases h2 i hi with ⟨rfl, rfl⟩ | ⟨rfl, rfl⟩ | ⟨rfl, rfl⟩ | ⟨rfl, rfl⟩ | ⟨rfl, rfl⟩ | ⟨rfl, rfl⟩ | ⟨rfl, rfl⟩ | ⟨rfl, rfl⟩ | ⟨rfl, rfl⟩ | ⟨rfl, rfl⟩ | ⟨rfl, -, rfl, rfl, rfl⟩ | ⟨-, -, e⟩
    · -- operation 1
      obtain ⟨m, rfl⟩ : ∃ m, n = m + 1 := ⟨n - 1, by omega⟩
      obtain ⟨o, ho, hg, hd, hop⟩ := hS.o1
      refine wpOp_step ho fun K' hK => ?_
      refine step_build1 slotU8T (by decide) (by simp [Region.wanted, hg]) (.const (.int .u8 _)) hop [bv cA] rfl rfl ?_
      intro g w' hgle f hb
      refine hK _ _ ⟨trivial, ?_⟩
      rw [hd, put_lf (i := 1) hD (by simp [dsT]) rfl (by simp [Lq]), show (Lq 0 q x y false).setIfInBounds 1 true = Lq 1 q x y false from rfl]
      exact ih m (by omega) 1 q x y _ _ (by omega) hq (by omega) ⟨hW.trans (hb.mono hW.size), ⟨fun _ => ⟨g, upd_self _ _ _, Nat.le_trans hW.size hgle, f⟩, fun h => absurd h (by decide), fun h => absurd h (by decide), fun h => absurd h (by decide)⟩, (hB.bel hb).upd (by decide) (by decide) (by decide) (by decide), fun _ hq1 => by
        obtain ⟨g6, a6, b6, f6⟩ := hB.1 hq1
        rw [upd_self, upd_ne (by decide), a6]
        intro e
        injection e with e
        injection e with e
        injection e with e
        have := block_lt f6
        omega, fun h => ((hX h).bel hb).upd (by decide), fun h => ((hY h).bel hb).upd (by decide), fun h1 h2 => by rw [upd_ne (by decide), upd_ne (by decide)]; exact hXY h1 h2⟩
    · -- operation 2
      obtain ⟨m, rfl⟩ : ∃ m, n = m + 1 := ⟨n - 1, by omega⟩
      obtain ⟨o, ho, hg, hd, hop⟩ := hS.o2
      refine wpOp_step ho fun K' hK => ?_
      obtain ⟨g, a1, b1, f⟩ := hA.1 rfl
      refine step_convC (by simp [Region.wanted, hg]) 24 (.tmp s1) hop g 1 1 #[bv cA] 5 ?_ f Tryd.underlying24 Tryd.underlying5 ?_
      · rw [putIf_eval (k := 1) rfl (hsz _ (by simp [dsT])) _ hD (by simp [dsT])]; exact a1
      intro w' fr f' hch
      refine hK _ _ ⟨trivial, ?_⟩
      rw [hd, put_lf (i := 2) hD (by simp [dsT]) rfl (by simp [Lq]), show (Lq 1 q x y false).setIfInBounds 2 true = Lq 2 q x y false from rfl]
      have hb : Below W0.heap.size w w' := hch.below hW.size (fun b hb e => by omega)
      exact ih m (by omega) 2 q x y _ _ (by omega) hq (by omega) ⟨hW.trans hb, ⟨fun h => absurd h (by decide), fun _ => ⟨g, upd_self _ _ _, rd_frz (l := [cA]) f'⟩, fun h => absurd h (by decide), fun h => absurd h (by decide)⟩, (hB.frz f f' hch (fun h2 e => hAB rfl h2 (by rw [a1]; exact e.symm))).upd (by decide) (by decide) (by decide) (by decide), fun h => absurd h (by decide), fun h => ((hX h).frz f hch).upd (by decide), fun h => ((hY h).frz f hch).upd (by decide), fun h1 h2 => by rw [upd_ne (by decide), upd_ne (by decide)]; exact hXY h1 h2⟩
    · -- operation 3
      obtain ⟨m, rfl⟩ : ∃ m, n = m + 1 := ⟨n - 1, by omega⟩
      obtain ⟨o, ho, hg, hd, hop⟩ := hS.o3
      refine wpOp_step ho fun K' hK => ?_
      obtain ⟨g, a2, f⟩ := hA.2.1 rfl
      refine step_twoS hg _ _ hop (.slice (some ⟨b1, 0, none⟩) 32 32) (.slice (some ⟨g, 0, none⟩) 1 1) ?_ ?_ rfl rfl ?_
      · rw [putIf_other _ (fun d hd' e => hS.n0 (List.mem_filterMap.2 ⟨d, hd', e⟩))]; exact e0
      · rw [putIf_eval (k := 2) rfl (hsz _ (by simp [dsT])) _ hD (by simp [dsT])]; exact a2
      have hb := ext_alloc w (.cells #[Value.slice (some ⟨b1, 0, none⟩) 32 32, .slice (some ⟨g, 0, none⟩) 1 1] 24)
      have hr2 := rds_two w (some ⟨b1, 0, none⟩) (some ⟨g, 0, none⟩) 32 1 k1.1 [cA] 24 (r1.below hW (Nat.le_refl _)) f ⟨by rw [k1.2]; omega, by unfold maxLen; omega⟩ ⟨by simp, by unfold maxLen; omega⟩
      rw [k1.2] at hr2
      refine hK _ _ ⟨trivial, ?_⟩
      rw [hd, put_lf (i := 3) hD (by simp [dsT]) rfl (by simp [Lq]), show (Lq 2 q x y false).setIfInBounds 3 true = Lq 3 q x y false from rfl]
      exact ih m (by omega) 3 q x y _ _ (by omega) hq (by omega) ⟨hW.trans (hb.mono hW.size), ⟨fun h => absurd h (by decide), fun h => absurd h (by decide), fun _ => ⟨w.heap.size, upd_self _ _ _, hr2⟩, fun h => absurd h (by decide)⟩, (hB.bel hb).upd (by decide) (by decide) (by decide) (by decide), fun h => absurd h (by decide), fun h => ((hX h).bel hb).upd (by decide), fun h => ((hY h).bel hb).upd (by decide), fun h1 h2 => by rw [upd_ne (by decide), upd_ne (by decide)]; exact hXY h1 h2⟩
    · -- operation 4
      obtain ⟨m, rfl⟩ : ∃ m, n = m + 1 := ⟨n - 1, by omega⟩
      obtain ⟨o, ho, hg, hd, ts, hop⟩ := hS.o4
      refine wpOp_step ho fun K' hK => ?_
      obtain ⟨g, a3, f⟩ := hA.2.2.1 rfl
      refine step_ofT hg _ _ ts hop (.slice (some ⟨g, 0, none⟩) 2 2) ?_ (TOf_any 1 _ 2 2 [k1.1, [cA]] w f rfl (by simp) (tag2_leP 1 (by rw [k1.2]; decide) (by simp)) (hT.bel hW hT.low)) ?_
      · rw [putIf_eval (k := 3) rfl (hsz _ (by simp [dsT])) _ hD (by simp [dsT])]; exact a3
      intro w' hb
      refine hK _ _ ⟨trivial, ?_⟩
      rw [hd, put_lf (i := 4) hD (by simp [dsT]) rfl (by simp [Lq]), show (Lq 3 q x y false).setIfInBounds 4 true = Lq 4 q x y false from rfl]
      exact ih m (by omega) 4 q x y _ _ (by omega) hq (by omega) ⟨hW.trans (hb.mono hW.size), ⟨fun h => absurd h (by decide), fun h => absurd h (by decide), fun h => absurd h (by decide), fun _ => upd_self _ _ _⟩, (hB.bel hb).upd (by decide) (by decide) (by decide) (by decide), fun h => absurd h (by decide), fun h => ((hX h).bel hb).upd (by decide), fun h => ((hY h).bel hb).upd (by decide), fun h1 h2 => by rw [upd_ne (by decide), upd_ne (by decide)]; exact hXY h1 h2⟩
    · -- operation 6
      obtain ⟨m, rfl⟩ : ∃ m, n = m + 1 := ⟨n - 1, by omega⟩
      obtain ⟨o, ho, hg, hd, hop⟩ := hS.o6
      refine wpOp_step ho fun K' hK => ?_
      refine step_build1 slotU8T (by decide) (by simp [Region.wanted, hg]) (.const (.int .u8 _)) hop [bv cB] rfl rfl ?_
      intro g w' hgle f hb
      refine hK _ _ ⟨trivial, ?_⟩
      rw [hd, put_lf (i := 6) hD (by simp [dsT]) rfl (by simp [Lq]), show (Lq p 0 x y false).setIfInBounds 6 true = Lq p 1 x y false from rfl]
      exact ih m (by omega) p 1 x y _ _ hp (by omega) (by omega) ⟨hW.trans (hb.mono hW.size), (hA.bel hb).upd (by decide) (by decide) (by decide) (by decide), ⟨fun _ => ⟨g, upd_self _ _ _, Nat.le_trans hW.size hgle, f⟩, fun h => absurd h (by decide), fun h => absurd h (by decide), fun h => absurd h (by decide)⟩, fun hp1 _ => by
        obtain ⟨g6, a6, b6, f6⟩ := hA.1 hp1
        rw [upd_self, upd_ne (by decide), a6]
        intro e
        injection e with e
        injection e with e
        injection e with e
        have := block_lt f6
        omega, fun h => ((hX h).bel hb).upd (by decide), fun h => ((hY h).bel hb).upd (by decide), fun h1 h2 => by rw [upd_ne (by decide), upd_ne (by decide)]; exact hXY h1 h2⟩
    · -- operation 7
      obtain ⟨m, rfl⟩ : ∃ m, n = m + 1 := ⟨n - 1, by omega⟩
      obtain ⟨o, ho, hg, hd, hop⟩ := hS.o7
      refine wpOp_step ho fun K' hK => ?_
      obtain ⟨g, a1, b1, f⟩ := hB.1 rfl
      refine step_convC (by simp [Region.wanted, hg]) 24 (.tmp s6) hop g 1 1 #[bv cB] 5 ?_ f Tryd.underlying24 Tryd.underlying5 ?_
      · rw [putIf_eval (k := 6) rfl (hsz _ (by simp [dsT])) _ hD (by simp [dsT])]; exact a1
      intro w' fr f' hch
      refine hK _ _ ⟨trivial, ?_⟩
      rw [hd, put_lf (i := 7) hD (by simp [dsT]) rfl (by simp [Lq]), show (Lq p 1 x y false).setIfInBounds 7 true = Lq p 2 x y false from rfl]
      have hb : Below W0.heap.size w w' := hch.below hW.size (fun b hb e => by omega)
      exact ih m (by omega) p 2 x y _ _ hp (by omega) (by omega) ⟨hW.trans hb, (hA.frz f f' hch (fun h2 e => hAB h2 rfl (by rw [a1]; exact e))).upd (by decide) (by decide) (by decide) (by decide), ⟨fun h => absurd h (by decide), fun _ => ⟨g, upd_self _ _ _, rd_frz (l := [cB]) f'⟩, fun h => absurd h (by decide), fun h => absurd h (by decide)⟩, fun _ h => absurd h (by decide), fun h => ((hX h).frz f hch).upd (by decide), fun h => ((hY h).frz f hch).upd (by decide), fun h1 h2 => by rw [upd_ne (by decide), upd_ne (by decide)]; exact hXY h1 h2⟩
    · -- operation 8
      obtain ⟨m, rfl⟩ : ∃ m, n = m + 1 := ⟨n - 1, by omega⟩
      obtain ⟨o, ho, hg, hd, hop⟩ := hS.o8
      refine wpOp_step ho fun K' hK => ?_
      obtain ⟨g, a2, f⟩ := hB.2.1 rfl
      refine step_twoS hg _ _ hop (.slice (some ⟨b2, 0, none⟩) 32 32) (.slice (some ⟨g, 0, none⟩) 1 1) ?_ ?_ rfl rfl ?_
      · rw [putIf_other _ (fun d hd' e => hS.n5 (List.mem_filterMap.2 ⟨d, hd', e⟩))]; exact e5
      · rw [putIf_eval (k := 7) rfl (hsz _ (by simp [dsT])) _ hD (by simp [dsT])]; exact a2
      have hb := ext_alloc w (.cells #[Value.slice (some ⟨b2, 0, none⟩) 32 32, .slice (some ⟨g, 0, none⟩) 1 1] 24)
      have hr2 := rds_two w (some ⟨b2, 0, none⟩) (some ⟨g, 0, none⟩) 32 1 k2.1 [cB] 24 (r2.below hW (Nat.le_refl _)) f ⟨by rw [k2.2]; omega, by unfold maxLen; omega⟩ ⟨by simp, by unfold maxLen; omega⟩
      rw [k2.2] at hr2
      refine hK _ _ ⟨trivial, ?_⟩
      rw [hd, put_lf (i := 8) hD (by simp [dsT]) rfl (by simp [Lq]), show (Lq p 2 x y false).setIfInBounds 8 true = Lq p 3 x y false from rfl]
      exact ih m (by omega) p 3 x y _ _ hp (by omega) (by omega) ⟨hW.trans (hb.mono hW.size), (hA.bel hb).upd (by decide) (by decide) (by decide) (by decide), ⟨fun h => absurd h (by decide), fun h => absurd h (by decide), fun _ => ⟨w.heap.size, upd_self _ _ _, hr2⟩, fun h => absurd h (by decide)⟩, fun _ h => absurd h (by decide), fun h => ((hX h).bel hb).upd (by decide), fun h => ((hY h).bel hb).upd (by decide), fun h1 h2 => by rw [upd_ne (by decide), upd_ne (by decide)]; exact hXY h1 h2⟩
    · -- operation 9
      obtain ⟨m, rfl⟩ : ∃ m, n = m + 1 := ⟨n - 1, by omega⟩
      obtain ⟨o, ho, hg, hd, ts, hop⟩ := hS.o9
      refine wpOp_step ho fun K' hK => ?_
      obtain ⟨g, a3, f⟩ := hB.2.2.1 rfl
      refine step_ofT hg _ _ ts hop (.slice (some ⟨g, 0, none⟩) 2 2) ?_ (TOf_any 1 _ 2 2 [k2.1, [cB]] w f rfl (by simp) (tag2_leP 1 (by rw [k2.2]; decide) (by simp)) (hT.bel hW hT.low)) ?_
      · rw [putIf_eval (k := 8) rfl (hsz _ (by simp [dsT])) _ hD (by simp [dsT])]; exact a3
      intro w' hb
      refine hK _ _ ⟨trivial, ?_⟩
      rw [hd, put_lf (i := 9) hD (by simp [dsT]) rfl (by simp [Lq]), show (Lq p 3 x y false).setIfInBounds 9 true = Lq p 4 x y false from rfl]
      exact ih m (by omega) p 4 x y _ _ hp (by omega) (by omega) ⟨hW.trans (hb.mono hW.size), (hA.bel hb).upd (by decide) (by decide) (by decide) (by decide), ⟨fun h => absurd h (by decide), fun h => absurd h (by decide), fun h => absurd h (by decide), fun _ => upd_self _ _ _⟩, fun _ h => absurd h (by decide), fun h => ((hX h).bel hb).upd (by decide), fun h => ((hY h).bel hb).upd (by decide), fun h1 h2 => by rw [upd_ne (by decide), upd_ne (by decide)]; exact hXY h1 h2⟩
    · -- operation 10
      obtain ⟨m, rfl⟩ : ∃ m, n = m + 1 := ⟨n - 1, by simp at hn; omega⟩
      obtain ⟨o, ho, hg, hd, hop⟩ := hS.o10
      refine wpOp_step ho fun K' hK => ?_
      refine step_alT hg 23 hop z32 info32 ?_
      intro g w' hgle f hb
      refine hK _ _ ⟨trivial, ?_⟩
      rw [hd, put_lf (i := 10) hD (by simp [dsT]) rfl (by simp [Lq]), show (Lq p q false y false).setIfInBounds 10 true = Lq p q true y false from rfl]
      exact ih m (by omega) p q true y _ _ hp hq (by simp at hn ⊢; omega) ⟨hW.trans (hb.mono hW.size), (hA.bel hb).upd (by decide) (by decide) (by decide) (by decide), (hB.bel hb).upd (by decide) (by decide) (by decide) (by decide), fun h1 h2 => by rw [upd_ne (by decide), upd_ne (by decide)]; exact hAB h1 h2, fun _ => ⟨g, upd_self _ _ _, Nat.le_trans hW.size hgle, f⟩, fun h => ((hY h).bel hb).upd (by decide), fun _ h2 => by
        obtain ⟨g6, a6, b6, f6⟩ := hY h2
        rw [upd_self, upd_ne (by decide), a6]
        intro e
        injection e with e
        injection e with e
        injection e with e
        have := block_lt f6
        omega⟩
    · -- operation 11
      obtain ⟨m, rfl⟩ : ∃ m, n = m + 1 := ⟨n - 1, by simp at hn; omega⟩
      obtain ⟨o, ho, hg, hd, hop⟩ := hS.o11
      refine wpOp_step ho fun K' hK => ?_
      refine step_alT hg 23 hop z32 info32 ?_
      intro g w' hgle f hb
      refine hK _ _ ⟨trivial, ?_⟩
      rw [hd, put_lf (i := 11) hD (by simp [dsT]) rfl (by simp [Lq]), show (Lq p q x false false).setIfInBounds 11 true = Lq p q x true false from rfl]
      exact ih m (by omega) p q x true _ _ hp hq (by simp at hn ⊢; omega) ⟨hW.trans (hb.mono hW.size), (hA.bel hb).upd (by decide) (by decide) (by decide) (by decide), (hB.bel hb).upd (by decide) (by decide) (by decide) (by decide), fun h1 h2 => by rw [upd_ne (by decide), upd_ne (by decide)]; exact hAB h1 h2, fun h => ((hX h).bel hb).upd (by decide), fun _ => ⟨g, upd_self _ _ _, Nat.le_trans hW.size hgle, f⟩, fun h1 _ => by
        obtain ⟨g6, a6, b6, f6⟩ := hX h1
        rw [upd_self, upd_ne (by decide), a6]
        intro e
        injection e with e
        injection e with e
        injection e with e
        have := block_lt f6
        omega⟩
    · -- operation 12
      obtain ⟨g, e10, hg0, f10⟩ := hX rfl
      have e4 := hA.2.2.2 rfl
      have e9 := hB.2.2.2 rfl
      obtain ⟨o, ho, hg, hd, hop⟩ := hS.o12
      refine wpOp_step ho fun K' hK => ?_
      refine step_stT hg 23 (.tmp s10) (.tmp s4) hop g ((sha256 (tagB 1 [k1.1, [cA]])).map bv).toArray ?_ ?_ 23 z32 f10 ?_ ?_ (bvs_all _) ?_
      · rw [putIf_eval (k := 10) rfl (hsz _ (by simp [dsT])) _ hD (by simp [dsT])]; exact e10
      · rw [putIf_eval (k := 4) rfl (hsz _ (by simp [dsT])) _ hD (by simp [dsT])]; exact e4
      · rw [List.size_toArray, List.length_map, hlA]; exact size32
      · exact z32_size.trans (by simp [hlA])
      intro w' d' hG
      refine hK _ _ ⟨trivial, ?_⟩
      rw [hd, put_lf (i := 12) hD (by simp [dsT]) rfl (by simp [Lq]), show (Lq 4 4 true y false).setIfInBounds 12 true = Lq 4 4 true y true from rfl]
      have hz := two_zz hS _ _ hlA hlB hsz hQ y (upd v 12 undef) w' g (hW.grown hG hW.size (fun k e => by injection e with e; omega)) (by rw [upd_ne (by decide)]; exact e10) hg0 d' (by rw [upd_ne (by decide)]; exact e9) (fun hy => by
        obtain ⟨h, e11, hh0, f11⟩ := hY hy
        have hne : h ≠ g := fun e => hXY rfl hy (by rw [e10, e11, e])
        exact ⟨h, by rw [upd_ne (by decide)]; exact e11, hh0, (hG.block _ (block_lt f11) (by simpa using hne)).trans f11, hne⟩)
      have : n + 1 = 1 + (if y = true then 0 else 1) := by simp at hn; omega
      rw [this]
      exact hz
    · cases e
end
/-- From the region's beginning, the keys' slices taken: whatever order, the two digests lie in two new boxes. -/
theorem two_all {ops : Array Oper} {Q : Exit → Act → World → Prop} {a0 : Act} {W0 : World} {s0 s5 s1 s2 s3 s4 s6 s7 s8 s9 s10 s11 : Nat} {cA cB : UInt8} {fuel : Nat} {listed : Array Bool} (hf : fuel = 12) (hl : listed = Lq 0 0 false false false)
    (hS : TwoT ops s0 s5 s1 s2 s3 s4 s6 s7 s8 s9 s10 s11 cA cB) (k1 k2 : Dg) (b1 b2 : Nat) (hsz : ∀ s, s ∈ (dsT s1 s2 s3 s4 s6 s7 s8 s9 s10 s11).filterMap (·.2) → s < a0.tmps.size)
    (e0 : a0.eval (.tmp s0) = .slice (some ⟨b1, 0, none⟩) 32 32) (e5 : a0.eval (.tmp s5) = .slice (some ⟨b2, 0, none⟩) 32 32) (r1 : Rd W0 (some ⟨b1, 0, none⟩) k1.1) (r2 : Rd W0 (some ⟨b2, 0, none⟩) k2.1) (hT : Tab W0)
    (hQ : ∀ (u1 u2 u3 u4 u6 u7 u8 u9 : Value) (w : World) (g h : Nat), Below W0.heap.size W0 w → W0.heap.size ≤ g → W0.heap.size ≤ h → g ≠ h → w.heap[g]? = some (.cells ((sha256 (tagB 1 [k1.1, [cA]])).map bv).toArray 23 (0, 0)) → w.heap[h]? = some (.cells ((sha256 (tagB 1 [k2.1, [cB]])).map bv).toArray 23 (0, 0)) →
      Q .normal ((((((((((a0.put (some s11) (.pointer (some ⟨h, 0, none⟩))).put (some s10) (.pointer (some ⟨g, 0, none⟩))).put (some s9) u9).put (some s8) u8).put (some s7) u7).put (some s6) u6).put (some s4) u4).put (some s3) u3).put (some s2) u2).put (some s1) u1) w) : wpAnyH Tryd.prog .any ops Q (fun _ => True) fuel listed a0 W0 := by
  subst hf hl
  have key := two_main (Q := Q) (a0 := a0) hS k1 k2 b1 b2 hsz e0 e5 r1 r2 hT (fun v w g h h1 h2 h3 h4 h5 h6 h7 h8 => by
    have := hQ (v 1) (v 2) (v 3) (v 4) (v 6) (v 7) (v 8) (v 9) w g h h1 h2 h3 h4 h5 h6
    rw [← h7, ← h8] at this
    exact this) 10 0 0 false false (fun _ => undef) W0 (Nat.zero_le _) (Nat.zero_le _) rfl ⟨Below.refl _ _, ⟨fun h => absurd h (by decide), fun h => absurd h (by decide), fun h => absurd h (by decide), fun h => absurd h (by decide)⟩, ⟨fun h => absurd h (by decide), fun h => absurd h (by decide), fun h => absurd h (by decide), fun h => absurd h (by decide)⟩, fun h => absurd h (by decide), fun h => absurd h (by decide), fun h => absurd h (by decide), fun h => absurd h (by decide)⟩
  exact key
end Go.Proofs.YtfjkcdccnbggnaaDoor
