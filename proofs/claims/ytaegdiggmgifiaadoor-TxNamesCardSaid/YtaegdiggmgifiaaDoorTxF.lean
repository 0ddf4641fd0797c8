/-
  Contracts of the landed package tx: what the reader takes.
-/
import Derived.Test.YtaegdiggmgifiaaDoorTxE
import Derived.Test.YtaegdiggmgifiaaDoorMem
namespace Go.Proofs.YtaegdiggmgifiaaDoor
open Go.RowKit
set_option linter.unusedVariables false
set_option linter.unusedSimpArgs false
set_option maxRecDepth 100000

/-! ### plain -/
theorem cutE_iff {n : Nat} {l : List UInt8} {b : Bool} : cutE n l b = false ↔ b = false ∧ n ≤ l.length := by
  unfold cutE
  simp
theorem cutR_no {n : Nat} {l : List UInt8} {b : Bool} (h : cutE n l b = false) : cutR n l b = l.drop n := by unfold cutR; rw [h]; rfl
theorem dgS_no {l : List UInt8} {b : Bool} (h : cutE 32 l b = false) : dgS l b = dgAt l 0 := by unfold dgS; rw [h]; rfl
theorem nuS_no {l : List UInt8} {b : Bool} (h : cutE 8 l b = false) : nuS l b = num (l.take 8) := by unfold nuS; rw [h]; rfl
theorem dgAt_drop (l : List UInt8) (i : Nat) : dgAt (l.drop i) 0 = dgAt l i := by unfold dgAt; simp only [List.drop_zero]
theorem nuS_lt (l : List UInt8) (b : Bool) : nuS l b < 18446744073709551616 := by
  unfold nuS
  split
  · decide
  · refine Nat.lt_of_lt_of_le (num_lt _) ?_
    rw [show (18446744073709551616 : Nat) = 256 ^ 8 from rfl]
    exact Nat.pow_le_pow_right (by decide) (List.length_take_le ..)
/-- What comes out of bytes: a transaction, what is left, and whether they ended too early. -/
def RdSpec (l : List UInt8) (b : Bool) (x : Tx) (lr : List UInt8) (br : Bool) : Prop :=
  x.ok ∧ (b = false → 120 ≤ l.length → x = takenX l ∧ lr = l.drop 120 ∧ br = false) ∧ (l.length < 120 → br = true)
theorem rd_spec {l l1 l2 l3 l4 l5 l6 : List UInt8} {b b1 b2 b3 b4 b5 b6 : Bool} {d1 d2 d6 : Dg} {n1 n2 n3 : Nat}
    (h1 : cutR 32 l b = l1) (e1 : cutE 32 l b = b1) (h2 : cutR 32 l1 b1 = l2) (e2 : cutE 32 l1 b1 = b2) (h3 : cutR 8 l2 b2 = l3) (e3 : cutE 8 l2 b2 = b3) (h4 : cutR 8 l3 b3 = l4) (e4 : cutE 8 l3 b3 = b4)
    (h5 : cutR 8 l4 b4 = l5) (e5 : cutE 8 l4 b4 = b5) (h6 : cutR 32 l5 b5 = l6) (e6 : cutE 32 l5 b5 = b6) (q1 : dgS l b = d1) (q2 : dgS l1 b1 = d2) (q3 : nuS l2 b2 = n1) (q4 : nuS l3 b3 = n2) (q5 : nuS l4 b4 = n3) (q6 : dgS l5 b5 = d6) :
    RdSpec l b ⟨d1, d2, n1, n2, n3, d6⟩ l6 b6 := by
  refine ⟨⟨q3 ▸ nuS_lt _ _, q4 ▸ nuS_lt _ _, q5 ▸ nuS_lt _ _⟩, fun hb hl => ?_, fun hl => ?_⟩
  · have f1 : b1 = false := e1 ▸ cutE_iff.2 ⟨hb, by omega⟩
    have g1 : l1 = l.drop 32 := h1 ▸ cutR_no (e1.trans f1)
    have f2 : b2 = false := e2 ▸ cutE_iff.2 ⟨f1, by rw [g1, List.length_drop]; omega⟩
    have g2 : l2 = l.drop 64 := by rw [← h2, cutR_no (e2.trans f2), g1, List.drop_drop]
    have f3 : b3 = false := e3 ▸ cutE_iff.2 ⟨f2, by rw [g2, List.length_drop]; omega⟩
    have g3 : l3 = l.drop 72 := by rw [← h3, cutR_no (e3.trans f3), g2, List.drop_drop]
    have f4 : b4 = false := e4 ▸ cutE_iff.2 ⟨f3, by rw [g3, List.length_drop]; omega⟩
    have g4 : l4 = l.drop 80 := by rw [← h4, cutR_no (e4.trans f4), g3, List.drop_drop]
    have f5 : b5 = false := e5 ▸ cutE_iff.2 ⟨f4, by rw [g4, List.length_drop]; omega⟩
    have g5 : l5 = l.drop 88 := by rw [← h5, cutR_no (e5.trans f5), g4, List.drop_drop]
    have f6 : b6 = false := e6 ▸ cutE_iff.2 ⟨f5, by rw [g5, List.length_drop]; omega⟩
    have g6 : l6 = l.drop 120 := by rw [← h6, cutR_no (e6.trans f6), g5, List.drop_drop]
    refine ⟨?_, g6, f6⟩
    unfold takenX
    rw [← q1, dgS_no (e1.trans f1), ← q2, dgS_no (e2.trans f2), g1, dgAt_drop, ← q3, nuS_no (e3.trans f3), g2, ← q4, nuS_no (e4.trans f4), g3, ← q5, nuS_no (e5.trans f5), g4, ← q6, dgS_no (e6.trans f6), g5, dgAt_drop]
  · rcases hb6 : b6 with _ | _
    · exfalso
      obtain ⟨f5, k6⟩ := cutE_iff.1 (e6.trans hb6)
      obtain ⟨f4, k5⟩ := cutE_iff.1 (e5.trans f5)
      obtain ⟨f3, k4⟩ := cutE_iff.1 (e4.trans f4)
      obtain ⟨f2, k3⟩ := cutE_iff.1 (e3.trans f3)
      obtain ⟨f1, k2⟩ := cutE_iff.1 (e2.trans f2)
      obtain ⟨f0, k1⟩ := cutE_iff.1 (e1.trans f1)
      rw [← h5, cutR_no (e5.trans f5), List.length_drop] at k6
      rw [← h4, cutR_no (e4.trans f4), List.length_drop] at k6 k5
      rw [← h3, cutR_no (e3.trans f3), List.length_drop] at k6 k5 k4
      rw [← h2, cutR_no (e2.trans f2), List.length_drop] at k6 k5 k4 k3
      rw [← h1, cutR_no (e1.trans f1), List.length_drop] at k6 k5 k4 k3 k2
      omega
    · rfl

/-! ### the box that is filled, field by field -/
theorem setA_p (x : Tx) (d : Dg) : setA (txC x).toArray 0 (d.1.map bv) = (txC { x with p := d }).toArray := by
  have h := setA_seg [] (x.p.1.map bv) (x.t.1.map bv ++ ([.int .u64 (x.n : Int), .int .u64 (x.a : Int), .int .u64 (x.f : Int)] ++ x.s.1.map bv)) (d.1.map bv) (by rw [len_dgv, len_dgv])
  have e1 : txC x = [] ++ (x.p.1.map bv ++ (x.t.1.map bv ++ ([.int .u64 (x.n : Int), .int .u64 (x.a : Int), .int .u64 (x.f : Int)] ++ x.s.1.map bv))) := by simp [txC, txS]
  have e2 : txC { x with p := d } = [] ++ (d.1.map bv ++ (x.t.1.map bv ++ ([.int .u64 (x.n : Int), .int .u64 (x.a : Int), .int .u64 (x.f : Int)] ++ x.s.1.map bv))) := by simp [txC, txS]
  rw [e1, e2]
  exact h
theorem setA_t (x : Tx) (d : Dg) : setA (txC x).toArray 32 (d.1.map bv) = (txC { x with t := d }).toArray := by
  have h := setA_seg (x.p.1.map bv) (x.t.1.map bv) ([.int .u64 (x.n : Int), .int .u64 (x.a : Int), .int .u64 (x.f : Int)] ++ x.s.1.map bv) (d.1.map bv) (by rw [len_dgv, len_dgv])
  rw [len_dgv] at h
  have e1 : txC x = x.p.1.map bv ++ (x.t.1.map bv ++ ([.int .u64 (x.n : Int), .int .u64 (x.a : Int), .int .u64 (x.f : Int)] ++ x.s.1.map bv)) := by simp [txC, txS]
  have e2 : txC { x with t := d } = x.p.1.map bv ++ (d.1.map bv ++ ([.int .u64 (x.n : Int), .int .u64 (x.a : Int), .int .u64 (x.f : Int)] ++ x.s.1.map bv)) := by simp [txC, txS]
  rw [e1, e2]
  exact h
theorem setA_n (x : Tx) (n : Nat) : (txC x).toArray.setIfInBounds 64 (.int .u64 (n : Int)) = (txC { x with n := n }).toArray := by
  have h := setA_seg (x.p.1.map bv ++ x.t.1.map bv) [.int .u64 (x.n : Int)] ([.int .u64 (x.a : Int), .int .u64 (x.f : Int)] ++ x.s.1.map bv) [.int .u64 (n : Int)] rfl
  rw [show (x.p.1.map bv ++ x.t.1.map bv).length = 64 by simp [x.p.2, x.t.2]] at h
  have e1 : txC x = (x.p.1.map bv ++ x.t.1.map bv) ++ ([.int .u64 (x.n : Int)] ++ ([.int .u64 (x.a : Int), .int .u64 (x.f : Int)] ++ x.s.1.map bv)) := by simp [txC, txS]
  have e2 : txC { x with n := n } = (x.p.1.map bv ++ x.t.1.map bv) ++ ([.int .u64 (n : Int)] ++ ([.int .u64 (x.a : Int), .int .u64 (x.f : Int)] ++ x.s.1.map bv)) := by simp [txC, txS]
  rw [e1, e2]
  exact h
theorem setA_a (x : Tx) (n : Nat) : (txC x).toArray.setIfInBounds 65 (.int .u64 (n : Int)) = (txC { x with a := n }).toArray := by
  have h := setA_seg (x.p.1.map bv ++ x.t.1.map bv ++ [.int .u64 (x.n : Int)]) [.int .u64 (x.a : Int)] ([.int .u64 (x.f : Int)] ++ x.s.1.map bv) [.int .u64 (n : Int)] rfl
  rw [show (x.p.1.map bv ++ x.t.1.map bv ++ [Value.int .u64 (x.n : Int)]).length = 65 by simp [x.p.2, x.t.2]] at h
  have e1 : txC x = (x.p.1.map bv ++ x.t.1.map bv ++ [.int .u64 (x.n : Int)]) ++ ([.int .u64 (x.a : Int)] ++ ([.int .u64 (x.f : Int)] ++ x.s.1.map bv)) := by simp [txC, txS]
  have e2 : txC { x with a := n } = (x.p.1.map bv ++ x.t.1.map bv ++ [.int .u64 (x.n : Int)]) ++ ([.int .u64 (n : Int)] ++ ([.int .u64 (x.f : Int)] ++ x.s.1.map bv)) := by simp [txC, txS]
  rw [e1, e2]
  exact h
theorem setA_f (x : Tx) (n : Nat) : (txC x).toArray.setIfInBounds 66 (.int .u64 (n : Int)) = (txC { x with f := n }).toArray := by
  have h := setA_seg (x.p.1.map bv ++ x.t.1.map bv ++ [.int .u64 (x.n : Int), .int .u64 (x.a : Int)]) [.int .u64 (x.f : Int)] (x.s.1.map bv) [.int .u64 (n : Int)] rfl
  rw [show (x.p.1.map bv ++ x.t.1.map bv ++ [Value.int .u64 (x.n : Int), .int .u64 (x.a : Int)]).length = 66 by simp [x.p.2, x.t.2]] at h
  have e1 : txC x = (x.p.1.map bv ++ x.t.1.map bv ++ [.int .u64 (x.n : Int), .int .u64 (x.a : Int)]) ++ ([.int .u64 (x.f : Int)] ++ x.s.1.map bv) := by simp [txC, txS]
  have e2 : txC { x with f := n } = (x.p.1.map bv ++ x.t.1.map bv ++ [.int .u64 (x.n : Int), .int .u64 (x.a : Int)]) ++ ([.int .u64 (n : Int)] ++ x.s.1.map bv) := by simp [txC, txS]
  rw [e1, e2]
  exact h
section
variable {P : Program} {ops : Array Oper} {o : Oper} {a : Act} {w : World} {K : Act → World → Prop} {Q : Exit → Act → World → Prop} {X : Prop}
theorem step_store_oneB (hgd : o.guard = none) (ty : TypeId) (x y : Operand) (ho : o.op = .store ty x y)
    (g f : Nat) (v : Value) (cur : Array Value) (t : TypeId) (hx : a.eval x = .pointer (some ⟨g, f, none⟩)) (hy : a.eval y = v) (hv : v.cells = #[v]) (h1 : v.oneCell' = true) (hg : w.heap[g]? = some (.cells cur t (0, 0))) (hf : f < cur.size) (hi : (P.info? ty).map (·.size) = some 1)
    (h : ∀ w', w'.heap[g]? = some (.cells (cur.setIfInBounds f v) t (0, 0)) → Chg (fun b => b = g) w w' → K (a.put o.dst undef) w') : if Region.wanted o (yielded ops a.tmps) = true then Oper.wp P o a w K Q else X := by
  rw [if_pos (by simp [Region.wanted, hgd])]
  unfold Oper.wp execOp
  simp only [ho, hx, hy, Instr.storeAt, Instr.sureAddr, Sem.run_bind, Sem.run_pure, Result.andThen_ok, run_storeVar_one w g f ty v hv h1 (there_of_block hg f 1 (by omega)) hi]
  exact h _ (setCells_block [v] f w cur hg) (chg_cells g f [v] w)
theorem step_store_manyB (hgd : o.guard = none) (ty : TypeId) (x y : Operand) (ho : o.op = .store ty x y)
    (g f : Nat) (cs : List Value) (cur : Array Value) (t : TypeId) (hx : a.eval x = .pointer (some ⟨g, f, none⟩)) (hy : a.eval y = .agg cs.toArray) (hg : w.heap[g]? = some (.cells cur t (0, 0))) (hfit : f + cs.length ≤ cur.size)
    (hi : (P.info? ty).map (·.size) = some cs.length) (h1 : cs.toArray.all (·.oneCell') = true)
    (h : ∀ w', w'.heap[g]? = some (.cells (setA cur f cs) t (0, 0)) → Chg (fun b => b = g) w w' → K (a.put o.dst undef) w') : if Region.wanted o (yielded ops a.tmps) = true then Oper.wp P o a w K Q else X := by
  rw [if_pos (by simp [Region.wanted, hgd])]
  exact wp_store_mid ty x y ho g f cs.toArray hx hy (there_of_block hg f _ (by rw [List.size_toArray]; exact hfit)) (by rw [List.size_toArray]; exact hi) h1 (h _ (setCells_block cs f w cur hg) (chg_cells g f cs w))
end
/-- The reader, the answer's box (still zero) and that of the transaction which is being read. -/
structure AtX (B g : Nat) (w W : World) (l : List UInt8) (b : Bool) (x : Tx) : Prop where
  rdr : RdrAt B W g l b
  res : W.heap[w.heap.size]? = some (.cells zTxC 26 (0, 0))
  box : W.heap[w.heap.size + 1]? = some (.cells (txC x).toArray 26 (0, 0))
  chg : Chg (fun y => y = g ∨ w.heap.size ≤ y) w W
  low : B ≤ w.heap.size
theorem AtX.drew {B g : Nat} {w W : World} {l : List UInt8} {b : Bool} {x : Tx} (h : AtX B g w W l b x) : AtX B g w W.drew l b x :=
  ⟨h.rdr.bel ((bel_drew W).mono h.rdr.1), h.res, h.box, h.chg.trans (Chg.of_bel (bel_drew W)), h.low⟩
theorem AtX.call {B g : Nat} {w W W' : World} {l l' : List UInt8} {b b' : Bool} {x : Tx} (h : AtX B g w W l b x) (hr : RdrAt B W' g l' b') (hc : Chg (fun y => y = g) W W') : AtX B g w W' l' b' x :=
  ⟨hr, (hc.block _ (block_lt h.res) (by have := h.rdr.2.1; have := h.low; omega)).trans h.res, (hc.block _ (block_lt h.box) (by have := h.rdr.2.1; have := h.low; omega)).trans h.box, h.chg.trans (hc.mono fun _ _ e => .inl e), h.low⟩
theorem AtX.store {B g : Nat} {w W W' : World} {l : List UInt8} {b : Bool} {x x' : Tx} (h : AtX B g w W l b x) (hb : W'.heap[w.heap.size + 1]? = some (.cells (txC x').toArray 26 (0, 0))) (hc : Chg (fun y => y = w.heap.size + 1) W W') : AtX B g w W' l b x' :=
  ⟨h.rdr.bel (hc.below h.rdr.1 fun y hy e => by have := h.low; omega), (hc.block _ (block_lt h.res) (by omega)).trans h.res, hb, h.chg.trans (hc.mono fun y _ e => .inr (by omega)), h.low⟩
theorem fitX (x : Tx) (o n : Nat) (h : o + n ≤ 99) : o + n ≤ (txC x).toArray.size := by rw [List.size_toArray, len_tx]; exact h
set_option maxHeartbeats 4000000 in
theorem PTxRdTx_any (B g : Nat) (l : List UInt8) (b : Bool) (w : World) (h : RdrAt B w g l b) :
    Calls Tryd.prog 26 #[.pointer (some ⟨g, 0, none⟩)] w fun e w' => ∃ x lr br, e = .returned (.agg (txC x).toArray) ∧ RdSpec l b x lr br ∧ RdrAt B w' g lr br ∧ Chg (fun y => y = g) w w' := by
  have hu := Tryd.underlying23
  have hux := Tryd.underlying26
  have h0 := heap_alloc_new w (.cells zTxC 26)
  have b0 := ext_alloc w (.cells zTxC 26)
  have h1 := heap_alloc_new (w.alloc (.cells zTxC 26)) (.cells zTxC 26)
  have b1 := ext_alloc (w.alloc (.cells zTxC 26)) (.cells zTxC 26)
  rw [World.size_alloc] at h1
  have W1 := b0.trans (b1.mono b0.size)
  have T0 : Hid (AtX B g w ((w.alloc (.cells zTxC 26)).alloc (.cells zTxC 26)) l b zX) := hid ⟨h.bel (W1.mono h.1), (b1.block _ (block_lt h0)).trans h0, h1, Chg.of_bel W1, h.1⟩
  clear h0 h1 b0 b1 W1 h
  obtain ⟨l1, hl1⟩ : ∃ y, cutR 32 l b = y := ⟨_, rfl⟩
  obtain ⟨b1, hb1⟩ : ∃ y, cutE 32 l b = y := ⟨_, rfl⟩
  obtain ⟨d1, hd1⟩ : ∃ y, dgS l b = y := ⟨_, rfl⟩
  have C1 := hid (fun W (h : RdrAt B W g l b) => PTxRdDig_any B g l b W h)
  rw [hl1, hb1, hd1] at C1
  obtain ⟨l2, hl2⟩ : ∃ y, cutR 32 l1 b1 = y := ⟨_, rfl⟩
  obtain ⟨b2, hb2⟩ : ∃ y, cutE 32 l1 b1 = y := ⟨_, rfl⟩
  obtain ⟨d2, hd2⟩ : ∃ y, dgS l1 b1 = y := ⟨_, rfl⟩
  have C2 := hid (fun W (h : RdrAt B W g l1 b1) => PTxRdDig_any B g l1 b1 W h)
  rw [hl2, hb2, hd2] at C2
  obtain ⟨l3, hl3⟩ : ∃ y, cutR 8 l2 b2 = y := ⟨_, rfl⟩
  obtain ⟨b3, hb3⟩ : ∃ y, cutE 8 l2 b2 = y := ⟨_, rfl⟩
  obtain ⟨n1, hn1⟩ : ∃ y, nuS l2 b2 = y := ⟨_, rfl⟩
  have C3 := hid (fun W (h : RdrAt B W g l2 b2) => PTxRdNum_any B g l2 b2 W h)
  rw [hl3, hb3, hn1] at C3
  obtain ⟨l4, hl4⟩ : ∃ y, cutR 8 l3 b3 = y := ⟨_, rfl⟩
  obtain ⟨b4, hb4⟩ : ∃ y, cutE 8 l3 b3 = y := ⟨_, rfl⟩
  obtain ⟨n2, hn2⟩ : ∃ y, nuS l3 b3 = y := ⟨_, rfl⟩
  have C4 := hid (fun W (h : RdrAt B W g l3 b3) => PTxRdNum_any B g l3 b3 W h)
  rw [hl4, hb4, hn2] at C4
  obtain ⟨l5, hl5⟩ : ∃ y, cutR 8 l4 b4 = y := ⟨_, rfl⟩
  obtain ⟨b5, hb5⟩ : ∃ y, cutE 8 l4 b4 = y := ⟨_, rfl⟩
  obtain ⟨n3, hn3⟩ : ∃ y, nuS l4 b4 = y := ⟨_, rfl⟩
  have C5 := hid (fun W (h : RdrAt B W g l4 b4) => PTxRdNum_any B g l4 b4 W h)
  rw [hl5, hb5, hn3] at C5
  obtain ⟨l6, hl6⟩ : ∃ y, cutR 32 l5 b5 = y := ⟨_, rfl⟩
  obtain ⟨b6, hb6⟩ : ∃ y, cutE 32 l5 b5 = y := ⟨_, rfl⟩
  obtain ⟨d6, hd6⟩ : ∃ y, dgS l5 b5 = y := ⟨_, rfl⟩
  have C6 := hid (fun W (h : RdrAt B W g l5 b5) => PTxRdDig_any B g l5 b5 W h)
  rw [hl6, hb6, hd6] at C6
  have spec := hid (rd_spec hl1 hb1 hl2 hb2 hl3 hb3 hl4 hb4 hl5 hb5 hl6 hb6 hd1 hd2 hn1 hn2 hn3 hd6)
  clear hl1 hb1 hl2 hb2 hl3 hb3 hl4 hb4 hl5 hb5 hl6 hb6 hd1 hd2 hn1 hn2 hn3 hd6
  have iu := hid (show (Tryd.prog.info? 24).map (·.size) = some 1 by kernel_rfl)
  obtain ⟨x1, hx1⟩ : ∃ x, (⟨d1, zX.t, 0, 0, 0, zX.s⟩ : Tx) = x := ⟨_, rfl⟩
  obtain ⟨x2, hx2⟩ : ∃ x, (⟨d1, d2, 0, 0, 0, zX.s⟩ : Tx) = x := ⟨_, rfl⟩
  obtain ⟨x3, hx3⟩ : ∃ x, (⟨d1, d2, n1, 0, 0, zX.s⟩ : Tx) = x := ⟨_, rfl⟩
  obtain ⟨x4, hx4⟩ : ∃ x, (⟨d1, d2, n1, n2, 0, zX.s⟩ : Tx) = x := ⟨_, rfl⟩
  obtain ⟨x5, hx5⟩ : ∃ x, (⟨d1, d2, n1, n2, n3, zX.s⟩ : Tx) = x := ⟨_, rfl⟩
  obtain ⟨x6, hx6⟩ : ∃ x, (⟨d1, d2, n1, n2, n3, d6⟩ : Tx) = x := ⟨_, rfl⟩
  have P1 : Hid (setA (txC zX).toArray 0 (d1.1.map bv) = (txC x1).toArray) := by rw [← hx1]; exact setA_p _ d1
  have P2 : Hid (setA (txC x1).toArray 32 (d2.1.map bv) = (txC x2).toArray) := by rw [← hx1, ← hx2]; exact setA_t _ d2
  have P3 : Hid ((txC x2).toArray.setIfInBounds 64 (.int .u64 (n1 : Int)) = (txC x3).toArray) := by rw [← hx2, ← hx3]; exact setA_n _ n1
  have P4 : Hid ((txC x3).toArray.setIfInBounds 65 (.int .u64 (n2 : Int)) = (txC x4).toArray) := by rw [← hx3, ← hx4]; exact setA_a _ n2
  have P5 : Hid ((txC x4).toArray.setIfInBounds 66 (.int .u64 (n3 : Int)) = (txC x5).toArray) := by rw [← hx4, ← hx5]; exact setA_f _ n3
  have P6 : Hid (setA (txC x5).toArray 67 (d6.1.map bv) = (txC x6).toArray) := by rw [← hx5, ← hx6]; exact setA_sign _ d6
  rw [hx6] at spec
  have s1 := hid (sizeDxL d1)
  have s2 := hid (sizeDxL d2)
  have s6 := hid (sizeDxL d6)
  have o1 := hid (oneDx d1)
  have o2 := hid (oneDx d2)
  have o6 := hid (oneDx d6)
  have k1 := hid (len_dgv d1)
  have k2 := hid (len_dgv d2)
  have k6 := hid (len_dgv d6)
  have jx := hid (sizeTx x6)
  have jz := hid (sizeTxA x6)
  have ez := hid (zSizeTx x6)
  have oz := hid (one_tx x6)
  generalize d1.1.map bv = cd1 at *
  generalize d2.1.map bv = cd2 at *
  generalize d6.1.map bv = cd6 at *
  clear hx1 hx2 hx3 hx4 hx5 hx6
  go_enter Tryd.func26, Tryd.ntmps26
  go_wp2_with (first
    | (with_reducible refine wpList_alloc_row rfl 26 rfl zTxC zInfoTx ?_))
  simp only [World.size_alloc]
  generalize (w.alloc (.cells zTxC 26)).alloc (.cells zTxC 26) = w2 at *
  have T2 := hid T0.out.drew
  clear T0
  refine wp_region_noPanic ?_
  refine wp_region_held_drew (S := fun _ => True) (by kernel_rfl) ?_ (fun hHeld => ?_)
  · exact trivial
  refine' wpAnyH_take (i := 0) (oi := _) (v := ?_) rfl (by kernel_rfl) (by kernel_rfl) (by kernel_rfl) (fun _ _ _ h => h) (Or.inl ⟨by rfl, ?_⟩) (by assumption) ?_
  rotate_left
  · intro W hSw
    go_simp
    first | done | (with_reducible rfl)
  try simp only [Act.put, sQa, sQb, sQc, gQa, gQb, gQc]
  refine' wpAnyH_take (i := 1) (oi := _) (v := ?_) rfl (by kernel_rfl) (by kernel_rfl) (by kernel_rfl) (fun _ _ _ h => h) (Or.inl ⟨by rfl, ?_⟩) (by assumption) ?_
  rotate_left
  · intro W hSw
    go_simp
    first | done | (with_reducible rfl)
  try simp only [Act.put, sQa, sQb, sQc, gQa, gQb, gQc]
  refine' wpAnyH_take (i := 2) (oi := _) (v := ?_) rfl (by kernel_rfl) (by kernel_rfl) (by kernel_rfl) (fun _ _ _ h => h) (Or.inl ⟨by rfl, ?_⟩) (by assumption) ?_
  rotate_left
  · intro W hSw
    go_simp
    first | done | (with_reducible rfl)
  try simp only [Act.put, sQa, sQb, sQc, gQa, gQb, gQc]
  refine' wpAnyH_take (i := 4) (oi := _) (v := ?_) rfl (by kernel_rfl) (by kernel_rfl) (by kernel_rfl) (fun _ _ _ h => h) (Or.inl ⟨by rfl, ?_⟩) (by assumption) ?_
  rotate_left
  · intro W hSw
    go_simp
    first | done | (with_reducible rfl)
  try simp only [Act.put, sQa, sQb, sQc, gQa, gQb, gQc]
  refine' wpAnyH_take (i := 5) (oi := _) (v := ?_) rfl (by kernel_rfl) (by kernel_rfl) (by kernel_rfl) (fun _ _ _ h => h) (Or.inl ⟨by rfl, ?_⟩) (by assumption) ?_
  rotate_left
  · intro W hSw
    go_simp
    first | done | (with_reducible rfl)
  try simp only [Act.put, sQa, sQb, sQc, gQa, gQb, gQc]
  refine' wpAnyH_take (i := 6) (oi := _) (v := ?_) rfl (by kernel_rfl) (by kernel_rfl) (by kernel_rfl) (fun _ _ _ h => h) (Or.inl ⟨by rfl, ?_⟩) (by assumption) ?_
  rotate_left
  · intro W hSw
    go_simp
    first | done | (with_reducible rfl)
  try simp only [Act.put, sQa, sQb, sQc, gQa, gQb, gQc]
  refine wpAnyH_ready (rs := [3]) (by kernel_rfl) (by simp) ?_
  refine AllReadyH.cons (o := _) rfl (fun K hK => ?_) AllReadyH.nil
  go_simp
  refine (C1.out _ T2.out.rdr).mono ?_
  rintro e v3 ⟨rfl, D, X⟩
  have T3 := hid (T2.out.call D X)
  clear D X
  go_wp2_with fail
  refine hK.out _ _ ?_ (fun hHeld => ?_)
  · exact trivial
  clear hK K
  try simp only [Act.put, sQa, sQb, sQc, gQa, gQb, gQc]
  refine' wpAnyH_take (i := 8) (oi := _) (v := ?_) rfl (by kernel_rfl) (by kernel_rfl) (by kernel_rfl) (fun _ _ _ h => h) (Or.inl ⟨by rfl, ?_⟩) (by assumption) ?_
  rotate_left
  · intro W hSw
    go_simp
    first | done | (with_reducible rfl)
  try simp only [Act.put, sQa, sQb, sQc, gQa, gQb, gQc]
  refine wpAnyH_ready (rs := [7]) (by kernel_rfl) (by simp) ?_
  refine AllReadyH.cons (o := _) rfl (fun K hK => ?_) AllReadyH.nil
  go_simp
  refine (C2.out _ T3.out.rdr).mono ?_
  rintro e v7 ⟨rfl, D, X⟩
  have T7 := hid (T3.out.call D X)
  clear D X
  go_wp2_with fail
  refine hK.out _ _ ?_ (fun hHeld => ?_)
  · exact trivial
  clear hK K
  try simp only [Act.put, sQa, sQb, sQc, gQa, gQb, gQc]
  refine wpAnyH_ready (rs := [9]) (by kernel_rfl) (by simp) ?_
  refine AllReadyH.cons (o := _) rfl (fun K hK => ?_) AllReadyH.nil
  refine step_store_manyB rfl 23 (.tmp 12) (.tmp 7) rfl (w.heap.size + 1) 0 cd1 _ _ rfl rfl T7.out.box (fitX _ _ _ (by rw [k1.out]; decide)) s1.out o1.out ?_
  intro v9 hS cS
  have T9 := hid (T7.out.store (x' := x1) (by rw [← P1.out]; exact hS) cS)
  clear hS cS
  refine hK.out _ _ ?_ (fun hHeld => ?_)
  · exact trivial
  clear hK K
  try simp only [Act.put, sQa, sQb, sQc, gQa, gQb, gQc]
  refine' wpAnyH_take (i := 10) (oi := _) (v := ?_) rfl (by kernel_rfl) (by kernel_rfl) (by kernel_rfl) (fun _ _ _ h => h) (Or.inl ⟨by rfl, ?_⟩) (by assumption) ?_
  rotate_left
  · intro W hSw
    go_simp
    first | done | (with_reducible rfl)
  try simp only [Act.put, sQa, sQb, sQc, gQa, gQb, gQc]
  refine wpAnyH_ready (rs := [11]) (by kernel_rfl) (by simp) ?_
  refine AllReadyH.cons (o := _) rfl (fun K hK => ?_) AllReadyH.nil
  refine step_store_manyB rfl 23 (.tmp 13) (.tmp 11) rfl (w.heap.size + 1) 32 cd2 _ _ rfl rfl T9.out.box (fitX _ _ _ (by rw [k2.out]; decide)) s2.out o2.out ?_
  intro v11 hS cS
  have T11 := hid (T9.out.store (x' := x2) (by rw [← P2.out]; exact hS) cS)
  clear hS cS
  refine hK.out _ _ ?_ (fun hHeld => ?_)
  · exact trivial
  clear hK K
  try simp only [Act.put, sQa, sQb, sQc, gQa, gQb, gQc]
  refine wpAnyH_done (by kernel_rfl) ?_ _
  refine NoPanic.normal ?_
  clear T2 T3 T7 T9 hHeld
  have T12 := hid T11.out.drew
  clear T11
  go_wp2
  refine wp_region_noPanic ?_
  refine wp_region_held_drew (S := fun _ => True) (by kernel_rfl) ?_ (fun hHeld => ?_)
  · exact trivial
  refine' wpAnyH_take (i := 0) (oi := _) (v := ?_) rfl (by kernel_rfl) (by kernel_rfl) (by kernel_rfl) (fun _ _ _ h => h) (Or.inl ⟨by rfl, ?_⟩) (by assumption) ?_
  rotate_left
  · intro W hSw
    go_simp
    first | done | (with_reducible rfl)
  try simp only [Act.put, sQa, sQb, sQc, gQa, gQb, gQc]
  refine' wpAnyH_take (i := 1) (oi := _) (v := ?_) rfl (by kernel_rfl) (by kernel_rfl) (by kernel_rfl) (fun _ _ _ h => h) (Or.inl ⟨by rfl, ?_⟩) (by assumption) ?_
  rotate_left
  · intro W hSw
    go_simp
    first | done | (with_reducible rfl)
  try simp only [Act.put, sQa, sQb, sQc, gQa, gQb, gQc]
  refine' wpAnyH_take (i := 2) (oi := _) (v := ?_) rfl (by kernel_rfl) (by kernel_rfl) (by kernel_rfl) (fun _ _ _ h => h) (Or.inl ⟨by rfl, ?_⟩) (by assumption) ?_
  rotate_left
  · intro W hSw
    go_simp
    first | done | (with_reducible rfl)
  try simp only [Act.put, sQa, sQb, sQc, gQa, gQb, gQc]
  refine' wpAnyH_take (i := 4) (oi := _) (v := ?_) rfl (by kernel_rfl) (by kernel_rfl) (by kernel_rfl) (fun _ _ _ h => h) (Or.inl ⟨by rfl, ?_⟩) (by assumption) ?_
  rotate_left
  · intro W hSw
    go_simp
    first | done | (with_reducible rfl)
  try simp only [Act.put, sQa, sQb, sQc, gQa, gQb, gQc]
  refine' wpAnyH_take (i := 5) (oi := _) (v := ?_) rfl (by kernel_rfl) (by kernel_rfl) (by kernel_rfl) (fun _ _ _ h => h) (Or.inl ⟨by rfl, ?_⟩) (by assumption) ?_
  rotate_left
  · intro W hSw
    go_simp
    first | done | (with_reducible rfl)
  try simp only [Act.put, sQa, sQb, sQc, gQa, gQb, gQc]
  refine' wpAnyH_take (i := 6) (oi := _) (v := ?_) rfl (by kernel_rfl) (by kernel_rfl) (by kernel_rfl) (fun _ _ _ h => h) (Or.inl ⟨by rfl, ?_⟩) (by assumption) ?_
  rotate_left
  · intro W hSw
    go_simp
    first | done | (with_reducible rfl)
  try simp only [Act.put, sQa, sQb, sQc, gQa, gQb, gQc]
  refine' wpAnyH_take (i := 8) (oi := _) (v := ?_) rfl (by kernel_rfl) (by kernel_rfl) (by kernel_rfl) (fun _ _ _ h => h) (Or.inl ⟨by rfl, ?_⟩) (by assumption) ?_
  rotate_left
  · intro W hSw
    go_simp
    first | done | (with_reducible rfl)
  try simp only [Act.put, sQa, sQb, sQc, gQa, gQb, gQc]
  refine' wpAnyH_take (i := 9) (oi := _) (v := ?_) rfl (by kernel_rfl) (by kernel_rfl) (by kernel_rfl) (fun _ _ _ h => h) (Or.inl ⟨by rfl, ?_⟩) (by assumption) ?_
  rotate_left
  · intro W hSw
    go_simp
    first | done | (with_reducible rfl)
  try simp only [Act.put, sQa, sQb, sQc, gQa, gQb, gQc]
  refine' wpAnyH_take (i := 10) (oi := _) (v := ?_) rfl (by kernel_rfl) (by kernel_rfl) (by kernel_rfl) (fun _ _ _ h => h) (Or.inl ⟨by rfl, ?_⟩) (by assumption) ?_
  rotate_left
  · intro W hSw
    go_simp
    first | done | (with_reducible rfl)
  try simp only [Act.put, sQa, sQb, sQc, gQa, gQb, gQc]
  refine wpAnyH_ready (rs := [3]) (by kernel_rfl) (by simp) ?_
  refine AllReadyH.cons (o := _) rfl (fun K hK => ?_) AllReadyH.nil
  go_simp
  refine (C3.out _ T12.out.rdr).mono ?_
  rintro e y3 ⟨rfl, D, X⟩
  have U3 := hid (T12.out.call D X)
  clear D X
  go_wp2_with fail
  refine hK.out _ _ ?_ (fun hHeld => ?_)
  · exact trivial
  clear hK K
  try simp only [Act.put, sQa, sQb, sQc, gQa, gQb, gQc]
  refine' wpAnyH_take (i := 12) (oi := _) (v := ?_) rfl (by kernel_rfl) (by kernel_rfl) (by kernel_rfl) (fun _ _ _ h => h) (Or.inl ⟨by rfl, ?_⟩) (by assumption) ?_
  rotate_left
  · intro W hSw
    go_simp
    first | done | (with_reducible rfl)
  try simp only [Act.put, sQa, sQb, sQc, gQa, gQb, gQc]
  refine wpAnyH_ready (rs := [7]) (by kernel_rfl) (by simp) ?_
  refine AllReadyH.cons (o := _) rfl (fun K hK => ?_) AllReadyH.nil
  go_simp
  refine (C4.out _ U3.out.rdr).mono ?_
  rintro e y7 ⟨rfl, D, X⟩
  have U7 := hid (U3.out.call D X)
  clear D X
  go_wp2_with fail
  refine hK.out _ _ ?_ (fun hHeld => ?_)
  · exact trivial
  clear hK K
  try simp only [Act.put, sQa, sQb, sQc, gQa, gQb, gQc]
  refine wpAnyH_ready (rs := [11]) (by kernel_rfl) (by simp) ?_
  refine AllReadyH.cons (o := _) rfl (fun K hK => ?_) AllReadyH.nil
  go_simp
  refine (C5.out _ U7.out.rdr).mono ?_
  rintro e y11 ⟨rfl, D, X⟩
  have U11 := hid (U7.out.call D X)
  clear D X
  go_wp2_with fail
  refine hK.out _ _ ?_ (fun hHeld => ?_)
  · exact trivial
  clear hK K
  try simp only [Act.put, sQa, sQb, sQc, gQa, gQb, gQc]
  refine wpAnyH_ready (rs := [13]) (by kernel_rfl) (by simp) ?_
  refine AllReadyH.cons (o := _) rfl (fun K hK => ?_) AllReadyH.nil
  refine step_store_oneB rfl 24 (.tmp 26) (.tmp 17) rfl (w.heap.size + 1) 64 (.int .u64 (n1 : Int)) _ _ rfl rfl rfl rfl U11.out.box (fitX _ 64 1 (by decide)) iu.out ?_
  intro y13 hS cS
  have U13 := hid (U11.out.store (x' := x3) (by rw [← P3.out]; exact hS) cS)
  clear hS cS
  refine hK.out _ _ ?_ (fun hHeld => ?_)
  · exact trivial
  clear hK K
  try simp only [Act.put, sQa, sQb, sQc, gQa, gQb, gQc]
  refine' wpAnyH_take (i := 14) (oi := _) (v := ?_) rfl (by kernel_rfl) (by kernel_rfl) (by kernel_rfl) (fun _ _ _ h => h) (Or.inl ⟨by rfl, ?_⟩) (by assumption) ?_
  rotate_left
  · intro W hSw
    go_simp
    first | done | (with_reducible rfl)
  try simp only [Act.put, sQa, sQb, sQc, gQa, gQb, gQc]
  refine wpAnyH_ready (rs := [15]) (by kernel_rfl) (by simp) ?_
  refine AllReadyH.cons (o := _) rfl (fun K hK => ?_) AllReadyH.nil
  refine step_store_oneB rfl 24 (.tmp 27) (.tmp 21) rfl (w.heap.size + 1) 65 (.int .u64 (n2 : Int)) _ _ rfl rfl rfl rfl U13.out.box (fitX _ 65 1 (by decide)) iu.out ?_
  intro y15 hS cS
  have U15 := hid (U13.out.store (x' := x4) (by rw [← P4.out]; exact hS) cS)
  clear hS cS
  refine hK.out _ _ ?_ (fun hHeld => ?_)
  · exact trivial
  clear hK K
  try simp only [Act.put, sQa, sQb, sQc, gQa, gQb, gQc]
  refine' wpAnyH_take (i := 16) (oi := _) (v := ?_) rfl (by kernel_rfl) (by kernel_rfl) (by kernel_rfl) (fun _ _ _ h => h) (Or.inl ⟨by rfl, ?_⟩) (by assumption) ?_
  rotate_left
  · intro W hSw
    go_simp
    first | done | (with_reducible rfl)
  try simp only [Act.put, sQa, sQb, sQc, gQa, gQb, gQc]
  refine wpAnyH_ready (rs := [17]) (by kernel_rfl) (by simp) ?_
  refine AllReadyH.cons (o := _) rfl (fun K hK => ?_) AllReadyH.nil
  refine step_store_oneB rfl 24 (.tmp 28) (.tmp 25) rfl (w.heap.size + 1) 66 (.int .u64 (n3 : Int)) _ _ rfl rfl rfl rfl U15.out.box (fitX _ 66 1 (by decide)) iu.out ?_
  intro y17 hS cS
  have U17 := hid (U15.out.store (x' := x5) (by rw [← P5.out]; exact hS) cS)
  clear hS cS
  refine hK.out _ _ ?_ (fun hHeld => ?_)
  · exact trivial
  clear hK K
  try simp only [Act.put, sQa, sQb, sQc, gQa, gQb, gQc]
  refine wpAnyH_done (by kernel_rfl) ?_ _
  refine NoPanic.normal ?_
  clear T12 U3 U7 U11 U13 U15 hHeld
  go_wp2_with fail
  refine (C6.out _ U17.out.rdr).mono ?_
  rintro e z1 ⟨rfl, D, X⟩
  have V1 := hid (U17.out.call D X)
  clear D X U17
  have V1b := hid V1.out.box
  have hfit := hid (fitX x5 67 cd6.length (by rw [k6.out]; decide))
  go_wp2_with (first
    | ((with_reducible refine wpList_store_manyB rfl 23 (.tmp 33) (.tmp 32) rfl (w.heap.size + 1) 67 cd6 (txC x5).toArray 26 rfl rfl ?_ ?_ ?_ ?_ ?_); exact V1b.out; exact hfit.out; exact s6.out; exact o6.out; intro z2 hS cS; rw [P6.out] at hS; have V2 := hid (V1.out.store (x' := x6) hS cS); have Y2 := hid (rangeOf hS); have R2 := hid V2.out.res; clear hS cS)
    | ((with_reducible refine wpList_load_rng rfl 26 (.tmp 3) rfl (w.heap.size + 1) 0 rfl (txC x6) _ ?_ hux rfl jx.out ?_); exact Y2.out)
    | ((with_reducible refine wpList_store_row rfl 26 (.tmp 2) (.tmp 34) rfl w.heap.size _ rfl rfl 26 zTxC ?_ ?_ ?_ ?_ ?_); exact R2.out; exact jz.out; exact ez.out; exact oz.out; intro w6 hg6 hb6 hs6))
  refine bodyPost_ret (v := .agg (txC x6).toArray) ?_ rfl ⟨x6, l6, b6, rfl, spec.out, ?_, ?_⟩
  · exact results_cell_row Tryd.results26 _ _ w.heap.size 26 _ (0, 0) _ rfl hg6 hux rfl jz.out
  · exact V2.out.rdr.bel ((Below.refl B z2).grown hb6 V2.out.rdr.1 (fun k e => by injection e with e; have := V2.out.low; omega))
  · refine Chg.mono (F := fun x => x = g ∨ w.heap.size ≤ x) (V2.out.chg.trans ⟨hb6.os, hb6.tape, hb6.output, hb6.size, fun x hx hn => hb6.block x hx (fun e => hn (.inr (by injection e with e; omega)))⟩) (fun x hx h => ?_)
    rcases h with h | h
    · exact h
    · omega
end Go.Proofs.YtaegdiggmgifiaaDoor
