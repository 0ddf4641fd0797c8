/-
  Contracts of the landed package tree: Pairs, a range over the iterator of a trie's pairs.
-/
import Derived.Test.YtcifncmfjlbhjaaDoorTreeMa
import Derived.Test.YtcifncmfjlbhjaaDoorTrA
import Derived.Test.YtcifncmfjlbhjaaDoorBits
import Derived.Test.YtcifncmfjlbhjaaDoorTrB
import Derived.Test.YtcifncmfjlbhjaaDoorMem
namespace Go.Proofs.YtcifncmfjlbhjaaDoor
open Go.RowKit Go.Shelf
set_option linter.unusedVariables false
set_option linter.unusedSimpArgs false
set_option maxRecDepth 100000
attribute [local go_sem] Oper.semAt_some

theorem ownQ_other {α : Type} [Enc α] {E : TypeId} {W W' : World} {B0 B : Nat} {A : Option Addr} {c : Nat} {xs : List α} {row : Option Nat} (h : OwnQ E W B0 B A c xs) (hg : W.grownBy W' row) (hr : ∀ r, row = some r → ∃ o : Obj, W.heap[r]? = some o ∧ o.isCells = false) : OwnQ E W' B0 B A c xs := by
  obtain ⟨F, h1, h2⟩ := h
  refine ⟨F, h1.kept (fun a ha hl => ?_) (fun b hb hl => ?_), fun b hb => ⟨(h2 b hb).1, (h2 b hb).2.kept ?_⟩⟩
  · obtain ⟨cur, e, hc⟩ := h1.form a ha
    exact hg.block _ hl (apart_cells hc hr)
  · obtain ⟨cs, t, hc⟩ := (h2 b hb).2
    exact hg.block b hl (apart_cells hc hr)
  · obtain ⟨cs, t, hc⟩ := (h2 b hb).2
    exact hg.block b (block_lt hc) (apart_cells hc hr)
theorem OwnQ.setG {α : Type} [Enc α] {E : TypeId} {W : World} {B0 B g : Nat} {A : Option Addr} {c : Nat} {xs : List α} (h : OwnQ E W B0 B A c xs) (h0 : g < B0) (h1 : g < B) (u : Value) : OwnQ E (W.setCell ⟨g, 0, none⟩ u) B0 B A c xs := by
  obtain ⟨F, k1, k2⟩ := h
  have hk : ∀ b, b ≠ g → (W.setCell ⟨g, 0, none⟩ u).heap[b]? = W.heap[b]? := fun b hne => Below.heap_setCell _ _ _ _ hne
  exact ⟨F, k1.kept (fun a ha _ => hk _ (fun e => by have := (k1.blk a ha).1; omega)) (fun b hb _ => hk b (fun e => by have := (k2 b hb).1; omega)), fun b hb => ⟨(k2 b hb).1, (k2 b hb).2.kept (hk b (fun e => by have := (k2 b hb).1; omega))⟩⟩

section
variable {F : Fence} {n : Nat} {P : Program}
theorem wpIn_of_run {o : Oper} {a : Act} {w w' : World} {v : Value} {K : Act → World → Prop} {Q : Exit → Act → World → Prop} (hd : ∀ c, o.op ≠ .defer c) (ha : o.about P w a.eval = none)
    (hrun : (execOp a.eval o).run P w = .ok (.value v) w') (h : K (a.put o.dst v) w') : Oper.wpIn F n P o a w K Q := by
  refine ⟨fun f hf => (by rw [ha] at hf; cases hf), ?_⟩
  rw [Oper.semAt_plain F _ _ hd, hrun]
  exact h
theorem wpIn_of_skip {o : Oper} {a : Act} {w w' : World} {K : Act → World → Prop} {Q : Exit → Act → World → Prop} (hd : ∀ c, o.op ≠ .defer c) (ha : o.about P w a.eval = none)
    (hrun : (execOp a.eval o).run P w = .ok .skip w') (h : K (a.put o.dst undef) w') : Oper.wpIn F n P o a w K Q := by
  refine ⟨fun f hf => (by rw [ha] at hf; cases hf), ?_⟩
  rw [Oper.semAt_plain F _ _ hd, hrun]
  exact h
theorem wpListIn_alloc_row {ops : Array Oper} {rest : List Oper} {o : Oper} {a : Act} {w : World} {Q : Exit → Act → World → Prop} (hg : o.guard = none) (ty : TypeId) (ho : o.op = .alloc ty)
    (zs : Array Value) (hz : (P.info? ty).map (fun i => (i.zero, i.size)) = some (some (.agg zs), zs.size))
    (h : wpListIn F n P ops Q rest (a.put o.dst (.pointer (some ⟨w.heap.size, 0, none⟩))) (w.alloc (.cells zs ty))) : wpListIn F n P ops Q (o :: rest) a w := by
  refine wpListIn_plain hg fun K hK => ?_
  have hq : ∃ i, P.info? ty = some i ∧ i.zero = some (.agg zs) := by
    cases hq : P.info? ty with
    | none => simp [hq] at hz
    | some i => simp [hq] at hz; exact ⟨i, rfl, hz.1⟩
  obtain ⟨i, hi, hzz⟩ := hq
  refine wpIn_of_run (by rw [ho]; intro c hc; cases hc) (by simp [Oper.about, ho]) ?_ (hK _ _ h)
  unfold execOp
  simp only [ho]
  simp [Instr.alloc, zeroValue, typeInfo, hi, hzz, newVar, Value.cells]
  rfl
theorem wpListIn_store_row {ops : Array Oper} {rest : List Oper} {o : Oper} {a : Act} {w : World} {Q : Exit → Act → World → Prop} (hg0 : o.guard = none) (ty : TypeId) (x y : Operand) (ho : o.op = .store ty x y)
    (g : Nat) (cs : Array Value) (hx : a.eval x = .pointer (some ⟨g, 0, none⟩)) (hy : a.eval y = .agg cs) (t : TypeId) (old : Array Value) (hg : w.heap[g]? = some (.cells old t (0, 0)))
    (hi : (P.info? ty).map (·.size) = some cs.size) (hold : old.size = cs.size) (h1 : cs.all (·.oneCell') = true)
    (h : ∀ w', w'.heap[g]? = some (.cells cs t (0, 0)) → w.grownBy w' (some g) → w'.heap.size = w.heap.size → wpListIn F n P ops Q rest (a.put o.dst undef) w') : wpListIn F n P ops Q (o :: rest) a w := by
  refine wpListIn_plain hg0 fun K hK => ?_
  have hrun := run_storeVar_row (P := P) w g t ty old cs hg hi hold h1
  refine wpIn_of_skip (w' := w.setRow g cs) (by rw [ho]; intro c hc; cases hc) (by simp [Oper.about, ho]) ?_ (hK _ _ (h _ (setRow_heap w g old cs t (0, 0) hg) (grown_setRow w g cs) (by simp [World.setRow])))
  unfold execOp
  simp only [ho, hx, hy, Instr.storeAt, Instr.sureAddr, Sem.run_bind, Sem.run_pure, Result.andThen_ok, hrun]
theorem stepIn_built {ops : Array Oper} {o : Oper} {a : Act} {w : World} {K : Act → World → Prop} {Q : Exit → Act → World → Prop} {X : Prop} (hw : Region.wanted o (yielded ops a.tmps) = true) (t : TypeId) (parts : Array (Nat × Operand)) (ho : o.op = .build t parts)
    (cells : Array Value) (vs : List (Nat × Value)) (h : P.built t vs = some cells) (hv : parts.toList.map (fun (i, x) => (i, a.eval x)) = vs) (hK : K (a.put o.dst (.agg cells)) w) : if Region.wanted o (yielded ops a.tmps) = true then Oper.wpIn F n P o a w K Q else X := by
  rw [if_pos hw]
  replace h : P.built t (parts.map fun (i, x) => (i, a.eval x)).toList = some cells := by rw [Array.toList_map, hv]; exact h
  refine wpIn_of_run (by rw [ho]; intro c hc; cases hc) (by simp [Oper.about, ho]) ?_ hK
  unfold execOp
  simp only [ho, Sem.run_bind, run_build w t _ cells h, Result.andThen_ok, Sem.run_pure]
theorem stepIn_buildOne {α : Type} [Enc α] {S E : TypeId} {z : Value} {bytes : Nat} (hS : Slot P α S E z bytes) (hsm : Enc.size α ≤ 16777216) {w : World} {ops : Array Oper} {o : Oper} {a : Act} {K : Act → World → Prop} {Q : Exit → Act → World → Prop} {X : Prop} (hw : Region.wanted o (yielded ops a.tmps) = true)
    (x : Operand) (hop : o.op = .buildSlice S 1 #[(0, x)]) (cs : List Value) (hx : (a.eval x).cells = cs.toArray) (hcs : cs.length = Enc.size α)
    (hK : ∀ w', w' = w.alloc (.cells cs.toArray E) → K (a.put o.dst (.slice (some ⟨w.heap.size, 0, none⟩) 1 1)) w') : if Region.wanted o (yielded ops a.tmps) = true then Oper.wpIn F n P o a w K Q else X := by
  rw [if_pos hw]
  refine wpIn_of_run (by rw [hop]; intro c hc; cases hc) (by simp [Oper.about, hop]) ?_ (hK _ rfl)
  unfold execOp
  simp only [hop, List.map_toArray, List.map_cons, List.map_nil, Sem.run_bind, run_buildOne hS hsm cs hcs _ hx w, Result.andThen_ok]
  rfl
theorem stepIn_appOwnG {α : Type} [Enc α] {S E : TypeId} {z : Value} {bytes : Nat} (hS : Slot P α S E z bytes) {w : World} {ops : Array Oper} {o : Oper} {a : Act} {K : Act → World → Prop} {Q : Exit → Act → World → Prop} {X : Prop} (hw : Region.wanted o (yielded ops a.tmps) = true) (s x : Operand)
    (hop : o.op = .call { callee := .builtin .append, args := #[s, x], argTypes := #[S, S] })
    (B0 B : Nat) (A A2 : Option Addr) (m k c c2 : Nat) (xs ys : List α) (F2 : Nat → Prop) (hs : a.eval s = .slice A m c) (hx : a.eval x = .slice A2 k c2) (hn : m = xs.length) (hm : k = ys.length)
    (ho : OwnQ E w B0 B A c xs) (hr : Src F2 w A2 ys) (hF : ∀ b, F2 b → B0 ≤ b ∧ Soft w b ∧ ∀ a, A = some a → b ≠ a.block) (hlen : (xs.length + ys.length) * (bytes + 1) ≤ 140737488355328) (hB : B ≤ w.heap.size)
    (hK : ∀ A' c' w', OwnQ E w' B0 B A' c' (xs ++ ys) → Below B w w' → w.grownBy w' (A.map (·.block)) → K (a.put o.dst (.slice A' (xs ++ ys).length c')) w') :
    if Region.wanted o (yielded ops a.tmps) = true then Oper.wpIn F n P o a w K Q else X := by
  rw [if_pos hw]
  subst hn hm
  obtain ⟨A', c', w', hrun, h1, h2, h3⟩ := run_appOwn hS o.type ho c2 F2 hr hF hlen hB
  refine wpIn_of_run (by rw [hop]; intro c hc; cases hc) (by simp [Oper.about, hop, resolve, Target.leads, Sem.run_pure]) ?_ (hK A' c' w' h1 h2 h3)
  unfold execOp
  simp only [hop, resolve, invoke, builtin, Sem.run_bind, Sem.run_pure, Result.andThen_ok, List.map_toArray, List.map_cons, List.map_nil, hs, hx, hrun]
end
/-- The value that is ranged over: it holds the trie's box. -/
theorem PpairsV_any (A : Option Addr) (n c : Nat) (root : Int) (w : World) :
    Calls Tryd.prog 66 #[.agg #[.slice A n c, .int .i64 root]] w fun e w' => e = .returned (.func (.func 77) #[] #[.pointer (some ⟨w.heap.size, 0, none⟩)]) ∧ w' = w.alloc (.cells #[.slice A n c, .int .i64 root] 77) := by
  go_enter Tryd.func66, Tryd.ntmps66
  go_wp2
  go_ret
  exact ⟨rfl, rfl⟩
set_option maxHeartbeats 2000000 in
theorem pairs1_in (m l : Nat) (w0 : World) (F : Nat → Prop) (A : Option Addr) (c : Nat) (ns : List Nd) (root : Int) (ho : Ones ns) (hr : Row F w0 A ns) (hc : ns.length ≤ 1000000) (J Jx : List (EItems w0) → World → Prop)
    (hJ : ∀ pre W W', J pre W → Below W.heap.size W W' → J pre W')
    (hY : ∀ m pre x W, J pre W → pre.length < (forP ns 256 root).length → YieldAt Fence.wide m Tryd.prog l (EItem.encs x.1) W fun e W' => (e = .returned (.bool true) ∧ J (pre ++ [x]) W' ∧ KeepT w0.heap.size W W') ∨ (e = .returned (.bool false) ∧ Jx (pre ++ [x]) W'))
    (B : Nat) (W : World) (hb : Below w0.heap.size w0 W) (hB : W.heap[B]? = some (.cells #[.slice A ns.length c, .int .i64 root] 77 (0, 0))) (h0 : 0 ≤ root) (h1 : root ≤ ns.length) (hg : 0 ≤ rgt ns 256 root z0) (hj : J [] W) :
    CallsIn Fence.wide m Tryd.prog 77 #[.func (.yield l) #[] #[], .pointer (some ⟨B, 0, none⟩)] W fun e W' => (∃ v, e = .returned v) ∧ ((∃ xs, xs.map (fun x => x.1.p) = forP ns 256 root ∧ J xs W') ∨ (∃ pre, True ∧ Jx pre W')) := by
  have hut := Tryd.underlying77
  have c5 := block_cell hB 1
  replace c5 : W.cell? ⟨B, 1, none⟩ = some (.int .i64 root) := c5
  have hE := fun m => each_in l w0 F A c ns root ho hr hc (forP ns 256 root).length J Jx hJ hY 256 root z0 m [] W h0 h1 hg hb hj (by simp)
  clear hY hJ
  refine callsIn_of_wp Tryd.func77 rfl trivial ?_ rfl
  simp only [Tryd.ntmps77, List.size_toArray, List.length_cons, List.length_nil, Nat.reduceAdd, Nat.reduceSub, Array.replicate_succ, Array.replicate_zero, List.push_toArray, List.append_toArray, List.nil_append, List.cons_append]
  gi_wp2_with (first
    | ((with_reducible refine wpListIn_load_row rfl 77 (.tmp 1) rfl B rfl 77 #[.slice A ns.length c, .int .i64 root] (0, 0) _ ?_ hut rfl ?_ ?_); exact hB; exact sizeTrie))
  refine ⟨trivial, fun h => (by cases h), (hE _).mono ?_⟩
  rintro e W5 ⟨tb, rfl, h⟩
  gi_wp2
  go_end0
  refine ⟨⟨_, rfl⟩, ?_⟩
  rcases h with ⟨rfl, xs, h1, h2, -⟩ | ⟨rfl, q, hq⟩
  · exact .inl ⟨xs, h1, h2⟩
  · exact .inr ⟨q, trivial, hq⟩
def pairsM (t : Tr) : List Pr := if mayT t = true then allT t else []
/-- What the loop holds between two rounds. -/
def LoopP (w : World) (o B0 : Nat) (pre : List (EItems w)) (W : World) : Prop :=
  (∃ A' c', Boxed W o 86 (.slice A' (pre.map fun x => x.1.p).length c') ∧ OwnR 90 W B0 A' c' (pre.map fun x => x.1.p)) ∧ Below w.heap.size w W ∧ B0 ≤ W.heap.size
theorem loopP_from (w : World) (o B0 : Nat) (hB : w.heap.size ≤ B0) : OwnFrom B0 (LoopP w o B0) := by
  rintro pre X Y row ⟨⟨A', c', h2, h3⟩, h6, h7⟩ hg hr
  have hr2 := fun r e => (hr r e).2
  exact ⟨⟨A', c', h2.kept hg (apart_cells h2 hr2), ownQ_other h3 hg hr2⟩, h6.grown hg (h6.size) (fun k e => Nat.le_trans hB (hr k e).1), Nat.le_trans h7 hg.size⟩
theorem sizeDgA (k : Dg) : (Tryd.prog.info? 35).map (·.size) = some (k.1.map bv).toArray.size := by rw [List.size_toArray, List.length_map, k.2]; exact size32
theorem zDg (k : Dg) : z32.size = (k.1.map bv).toArray.size := by rw [z32_size]; simp [k.2]
theorem oneDg (k : Dg) : (k.1.map bv).toArray.all (·.oneCell') = true := all_oneCell_toArray fun u hu => by
  obtain ⟨x, -, rfl⟩ := List.mem_map.1 hu
  rfl
/-- What the assignment of a round leaves. -/
def tmpsP (A : Option Addr) (n c : Nat) (root : Int) (s o : Nat) (x : EItem) (b6 : Nat) : Array Value :=
  #[.agg #[.slice A n c, .int .i64 root], .pointer (some ⟨s, 0, none⟩), .slice none 0 0, .int .i64 0, .int .i64 0, .pointer (some ⟨o, 0, none⟩), .pointer (some ⟨b6, 0, none⟩), .slice x.A x.p.v.length x.c,
    .agg #[.slice A n c, .int .i64 root], .int .i64 0, .int .i64 0, .bool false, undef, .agg #[.slice A n c, .int .i64 root], .agg #[.slice A n c, .int .i64 root], .func (.func 77) #[] #[.pointer (some ⟨o + 1, 0, none⟩)],
    .agg (x.p.k.1.map bv).toArray, .slice x.A x.p.v.length x.c, undef, undef, undef, undef, undef, undef, undef, undef]
def AxP (A : Option Addr) (n c : Nat) (root : Int) (s o : Nat) (x : EItem) (a : Act) (W : World) : Prop := ∃ b6, W.heap[b6]? = some (.cells (x.p.k.1.map bv).toArray 35 (0, 0)) ∧ a = { tmps := tmpsP A n c root s o x b6, defers := [] }
theorem axP_from (A : Option Addr) (n c : Nat) (root : Int) (s o B : Nat) (x : EItem) (a : Act) : OwnFrom B (fun (_ : Unit) W => AxP A n c root s o x a W) := by
  rintro _ X Y row ⟨b6, h1, h2⟩ hg hr
  exact ⟨b6, (hg.block _ (block_lt h1) (apart_cells h1 fun r e => (hr r e).2)).trans h1, h2⟩
theorem keepT_b {n₀ : Nat} {w : World} (hn : n₀ ≤ w.heap.size) (W : World) (l : Nat) (o o' : Obj) (hl : w.heap.size ≤ l) (h : W.heap[l]? = some o) (hc : o.isCells = false) (hk : o.isWalk = false) : KeepT n₀ W (W.putObj l o') :=
  ⟨belowK_b hn W l o o' hl h hc hk, fun b cs t fr hb _ => World.putObj_heap_other (fun e => by subst e; rw [hb] at h; injection h with h; subst h; cases hc)⟩

set_option maxHeartbeats 4000000 in
theorem PTPairs_any (F : Nat → Prop) (A : Option Addr) (c : Nat) (ns : List Nd) (root : Int) (w : World) (hr : Row F w A ns) (hc : ns.length ≤ 1000000) :
    Calls Tryd.prog 46 #[.agg #[.slice A ns.length c, .int .i64 root]] w fun e w' => ∃ A' c', e = .returned (.tuple #[.slice A' (pairsM ⟨ns, root⟩).length c', .int .i64 (if mayT ⟨ns, root⟩ = true then 0 else 8)]) ∧ OwnR 90 w' w.heap.size A' c' (pairsM ⟨ns, root⟩) ∧ Below w.heap.size w w' := by
  obtain ⟨m, hm⟩ : ∃ m, mayT ⟨ns, root⟩ = m := ⟨_, rfl⟩
  have hut := Tryd.underlying31
  unfold pairsM
  rw [hm]
  have b1 := heap_alloc_new w (.cells #[.slice A ns.length c, .int .i64 root] 31)
  have X1 := ext_alloc w (.cells #[.slice A ns.length c, .int .i64 root] 31)
  refine (callsIn_wide (n := 4)).1 ?_
  refine callsIn_of_wp_marks Tryd.func46 rfl trivial ?_ rfl
  simp only [Tryd.ntmps46, List.size_toArray, List.length_cons, List.length_nil, Nat.reduceAdd, Nat.reduceSub, Array.replicate_succ, Array.replicate_zero, List.push_toArray, List.append_toArray, List.nil_append, List.cons_append]
  gi_wp2_with (first
    | ((with_reducible refine wpListIn_load_row rfl 31 (.tmp 1) rfl w.heap.size rfl 31 #[.slice A ns.length c, .int .i64 root] (0, 0) _ ?_ hut rfl ?_ ?_); exact b1; exact sizeTr))
  refine ⟨trivial, callsIn_wide.2 ((PTCheck_is F A c ns root m _ (hr.alloc _) (by omega) hm).mono ?_)⟩
  rintro e W1 ⟨rfl, hb1⟩
  have Y1 := X1.trans (hb1.mono X1.size)
  have b2 := (hb1.block _ (block_lt b1)).trans b1
  cases m with
  | false =>
    gi_wp2
    exact ⟨_, by kernel_rfl, none, 0, rfl, OwnQ.nil _ _ _, Y1⟩
  | true =>
    obtain ⟨m0, m1, m2, ho, m3⟩ := mayT_iff.1 hm
    gi_wp2_with (first
      | ((with_reducible refine wpListIn_load_row rfl 31 (.tmp 1) rfl w.heap.size rfl 31 #[.slice A ns.length c, .int .i64 root] (0, 0) _ ?_ hut rfl ?_ ?_); exact ((ext_alloc W1 _).block _ (block_lt b2)).trans b2; exact sizeTr))
    refine ⟨trivial, callsIn_wide.2 ((PpairsV_any A ns.length c root _).mono ?_)⟩
    rintro e W0 ⟨rfl, hW0⟩
    have hs0 : W0.heap.size = W1.heap.size + 1 + 1 := by rw [hW0]; simp
    have bo : Boxed W0 W1.heap.size 86 (.slice none 0 0) := by rw [hW0]; exact (Boxed.new W1 86 (.slice none 0 0)).alloc _
    have bt : W0.heap[W1.heap.size + 1]? = some (.cells #[.slice A ns.length c, .int .i64 root] 77 (0, 0)) := by
      rw [hW0]
      have := heap_alloc_new (W1.alloc (.cells #[.slice none 0 0] 86)) (.cells #[.slice A ns.length c, .int .i64 root] 77)
      rw [World.size_alloc] at this
      exact this
    have Y0 : Below w.heap.size w W0 := by rw [hW0]; exact (Y1.alloc Y1.size _).alloc (by have := Y1.size; simp; omega) _
    clear hW0 b1 b2 X1 hb1
    simp only [World.size_alloc]
    gi_wp2
    refine wpIn_rangeFunc_ownH (F := Fence.wide) rfl (by omega) (gf := 77) (lb := #[.pointer (some ⟨W1.heap.size + 1, 0, none⟩)]) rfl trivial (enters_of Tryd.func77 (by kernel_rfl) rfl)
      (encs := fun x : EItems w => EItem.encs x.1) (Kp := KeepT w.heap.size) (S := fun xs => xs.map (fun x => x.1.p) = forP ns 256 root) (Sp := fun _ => True) (N := (forP ns 256 root).length) (w0 := W0)
      (fun l J Jx W hW hJ hJx hY h0 => pairs1_in 3 l w F A c ns root ho hr (by omega) J Jx (fun pre X Y hx hb => hJ pre X Y none hx (grown_of_below hb) (fun r e => by cases e)) (fun m pre x X hx hl => YieldAt.anyDepth rfl m (hY pre x X hx hl)) (W1.heap.size + 1) W
        (Y0.trans (hW.mono Y0.size)) ((hW.block _ (block_lt bt)).trans bt) m1 m2 m3 h0)
      (fun h k => h.trans k) (keepT_b Y0.size) (Below.refl _ _) (fun _ => rfl)
      (LoopP w W1.heap.size W0.heap.size) (fun _ _ _ => False) (loopP_from w _ _ Y0.size) (fun _ _ _ _ _ h _ _ => h) ⟨⟨none, 0, bo, OwnQ.nil _ _ _⟩, Y0, Nat.le_refl _⟩
      (fun x => AxP A ns.length c root w.heap.size W1.heap.size x.1) (fun x a' => axP_from _ _ _ _ _ _ _ _ _) ?assign ?body ?done ?stop
    case stop => exact fun D cd pre W hD hS h => h.elim
    case assign =>
      rintro l pre ⟨⟨y, A2, c2⟩, hx⟩ W K ⟨⟨A', c', hv, hown⟩, hB, hB0⟩ hK
      dsimp only [EItem.encs]
      have h6 := heap_alloc_new W (.cells z32 35)
      have hsz := hid (sizeDgA y.k)
      gi_wp2_with (first
        | (refine wpListIn_store_row rfl 35 (.tmp 6) (.tmp 16) rfl W.heap.size (y.k.1.map bv).toArray rfl rfl 35 z32 ?_ ?_ ?_ ?_ ?_; exact h6; exact hsz.out; exact zDg y.k; exact oneDg y.k; intro w6 g6 hg6 hs6))
      have hb6 : Below W.heap.size W w6 := xnewP rfl hg6
      refine hK _ _ ⟨hb6.size, fun k o _ hk _ => (hb6.block _ (Array.getElem?_eq_some_iff.1 hk).1).trans hk⟩ (KeepT.bel hb6 hB.size) ⟨⟨A', c', boxed_bel hv hb6 hv.lt, hown.bel hb6⟩, hB.trans (hb6.mono hB.size), Nat.le_trans hB0 hb6.size⟩ ⟨W.heap.size, g6, rfl⟩
    case body =>
      rintro l pre ⟨⟨y, A2, c2⟩, hx⟩ a' W hl hrec ⟨⟨A', c', hv, ho⟩, hB, hB0⟩ ⟨b6, h6, rfl⟩ hlt
      have hx4 := hx.2.2.2
      have hvl : y.v.length ≤ 1000000 := by
        have h := of_decide_eq_true (p := 1 ≤ y.v.length ∧ y.v.length ≤ 64) hx4
        omega
      have hRW : Hid (Rd W A2 y.v) := hid (hx.1.bel hB)
      have hfl : (forP ns 256 root).length ≤ 262144 := Nat.le_trans (for_length (Nat.le_refl _) zr_z0 m3) m0
      have hlm : (pre.map fun x => x.1.p).length ≤ 262144 := by rw [List.length_map]; omega
      have hfin : Hid ((pre ++ [⟨⟨y, A2, c2⟩, hx⟩] : List (EItems w)).map (fun x => x.1.p) = (pre.map fun x => x.1.p) ++ [y]) := hid (by rw [List.map_append]; rfl)
      generalize (pre.map fun x => x.1.p) = ps at *
      have hsz := hid (sizeDgA y.k)
      have hud := Tryd.underlying35
      have FIN : ∀ (w5 : World) (X5 : Below W.heap.size W w5) (A6 : Option Addr) (c6 : Nat) (w6 : World) (ho6 : OwnR 90 w6 W0.heap.size A6 c6 (ps ++ [y])) (hb6 : Below W0.heap.size w5 w6) (hg6 : w5.grownBy w6 (A'.map (·.block)))
          (hv6 : Boxed w6 W1.heap.size 86 (.slice A' ps.length c')),
          KeepsFrom W0.heap.size W (w6.setCell ⟨W1.heap.size, 0, none⟩ (.slice A6 (ps ++ [y]).length c6)) ∧ KeepT w.heap.size W (w6.setCell ⟨W1.heap.size, 0, none⟩ (.slice A6 (ps ++ [y]).length c6)) ∧
            LoopP w W1.heap.size W0.heap.size (pre ++ [⟨⟨y, A2, c2⟩, hx⟩]) (w6.setCell ⟨W1.heap.size, 0, none⟩ (.slice A6 (ps ++ [y]).length c6)) := by
        intro w5 X5 A6 c6 w6 ho6 hb6 hg6 hv6
        have hcel : ∀ k, some k = A'.map (·.block) → ∃ cur, W.heap[k]? = some (.cells cur 90 (0, 0)) := fun k hk => by
          obtain ⟨G, k1, k2⟩ := ho
          rcases A' with _ | a
          · cases hk
          · obtain ⟨cur, e, hc⟩ := k1.form a rfl
            simp only [Option.map_some, Option.some.injEq] at hk
            exact ⟨cur, hk ▸ hc⟩
        have hsame : ∀ (k : Nat) (ob : Obj), W.heap[k]? = some ob → some k ≠ A'.map (·.block) → w6.heap[k]? = some ob := fun k ob hk hne => by
          have hkl := (Array.getElem?_eq_some_iff.1 hk).1
          exact (hg6.block k (Nat.lt_of_lt_of_le hkl X5.size) hne).trans ((X5.block k hkl).trans hk)
        have hW6 : Below w.heap.size W w6 := (X5.mono hB.size).trans (hb6.mono Y0.size)
        have ho1 : w.heap.size ≤ W1.heap.size := Y1.size
        refine ⟨⟨Nat.le_trans hW6.size (by simp [World.setCell]), fun k ob _ hk hc => ?_⟩, ⟨hW6.setCell (p := ⟨W1.heap.size, 0, none⟩) ho1 _, fun b cs t fr hb ht => ?_⟩, ⟨A6, c6, ?_, ?_⟩, ?_, ?_⟩
        · refine (Below.heap_setCell _ _ _ _ (fun e => ?_)).trans (hsame k ob hk fun e => ?_)
          · subst e
            rw [hv] at hk
            injection hk with hk
            subst hk
            cases hc
          · obtain ⟨cur, h⟩ := hcel k e
            rw [h] at hk
            injection hk with hk
            subst hk
            cases hc
        · refine ((Below.heap_setCell _ _ _ _ (fun e => ?_)).trans (hsame b _ hb fun e => ?_)).trans hb.symm
          · subst e
            rw [hv] at hb
            injection hb with hb
            injection hb with _ hb _
            subst hb
            rcases ht with ht | ht <;> cases ht
          · obtain ⟨cur, h⟩ := hcel b e
            rw [h] at hb
            injection hb with hb
            injection hb with _ hb _
            subst hb
            rcases ht with ht | ht <;> cases ht
        · rw [hfin.out]
          exact hv6.set _
        · rw [hfin.out]
          exact ho6.setG (by omega) (by omega) _
        · exact (hB.trans hW6).setCell (p := ⟨W1.heap.size, 0, none⟩) ho1 _
        · exact Nat.le_trans hB0 (Nat.le_trans X5.size (Nat.le_trans hb6.size (by simp [World.setCell])))
      have PF : ∀ (A3 : Option Addr) (c3 : Nat) (w3 : World) (ho3 : Own 5 w3 W.heap.size A3 c3 y.v) (w5 : World) (hb : Below w3.heap.size w3 w5), ∀ b, (∃ a, A3 = some a ∧ b = a.block) → W0.heap.size ≤ b ∧ Soft w5 b ∧ ∀ a, A' = some a → b ≠ a.block := by
        rintro A3 c3 w3 ho3 w5 hb b ⟨a, ha, rfl⟩
        obtain ⟨h1, h2⟩ := ho3.soft a ha
        exact ⟨Nat.le_trans hB0 h1, h2.kept (hb.block _ h2.lt), fun a' ha' e => by have := (ho.blk a' ha').2; omega⟩
      have hcv := hv.cell
      have hfv := hv.frozen
      replace hv := hid hv
      replace FIN := hid FIN
      replace PF := hid PF
      have X0 := bel_drew W
      unfold tmpsP
      gi_wp2
      refine wpIn_region_any (by kernel_rfl) ?_
      change wpAnyIn _ _ _ _ _ _ _ _ _ (World.drew _)
      -- REGION pairs
      refine wpAnyIn_ready (rs := [0, 1, 2]) (by kernel_rfl) (by simp) ?_
      refine AllReadyIn.cons rfl (fun K hK => ?_) ?_
      · skip
        go_simp
        refine hK _ _ ?_
        clear hK K
        try simp only [Act.put, sQa, sQb, sQc, gQa, gQb, gQc]
        refine wpAnyIn_ready (rs := [1, 2]) (by kernel_rfl) (by simp) ?_
        refine AllReadyIn.cons rfl (fun K hK => ?_) ?_
        · skip
          refine stepIn_load_row (by rfl) 35 (.tmp 6) rfl b6 rfl 35 (y.k.1.map bv).toArray (0, 0) _ ((X0.block _ (block_lt h6)).trans h6) hud rfl hsz.out ?_
          refine hK _ _ ?_
          clear hK K
          try simp only [Act.put, sQa, sQb, sQc, gQa, gQb, gQc]
          refine wpAnyIn_ready (rs := [2]) (by kernel_rfl) (by simp) ?_
          refine AllReadyIn.cons rfl (fun K hK => ?_) AllReadyIn.nil
          go_simp
          refine hK _ _ ?_
          clear hK K
          try simp only [Act.put, sQa, sQb, sQc, gQa, gQb, gQc]
          refine wpAnyIn_ready (rs := [3]) (by kernel_rfl) (by simp) ?_
          refine AllReadyIn.cons rfl (fun K hK => ?_) AllReadyIn.nil
          go_simp
          refine ⟨trivial, CallsIn.inRound l (callsIn_wide.2 ((Clone_any A2 y.v.length c2 y.v W.drew (hRW.out.bel X0) rfl (by omega)).mono ?_))⟩
          rintro e w3 ⟨A3, c3, rfl, ho3, hb3⟩
          have X3 : Below W.heap.size W w3 := X0.trans (hb3.mono X0.size)
          replace ho3 := hid (ho3.base (B' := W.heap.size) X0.size)
          simp only []
          refine hK _ _ ?_
          clear hK K
          try simp only [Act.put, sQa, sQb, sQc, gQa, gQb, gQc]
          refine wpAnyIn_ready (rs := [4]) (by kernel_rfl) (by simp) ?_
          refine AllReadyIn.cons rfl (fun K hK => ?_) AllReadyIn.nil
          refine stepIn_built (by rfl) 90 _ rfl _ _ (built_pr y.k (.slice A3 y.v.length c3) rfl) rfl ?_
          refine hK _ _ ?_
          clear hK K
          try simp only [Act.put, sQa, sQb, sQc, gQa, gQb, gQc]
          refine wpAnyIn_ready (rs := [5]) (by kernel_rfl) (by simp) ?_
          refine AllReadyIn.cons rfl (fun K hK => ?_) AllReadyIn.nil
          refine stepIn_buildOne slotPr (by decide) (by rfl) (.tmp 22) rfl (y.k.1.map bv ++ [.slice A3 y.v.length c3]) rfl (len_pr _ _) ?_
          intro w5 hw5
          have X5 : Below W.heap.size W w5 := hw5 ▸ X3.trans ((ext_alloc w3 _).mono X3.size)
          have src5 : Hid (Src (fun b => ∃ a, A3 = some a ∧ b = a.block) w5 (some ⟨w3.heap.size, 0, none⟩) [y]) := hid (hw5 ▸ src_alloc (rep_pr_own ho3.out))
          have hF5 : Hid (∀ b, (∃ a, A3 = some a ∧ b = a.block) → W0.heap.size ≤ b ∧ Soft w5 b ∧ ∀ a, A' = some a → b ≠ a.block) := hid (PF.out A3 c3 w3 ho3.out w5 (hw5 ▸ ext_alloc w3 _))
          clear hw5
          refine hK _ _ ?_
          clear hK K
          try simp only [Act.put, sQa, sQb, sQc, gQa, gQb, gQc]
          refine wpAnyIn_ready (rs := [6]) (by kernel_rfl) (by simp) ?_
          refine AllReadyIn.cons rfl (fun K hK => ?_) AllReadyIn.nil
          refine stepIn_appOwnG slotPr (by rfl) (.tmp 18) (.tmp 23) rfl W0.heap.size W0.heap.size A' (some ⟨w3.heap.size, 0, none⟩) ps.length 1 c' 1 ps [y] _ rfl rfl rfl rfl (ho.bel X5) src5.out hF5.out (by simp; omega) (Nat.le_trans hB0 X5.size) ?_
          intro A6 c6 w6 ho6 hb6 hg6
          have hv6 : Boxed w6 W1.heap.size 86 (.slice A' ps.length c') := boxed_bel (boxed_bel hv.out X5 hv.out.lt) hb6 (by omega)
          have hc6 := hv6.cell
          have hf6 := hv6.frozen
          replace ho6 := hid ho6
          refine hK _ _ ?_
          clear hK K
          try simp only [Act.put, sQa, sQb, sQc, gQa, gQb, gQc]
          refine wpAnyIn_ready (rs := [7]) (by kernel_rfl) (by simp) ?_
          refine AllReadyIn.cons rfl (fun K hK => ?_) AllReadyIn.nil
          go_simp
          refine hK _ _ ?_
          clear hK K
          try simp only [Act.put, sQa, sQb, sQc, gQa, gQb, gQc]
          refine wpAnyIn_done (by kernel_rfl) ?_ _
          gi_wp2
          have F := FIN.out w5 X5 A6 c6 w6 ho6.out hb6 hg6 hv6
          rw [show (ps ++ [y]).length = ps.length + 1 by simp] at F
          exact F
        refine AllReadyIn.cons rfl (fun K hK => ?_) AllReadyIn.nil
        go_simp
        refine hK _ _ ?_
        clear hK K
        try simp only [Act.put, sQa, sQb, sQc, gQa, gQb, gQc]
        refine wpAnyIn_ready (rs := [1, 3]) (by kernel_rfl) (by simp) ?_
        refine AllReadyIn.cons rfl (fun K hK => ?_) ?_
        · skip
          refine stepIn_load_row (by rfl) 35 (.tmp 6) rfl b6 rfl 35 (y.k.1.map bv).toArray (0, 0) _ ((X0.block _ (block_lt h6)).trans h6) hud rfl hsz.out ?_
          refine hK _ _ ?_
          clear hK K
          try simp only [Act.put, sQa, sQb, sQc, gQa, gQb, gQc]
          refine wpAnyIn_ready (rs := [3]) (by kernel_rfl) (by simp) ?_
          refine AllReadyIn.cons rfl (fun K hK => ?_) AllReadyIn.nil
          go_simp
          refine ⟨trivial, CallsIn.inRound l (callsIn_wide.2 ((Clone_any A2 y.v.length c2 y.v W.drew (hRW.out.bel X0) rfl (by omega)).mono ?_))⟩
          rintro e w3 ⟨A3, c3, rfl, ho3, hb3⟩
          have X3 : Below W.heap.size W w3 := X0.trans (hb3.mono X0.size)
          replace ho3 := hid (ho3.base (B' := W.heap.size) X0.size)
          simp only []
          refine hK _ _ ?_
          clear hK K
          try simp only [Act.put, sQa, sQb, sQc, gQa, gQb, gQc]
          refine wpAnyIn_ready (rs := [4]) (by kernel_rfl) (by simp) ?_
          refine AllReadyIn.cons rfl (fun K hK => ?_) AllReadyIn.nil
          refine stepIn_built (by rfl) 90 _ rfl _ _ (built_pr y.k (.slice A3 y.v.length c3) rfl) rfl ?_
          refine hK _ _ ?_
          clear hK K
          try simp only [Act.put, sQa, sQb, sQc, gQa, gQb, gQc]
          refine wpAnyIn_ready (rs := [5]) (by kernel_rfl) (by simp) ?_
          refine AllReadyIn.cons rfl (fun K hK => ?_) AllReadyIn.nil
          refine stepIn_buildOne slotPr (by decide) (by rfl) (.tmp 22) rfl (y.k.1.map bv ++ [.slice A3 y.v.length c3]) rfl (len_pr _ _) ?_
          intro w5 hw5
          have X5 : Below W.heap.size W w5 := hw5 ▸ X3.trans ((ext_alloc w3 _).mono X3.size)
          have src5 : Hid (Src (fun b => ∃ a, A3 = some a ∧ b = a.block) w5 (some ⟨w3.heap.size, 0, none⟩) [y]) := hid (hw5 ▸ src_alloc (rep_pr_own ho3.out))
          have hF5 : Hid (∀ b, (∃ a, A3 = some a ∧ b = a.block) → W0.heap.size ≤ b ∧ Soft w5 b ∧ ∀ a, A' = some a → b ≠ a.block) := hid (PF.out A3 c3 w3 ho3.out w5 (hw5 ▸ ext_alloc w3 _))
          clear hw5
          refine hK _ _ ?_
          clear hK K
          try simp only [Act.put, sQa, sQb, sQc, gQa, gQb, gQc]
          refine wpAnyIn_ready (rs := [6]) (by kernel_rfl) (by simp) ?_
          refine AllReadyIn.cons rfl (fun K hK => ?_) AllReadyIn.nil
          refine stepIn_appOwnG slotPr (by rfl) (.tmp 18) (.tmp 23) rfl W0.heap.size W0.heap.size A' (some ⟨w3.heap.size, 0, none⟩) ps.length 1 c' 1 ps [y] _ rfl rfl rfl rfl (ho.bel X5) src5.out hF5.out (by simp; omega) (Nat.le_trans hB0 X5.size) ?_
          intro A6 c6 w6 ho6 hb6 hg6
          have hv6 : Boxed w6 W1.heap.size 86 (.slice A' ps.length c') := boxed_bel (boxed_bel hv.out X5 hv.out.lt) hb6 (by omega)
          have hc6 := hv6.cell
          have hf6 := hv6.frozen
          replace ho6 := hid ho6
          refine hK _ _ ?_
          clear hK K
          try simp only [Act.put, sQa, sQb, sQc, gQa, gQb, gQc]
          refine wpAnyIn_ready (rs := [7]) (by kernel_rfl) (by simp) ?_
          refine AllReadyIn.cons rfl (fun K hK => ?_) AllReadyIn.nil
          go_simp
          refine hK _ _ ?_
          clear hK K
          try simp only [Act.put, sQa, sQb, sQc, gQa, gQb, gQc]
          refine wpAnyIn_done (by kernel_rfl) ?_ _
          gi_wp2
          have F := FIN.out w5 X5 A6 c6 w6 ho6.out hb6 hg6 hv6
          rw [show (ps ++ [y]).length = ps.length + 1 by simp] at F
          exact F
        refine AllReadyIn.cons rfl (fun K hK => ?_) AllReadyIn.nil
        go_simp
        refine ⟨trivial, CallsIn.inRound l (callsIn_wide.2 ((Clone_any A2 y.v.length c2 y.v W.drew (hRW.out.bel X0) rfl (by omega)).mono ?_))⟩
        rintro e w3 ⟨A3, c3, rfl, ho3, hb3⟩
        have X3 : Below W.heap.size W w3 := X0.trans (hb3.mono X0.size)
        replace ho3 := hid (ho3.base (B' := W.heap.size) X0.size)
        simp only []
        refine hK _ _ ?_
        clear hK K
        try simp only [Act.put, sQa, sQb, sQc, gQa, gQb, gQc]
        refine wpAnyIn_ready (rs := [1]) (by kernel_rfl) (by simp) ?_
        refine AllReadyIn.cons rfl (fun K hK => ?_) AllReadyIn.nil
        refine stepIn_load_row (by rfl) 35 (.tmp 6) rfl b6 rfl 35 (y.k.1.map bv).toArray (0, 0) _ ((X3.block _ (block_lt h6)).trans h6) hud rfl hsz.out ?_
        refine hK _ _ ?_
        clear hK K
        try simp only [Act.put, sQa, sQb, sQc, gQa, gQb, gQc]
        refine wpAnyIn_ready (rs := [4]) (by kernel_rfl) (by simp) ?_
        refine AllReadyIn.cons rfl (fun K hK => ?_) AllReadyIn.nil
        refine stepIn_built (by rfl) 90 _ rfl _ _ (built_pr y.k (.slice A3 y.v.length c3) rfl) rfl ?_
        refine hK _ _ ?_
        clear hK K
        try simp only [Act.put, sQa, sQb, sQc, gQa, gQb, gQc]
        refine wpAnyIn_ready (rs := [5]) (by kernel_rfl) (by simp) ?_
        refine AllReadyIn.cons rfl (fun K hK => ?_) AllReadyIn.nil
        refine stepIn_buildOne slotPr (by decide) (by rfl) (.tmp 22) rfl (y.k.1.map bv ++ [.slice A3 y.v.length c3]) rfl (len_pr _ _) ?_
        intro w5 hw5
        have X5 : Below W.heap.size W w5 := hw5 ▸ X3.trans ((ext_alloc w3 _).mono X3.size)
        have src5 : Hid (Src (fun b => ∃ a, A3 = some a ∧ b = a.block) w5 (some ⟨w3.heap.size, 0, none⟩) [y]) := hid (hw5 ▸ src_alloc (rep_pr_own ho3.out))
        have hF5 : Hid (∀ b, (∃ a, A3 = some a ∧ b = a.block) → W0.heap.size ≤ b ∧ Soft w5 b ∧ ∀ a, A' = some a → b ≠ a.block) := hid (PF.out A3 c3 w3 ho3.out w5 (hw5 ▸ ext_alloc w3 _))
        clear hw5
        refine hK _ _ ?_
        clear hK K
        try simp only [Act.put, sQa, sQb, sQc, gQa, gQb, gQc]
        refine wpAnyIn_ready (rs := [6]) (by kernel_rfl) (by simp) ?_
        refine AllReadyIn.cons rfl (fun K hK => ?_) AllReadyIn.nil
        refine stepIn_appOwnG slotPr (by rfl) (.tmp 18) (.tmp 23) rfl W0.heap.size W0.heap.size A' (some ⟨w3.heap.size, 0, none⟩) ps.length 1 c' 1 ps [y] _ rfl rfl rfl rfl (ho.bel X5) src5.out hF5.out (by simp; omega) (Nat.le_trans hB0 X5.size) ?_
        intro A6 c6 w6 ho6 hb6 hg6
        have hv6 : Boxed w6 W1.heap.size 86 (.slice A' ps.length c') := boxed_bel (boxed_bel hv.out X5 hv.out.lt) hb6 (by omega)
        have hc6 := hv6.cell
        have hf6 := hv6.frozen
        replace ho6 := hid ho6
        refine hK _ _ ?_
        clear hK K
        try simp only [Act.put, sQa, sQb, sQc, gQa, gQb, gQc]
        refine wpAnyIn_ready (rs := [7]) (by kernel_rfl) (by simp) ?_
        refine AllReadyIn.cons rfl (fun K hK => ?_) AllReadyIn.nil
        go_simp
        refine hK _ _ ?_
        clear hK K
        try simp only [Act.put, sQa, sQb, sQc, gQa, gQb, gQc]
        refine wpAnyIn_done (by kernel_rfl) ?_ _
        gi_wp2
        have F := FIN.out w5 X5 A6 c6 w6 ho6.out hb6 hg6 hv6
        rw [show (ps ++ [y]).length = ps.length + 1 by simp] at F
        exact F
      refine AllReadyIn.cons rfl (fun K hK => ?_) ?_
      · skip
        refine stepIn_load_row (by rfl) 35 (.tmp 6) rfl b6 rfl 35 (y.k.1.map bv).toArray (0, 0) _ ((X0.block _ (block_lt h6)).trans h6) hud rfl hsz.out ?_
        refine hK _ _ ?_
        clear hK K
        try simp only [Act.put, sQa, sQb, sQc, gQa, gQb, gQc]
        refine wpAnyIn_ready (rs := [0, 2]) (by kernel_rfl) (by simp) ?_
        refine AllReadyIn.cons rfl (fun K hK => ?_) ?_
        · skip
          go_simp
          refine hK _ _ ?_
          clear hK K
          try simp only [Act.put, sQa, sQb, sQc, gQa, gQb, gQc]
          refine wpAnyIn_ready (rs := [2]) (by kernel_rfl) (by simp) ?_
          refine AllReadyIn.cons rfl (fun K hK => ?_) AllReadyIn.nil
          go_simp
          refine hK _ _ ?_
          clear hK K
          try simp only [Act.put, sQa, sQb, sQc, gQa, gQb, gQc]
          refine wpAnyIn_ready (rs := [3]) (by kernel_rfl) (by simp) ?_
          refine AllReadyIn.cons rfl (fun K hK => ?_) AllReadyIn.nil
          go_simp
          refine ⟨trivial, CallsIn.inRound l (callsIn_wide.2 ((Clone_any A2 y.v.length c2 y.v W.drew (hRW.out.bel X0) rfl (by omega)).mono ?_))⟩
          rintro e w3 ⟨A3, c3, rfl, ho3, hb3⟩
          have X3 : Below W.heap.size W w3 := X0.trans (hb3.mono X0.size)
          replace ho3 := hid (ho3.base (B' := W.heap.size) X0.size)
          simp only []
          refine hK _ _ ?_
          clear hK K
          try simp only [Act.put, sQa, sQb, sQc, gQa, gQb, gQc]
          refine wpAnyIn_ready (rs := [4]) (by kernel_rfl) (by simp) ?_
          refine AllReadyIn.cons rfl (fun K hK => ?_) AllReadyIn.nil
          refine stepIn_built (by rfl) 90 _ rfl _ _ (built_pr y.k (.slice A3 y.v.length c3) rfl) rfl ?_
          refine hK _ _ ?_
          clear hK K
          try simp only [Act.put, sQa, sQb, sQc, gQa, gQb, gQc]
          refine wpAnyIn_ready (rs := [5]) (by kernel_rfl) (by simp) ?_
          refine AllReadyIn.cons rfl (fun K hK => ?_) AllReadyIn.nil
          refine stepIn_buildOne slotPr (by decide) (by rfl) (.tmp 22) rfl (y.k.1.map bv ++ [.slice A3 y.v.length c3]) rfl (len_pr _ _) ?_
          intro w5 hw5
          have X5 : Below W.heap.size W w5 := hw5 ▸ X3.trans ((ext_alloc w3 _).mono X3.size)
          have src5 : Hid (Src (fun b => ∃ a, A3 = some a ∧ b = a.block) w5 (some ⟨w3.heap.size, 0, none⟩) [y]) := hid (hw5 ▸ src_alloc (rep_pr_own ho3.out))
          have hF5 : Hid (∀ b, (∃ a, A3 = some a ∧ b = a.block) → W0.heap.size ≤ b ∧ Soft w5 b ∧ ∀ a, A' = some a → b ≠ a.block) := hid (PF.out A3 c3 w3 ho3.out w5 (hw5 ▸ ext_alloc w3 _))
          clear hw5
          refine hK _ _ ?_
          clear hK K
          try simp only [Act.put, sQa, sQb, sQc, gQa, gQb, gQc]
          refine wpAnyIn_ready (rs := [6]) (by kernel_rfl) (by simp) ?_
          refine AllReadyIn.cons rfl (fun K hK => ?_) AllReadyIn.nil
          refine stepIn_appOwnG slotPr (by rfl) (.tmp 18) (.tmp 23) rfl W0.heap.size W0.heap.size A' (some ⟨w3.heap.size, 0, none⟩) ps.length 1 c' 1 ps [y] _ rfl rfl rfl rfl (ho.bel X5) src5.out hF5.out (by simp; omega) (Nat.le_trans hB0 X5.size) ?_
          intro A6 c6 w6 ho6 hb6 hg6
          have hv6 : Boxed w6 W1.heap.size 86 (.slice A' ps.length c') := boxed_bel (boxed_bel hv.out X5 hv.out.lt) hb6 (by omega)
          have hc6 := hv6.cell
          have hf6 := hv6.frozen
          replace ho6 := hid ho6
          refine hK _ _ ?_
          clear hK K
          try simp only [Act.put, sQa, sQb, sQc, gQa, gQb, gQc]
          refine wpAnyIn_ready (rs := [7]) (by kernel_rfl) (by simp) ?_
          refine AllReadyIn.cons rfl (fun K hK => ?_) AllReadyIn.nil
          go_simp
          refine hK _ _ ?_
          clear hK K
          try simp only [Act.put, sQa, sQb, sQc, gQa, gQb, gQc]
          refine wpAnyIn_done (by kernel_rfl) ?_ _
          gi_wp2
          have F := FIN.out w5 X5 A6 c6 w6 ho6.out hb6 hg6 hv6
          rw [show (ps ++ [y]).length = ps.length + 1 by simp] at F
          exact F
        refine AllReadyIn.cons rfl (fun K hK => ?_) AllReadyIn.nil
        go_simp
        refine hK _ _ ?_
        clear hK K
        try simp only [Act.put, sQa, sQb, sQc, gQa, gQb, gQc]
        refine wpAnyIn_ready (rs := [0, 3]) (by kernel_rfl) (by simp) ?_
        refine AllReadyIn.cons rfl (fun K hK => ?_) ?_
        · skip
          go_simp
          refine hK _ _ ?_
          clear hK K
          try simp only [Act.put, sQa, sQb, sQc, gQa, gQb, gQc]
          refine wpAnyIn_ready (rs := [3]) (by kernel_rfl) (by simp) ?_
          refine AllReadyIn.cons rfl (fun K hK => ?_) AllReadyIn.nil
          go_simp
          refine ⟨trivial, CallsIn.inRound l (callsIn_wide.2 ((Clone_any A2 y.v.length c2 y.v W.drew (hRW.out.bel X0) rfl (by omega)).mono ?_))⟩
          rintro e w3 ⟨A3, c3, rfl, ho3, hb3⟩
          have X3 : Below W.heap.size W w3 := X0.trans (hb3.mono X0.size)
          replace ho3 := hid (ho3.base (B' := W.heap.size) X0.size)
          simp only []
          refine hK _ _ ?_
          clear hK K
          try simp only [Act.put, sQa, sQb, sQc, gQa, gQb, gQc]
          refine wpAnyIn_ready (rs := [4]) (by kernel_rfl) (by simp) ?_
          refine AllReadyIn.cons rfl (fun K hK => ?_) AllReadyIn.nil
          refine stepIn_built (by rfl) 90 _ rfl _ _ (built_pr y.k (.slice A3 y.v.length c3) rfl) rfl ?_
          refine hK _ _ ?_
          clear hK K
          try simp only [Act.put, sQa, sQb, sQc, gQa, gQb, gQc]
          refine wpAnyIn_ready (rs := [5]) (by kernel_rfl) (by simp) ?_
          refine AllReadyIn.cons rfl (fun K hK => ?_) AllReadyIn.nil
          refine stepIn_buildOne slotPr (by decide) (by rfl) (.tmp 22) rfl (y.k.1.map bv ++ [.slice A3 y.v.length c3]) rfl (len_pr _ _) ?_
          intro w5 hw5
          have X5 : Below W.heap.size W w5 := hw5 ▸ X3.trans ((ext_alloc w3 _).mono X3.size)
          have src5 : Hid (Src (fun b => ∃ a, A3 = some a ∧ b = a.block) w5 (some ⟨w3.heap.size, 0, none⟩) [y]) := hid (hw5 ▸ src_alloc (rep_pr_own ho3.out))
          have hF5 : Hid (∀ b, (∃ a, A3 = some a ∧ b = a.block) → W0.heap.size ≤ b ∧ Soft w5 b ∧ ∀ a, A' = some a → b ≠ a.block) := hid (PF.out A3 c3 w3 ho3.out w5 (hw5 ▸ ext_alloc w3 _))
          clear hw5
          refine hK _ _ ?_
          clear hK K
          try simp only [Act.put, sQa, sQb, sQc, gQa, gQb, gQc]
          refine wpAnyIn_ready (rs := [6]) (by kernel_rfl) (by simp) ?_
          refine AllReadyIn.cons rfl (fun K hK => ?_) AllReadyIn.nil
          refine stepIn_appOwnG slotPr (by rfl) (.tmp 18) (.tmp 23) rfl W0.heap.size W0.heap.size A' (some ⟨w3.heap.size, 0, none⟩) ps.length 1 c' 1 ps [y] _ rfl rfl rfl rfl (ho.bel X5) src5.out hF5.out (by simp; omega) (Nat.le_trans hB0 X5.size) ?_
          intro A6 c6 w6 ho6 hb6 hg6
          have hv6 : Boxed w6 W1.heap.size 86 (.slice A' ps.length c') := boxed_bel (boxed_bel hv.out X5 hv.out.lt) hb6 (by omega)
          have hc6 := hv6.cell
          have hf6 := hv6.frozen
          replace ho6 := hid ho6
          refine hK _ _ ?_
          clear hK K
          try simp only [Act.put, sQa, sQb, sQc, gQa, gQb, gQc]
          refine wpAnyIn_ready (rs := [7]) (by kernel_rfl) (by simp) ?_
          refine AllReadyIn.cons rfl (fun K hK => ?_) AllReadyIn.nil
          go_simp
          refine hK _ _ ?_
          clear hK K
          try simp only [Act.put, sQa, sQb, sQc, gQa, gQb, gQc]
          refine wpAnyIn_done (by kernel_rfl) ?_ _
          gi_wp2
          have F := FIN.out w5 X5 A6 c6 w6 ho6.out hb6 hg6 hv6
          rw [show (ps ++ [y]).length = ps.length + 1 by simp] at F
          exact F
        refine AllReadyIn.cons rfl (fun K hK => ?_) AllReadyIn.nil
        go_simp
        refine ⟨trivial, CallsIn.inRound l (callsIn_wide.2 ((Clone_any A2 y.v.length c2 y.v W.drew (hRW.out.bel X0) rfl (by omega)).mono ?_))⟩
        rintro e w3 ⟨A3, c3, rfl, ho3, hb3⟩
        have X3 : Below W.heap.size W w3 := X0.trans (hb3.mono X0.size)
        replace ho3 := hid (ho3.base (B' := W.heap.size) X0.size)
        simp only []
        refine hK _ _ ?_
        clear hK K
        try simp only [Act.put, sQa, sQb, sQc, gQa, gQb, gQc]
        refine wpAnyIn_ready (rs := [0, 4]) (by kernel_rfl) (by simp) ?_
        refine AllReadyIn.cons rfl (fun K hK => ?_) ?_
        · skip
          have hc3 := (X3.cell (p := ⟨W1.heap.size, 0, none⟩) (World.block_lt_of_cell? _ _ hcv)).trans hcv
          replace hc3 : (w3).cell? ⟨W1.heap.size, 0, none⟩ = some (.slice A' ps.length c') := hc3
          go_simp
          refine hK _ _ ?_
          clear hK K
          try simp only [Act.put, sQa, sQb, sQc, gQa, gQb, gQc]
          refine wpAnyIn_ready (rs := [4]) (by kernel_rfl) (by simp) ?_
          refine AllReadyIn.cons rfl (fun K hK => ?_) AllReadyIn.nil
          refine stepIn_built (by rfl) 90 _ rfl _ _ (built_pr y.k (.slice A3 y.v.length c3) rfl) rfl ?_
          refine hK _ _ ?_
          clear hK K
          try simp only [Act.put, sQa, sQb, sQc, gQa, gQb, gQc]
          refine wpAnyIn_ready (rs := [5]) (by kernel_rfl) (by simp) ?_
          refine AllReadyIn.cons rfl (fun K hK => ?_) AllReadyIn.nil
          refine stepIn_buildOne slotPr (by decide) (by rfl) (.tmp 22) rfl (y.k.1.map bv ++ [.slice A3 y.v.length c3]) rfl (len_pr _ _) ?_
          intro w5 hw5
          have X5 : Below W.heap.size W w5 := hw5 ▸ X3.trans ((ext_alloc w3 _).mono X3.size)
          have src5 : Hid (Src (fun b => ∃ a, A3 = some a ∧ b = a.block) w5 (some ⟨w3.heap.size, 0, none⟩) [y]) := hid (hw5 ▸ src_alloc (rep_pr_own ho3.out))
          have hF5 : Hid (∀ b, (∃ a, A3 = some a ∧ b = a.block) → W0.heap.size ≤ b ∧ Soft w5 b ∧ ∀ a, A' = some a → b ≠ a.block) := hid (PF.out A3 c3 w3 ho3.out w5 (hw5 ▸ ext_alloc w3 _))
          clear hw5
          refine hK _ _ ?_
          clear hK K
          try simp only [Act.put, sQa, sQb, sQc, gQa, gQb, gQc]
          refine wpAnyIn_ready (rs := [6]) (by kernel_rfl) (by simp) ?_
          refine AllReadyIn.cons rfl (fun K hK => ?_) AllReadyIn.nil
          refine stepIn_appOwnG slotPr (by rfl) (.tmp 18) (.tmp 23) rfl W0.heap.size W0.heap.size A' (some ⟨w3.heap.size, 0, none⟩) ps.length 1 c' 1 ps [y] _ rfl rfl rfl rfl (ho.bel X5) src5.out hF5.out (by simp; omega) (Nat.le_trans hB0 X5.size) ?_
          intro A6 c6 w6 ho6 hb6 hg6
          have hv6 : Boxed w6 W1.heap.size 86 (.slice A' ps.length c') := boxed_bel (boxed_bel hv.out X5 hv.out.lt) hb6 (by omega)
          have hc6 := hv6.cell
          have hf6 := hv6.frozen
          replace ho6 := hid ho6
          refine hK _ _ ?_
          clear hK K
          try simp only [Act.put, sQa, sQb, sQc, gQa, gQb, gQc]
          refine wpAnyIn_ready (rs := [7]) (by kernel_rfl) (by simp) ?_
          refine AllReadyIn.cons rfl (fun K hK => ?_) AllReadyIn.nil
          go_simp
          refine hK _ _ ?_
          clear hK K
          try simp only [Act.put, sQa, sQb, sQc, gQa, gQb, gQc]
          refine wpAnyIn_done (by kernel_rfl) ?_ _
          gi_wp2
          have F := FIN.out w5 X5 A6 c6 w6 ho6.out hb6 hg6 hv6
          rw [show (ps ++ [y]).length = ps.length + 1 by simp] at F
          exact F
        refine AllReadyIn.cons rfl (fun K hK => ?_) AllReadyIn.nil
        refine stepIn_built (by rfl) 90 _ rfl _ _ (built_pr y.k (.slice A3 y.v.length c3) rfl) rfl ?_
        refine hK _ _ ?_
        clear hK K
        try simp only [Act.put, sQa, sQb, sQc, gQa, gQb, gQc]
        refine wpAnyIn_ready (rs := [0, 5]) (by kernel_rfl) (by simp) ?_
        refine AllReadyIn.cons rfl (fun K hK => ?_) ?_
        · skip
          have hc3 := (X3.cell (p := ⟨W1.heap.size, 0, none⟩) (World.block_lt_of_cell? _ _ hcv)).trans hcv
          replace hc3 : (w3).cell? ⟨W1.heap.size, 0, none⟩ = some (.slice A' ps.length c') := hc3
          go_simp
          refine hK _ _ ?_
          clear hK K
          try simp only [Act.put, sQa, sQb, sQc, gQa, gQb, gQc]
          refine wpAnyIn_ready (rs := [5]) (by kernel_rfl) (by simp) ?_
          refine AllReadyIn.cons rfl (fun K hK => ?_) AllReadyIn.nil
          refine stepIn_buildOne slotPr (by decide) (by rfl) (.tmp 22) rfl (y.k.1.map bv ++ [.slice A3 y.v.length c3]) rfl (len_pr _ _) ?_
          intro w5 hw5
          have X5 : Below W.heap.size W w5 := hw5 ▸ X3.trans ((ext_alloc w3 _).mono X3.size)
          have src5 : Hid (Src (fun b => ∃ a, A3 = some a ∧ b = a.block) w5 (some ⟨w3.heap.size, 0, none⟩) [y]) := hid (hw5 ▸ src_alloc (rep_pr_own ho3.out))
          have hF5 : Hid (∀ b, (∃ a, A3 = some a ∧ b = a.block) → W0.heap.size ≤ b ∧ Soft w5 b ∧ ∀ a, A' = some a → b ≠ a.block) := hid (PF.out A3 c3 w3 ho3.out w5 (hw5 ▸ ext_alloc w3 _))
          clear hw5
          refine hK _ _ ?_
          clear hK K
          try simp only [Act.put, sQa, sQb, sQc, gQa, gQb, gQc]
          refine wpAnyIn_ready (rs := [6]) (by kernel_rfl) (by simp) ?_
          refine AllReadyIn.cons rfl (fun K hK => ?_) AllReadyIn.nil
          refine stepIn_appOwnG slotPr (by rfl) (.tmp 18) (.tmp 23) rfl W0.heap.size W0.heap.size A' (some ⟨w3.heap.size, 0, none⟩) ps.length 1 c' 1 ps [y] _ rfl rfl rfl rfl (ho.bel X5) src5.out hF5.out (by simp; omega) (Nat.le_trans hB0 X5.size) ?_
          intro A6 c6 w6 ho6 hb6 hg6
          have hv6 : Boxed w6 W1.heap.size 86 (.slice A' ps.length c') := boxed_bel (boxed_bel hv.out X5 hv.out.lt) hb6 (by omega)
          have hc6 := hv6.cell
          have hf6 := hv6.frozen
          replace ho6 := hid ho6
          refine hK _ _ ?_
          clear hK K
          try simp only [Act.put, sQa, sQb, sQc, gQa, gQb, gQc]
          refine wpAnyIn_ready (rs := [7]) (by kernel_rfl) (by simp) ?_
          refine AllReadyIn.cons rfl (fun K hK => ?_) AllReadyIn.nil
          go_simp
          refine hK _ _ ?_
          clear hK K
          try simp only [Act.put, sQa, sQb, sQc, gQa, gQb, gQc]
          refine wpAnyIn_done (by kernel_rfl) ?_ _
          gi_wp2
          have F := FIN.out w5 X5 A6 c6 w6 ho6.out hb6 hg6 hv6
          rw [show (ps ++ [y]).length = ps.length + 1 by simp] at F
          exact F
        refine AllReadyIn.cons rfl (fun K hK => ?_) AllReadyIn.nil
        refine stepIn_buildOne slotPr (by decide) (by rfl) (.tmp 22) rfl (y.k.1.map bv ++ [.slice A3 y.v.length c3]) rfl (len_pr _ _) ?_
        intro w5 hw5
        have X5 : Below W.heap.size W w5 := hw5 ▸ X3.trans ((ext_alloc w3 _).mono X3.size)
        have src5 : Hid (Src (fun b => ∃ a, A3 = some a ∧ b = a.block) w5 (some ⟨w3.heap.size, 0, none⟩) [y]) := hid (hw5 ▸ src_alloc (rep_pr_own ho3.out))
        have hF5 : Hid (∀ b, (∃ a, A3 = some a ∧ b = a.block) → W0.heap.size ≤ b ∧ Soft w5 b ∧ ∀ a, A' = some a → b ≠ a.block) := hid (PF.out A3 c3 w3 ho3.out w5 (hw5 ▸ ext_alloc w3 _))
        clear hw5
        refine hK _ _ ?_
        clear hK K
        try simp only [Act.put, sQa, sQb, sQc, gQa, gQb, gQc]
        refine wpAnyIn_ready (rs := [0]) (by kernel_rfl) (by simp) ?_
        refine AllReadyIn.cons rfl (fun K hK => ?_) AllReadyIn.nil
        have hc5 := (X5.cell (p := ⟨W1.heap.size, 0, none⟩) (World.block_lt_of_cell? _ _ hcv)).trans hcv
        replace hc5 : (w5).cell? ⟨W1.heap.size, 0, none⟩ = some (.slice A' ps.length c') := hc5
        go_simp
        refine hK _ _ ?_
        clear hK K
        try simp only [Act.put, sQa, sQb, sQc, gQa, gQb, gQc]
        refine wpAnyIn_ready (rs := [6]) (by kernel_rfl) (by simp) ?_
        refine AllReadyIn.cons rfl (fun K hK => ?_) AllReadyIn.nil
        refine stepIn_appOwnG slotPr (by rfl) (.tmp 18) (.tmp 23) rfl W0.heap.size W0.heap.size A' (some ⟨w3.heap.size, 0, none⟩) ps.length 1 c' 1 ps [y] _ rfl rfl rfl rfl (ho.bel X5) src5.out hF5.out (by simp; omega) (Nat.le_trans hB0 X5.size) ?_
        intro A6 c6 w6 ho6 hb6 hg6
        have hv6 : Boxed w6 W1.heap.size 86 (.slice A' ps.length c') := boxed_bel (boxed_bel hv.out X5 hv.out.lt) hb6 (by omega)
        have hc6 := hv6.cell
        have hf6 := hv6.frozen
        replace ho6 := hid ho6
        refine hK _ _ ?_
        clear hK K
        try simp only [Act.put, sQa, sQb, sQc, gQa, gQb, gQc]
        refine wpAnyIn_ready (rs := [7]) (by kernel_rfl) (by simp) ?_
        refine AllReadyIn.cons rfl (fun K hK => ?_) AllReadyIn.nil
        go_simp
        refine hK _ _ ?_
        clear hK K
        try simp only [Act.put, sQa, sQb, sQc, gQa, gQb, gQc]
        refine wpAnyIn_done (by kernel_rfl) ?_ _
        gi_wp2
        have F := FIN.out w5 X5 A6 c6 w6 ho6.out hb6 hg6 hv6
        rw [show (ps ++ [y]).length = ps.length + 1 by simp] at F
        exact F
      refine AllReadyIn.cons rfl (fun K hK => ?_) AllReadyIn.nil
      go_simp
      refine hK _ _ ?_
      clear hK K
      try simp only [Act.put, sQa, sQb, sQc, gQa, gQb, gQc]
      refine wpAnyIn_ready (rs := [0, 1, 3]) (by kernel_rfl) (by simp) ?_
      refine AllReadyIn.cons rfl (fun K hK => ?_) ?_
      · skip
        go_simp
        refine hK _ _ ?_
        clear hK K
        try simp only [Act.put, sQa, sQb, sQc, gQa, gQb, gQc]
        refine wpAnyIn_ready (rs := [1, 3]) (by kernel_rfl) (by simp) ?_
        refine AllReadyIn.cons rfl (fun K hK => ?_) ?_
        · skip
          refine stepIn_load_row (by rfl) 35 (.tmp 6) rfl b6 rfl 35 (y.k.1.map bv).toArray (0, 0) _ ((X0.block _ (block_lt h6)).trans h6) hud rfl hsz.out ?_
          refine hK _ _ ?_
          clear hK K
          try simp only [Act.put, sQa, sQb, sQc, gQa, gQb, gQc]
          refine wpAnyIn_ready (rs := [3]) (by kernel_rfl) (by simp) ?_
          refine AllReadyIn.cons rfl (fun K hK => ?_) AllReadyIn.nil
          go_simp
          refine ⟨trivial, CallsIn.inRound l (callsIn_wide.2 ((Clone_any A2 y.v.length c2 y.v W.drew (hRW.out.bel X0) rfl (by omega)).mono ?_))⟩
          rintro e w3 ⟨A3, c3, rfl, ho3, hb3⟩
          have X3 : Below W.heap.size W w3 := X0.trans (hb3.mono X0.size)
          replace ho3 := hid (ho3.base (B' := W.heap.size) X0.size)
          simp only []
          refine hK _ _ ?_
          clear hK K
          try simp only [Act.put, sQa, sQb, sQc, gQa, gQb, gQc]
          refine wpAnyIn_ready (rs := [4]) (by kernel_rfl) (by simp) ?_
          refine AllReadyIn.cons rfl (fun K hK => ?_) AllReadyIn.nil
          refine stepIn_built (by rfl) 90 _ rfl _ _ (built_pr y.k (.slice A3 y.v.length c3) rfl) rfl ?_
          refine hK _ _ ?_
          clear hK K
          try simp only [Act.put, sQa, sQb, sQc, gQa, gQb, gQc]
          refine wpAnyIn_ready (rs := [5]) (by kernel_rfl) (by simp) ?_
          refine AllReadyIn.cons rfl (fun K hK => ?_) AllReadyIn.nil
          refine stepIn_buildOne slotPr (by decide) (by rfl) (.tmp 22) rfl (y.k.1.map bv ++ [.slice A3 y.v.length c3]) rfl (len_pr _ _) ?_
          intro w5 hw5
          have X5 : Below W.heap.size W w5 := hw5 ▸ X3.trans ((ext_alloc w3 _).mono X3.size)
          have src5 : Hid (Src (fun b => ∃ a, A3 = some a ∧ b = a.block) w5 (some ⟨w3.heap.size, 0, none⟩) [y]) := hid (hw5 ▸ src_alloc (rep_pr_own ho3.out))
          have hF5 : Hid (∀ b, (∃ a, A3 = some a ∧ b = a.block) → W0.heap.size ≤ b ∧ Soft w5 b ∧ ∀ a, A' = some a → b ≠ a.block) := hid (PF.out A3 c3 w3 ho3.out w5 (hw5 ▸ ext_alloc w3 _))
          clear hw5
          refine hK _ _ ?_
          clear hK K
          try simp only [Act.put, sQa, sQb, sQc, gQa, gQb, gQc]
          refine wpAnyIn_ready (rs := [6]) (by kernel_rfl) (by simp) ?_
          refine AllReadyIn.cons rfl (fun K hK => ?_) AllReadyIn.nil
          refine stepIn_appOwnG slotPr (by rfl) (.tmp 18) (.tmp 23) rfl W0.heap.size W0.heap.size A' (some ⟨w3.heap.size, 0, none⟩) ps.length 1 c' 1 ps [y] _ rfl rfl rfl rfl (ho.bel X5) src5.out hF5.out (by simp; omega) (Nat.le_trans hB0 X5.size) ?_
          intro A6 c6 w6 ho6 hb6 hg6
          have hv6 : Boxed w6 W1.heap.size 86 (.slice A' ps.length c') := boxed_bel (boxed_bel hv.out X5 hv.out.lt) hb6 (by omega)
          have hc6 := hv6.cell
          have hf6 := hv6.frozen
          replace ho6 := hid ho6
          refine hK _ _ ?_
          clear hK K
          try simp only [Act.put, sQa, sQb, sQc, gQa, gQb, gQc]
          refine wpAnyIn_ready (rs := [7]) (by kernel_rfl) (by simp) ?_
          refine AllReadyIn.cons rfl (fun K hK => ?_) AllReadyIn.nil
          go_simp
          refine hK _ _ ?_
          clear hK K
          try simp only [Act.put, sQa, sQb, sQc, gQa, gQb, gQc]
          refine wpAnyIn_done (by kernel_rfl) ?_ _
          gi_wp2
          have F := FIN.out w5 X5 A6 c6 w6 ho6.out hb6 hg6 hv6
          rw [show (ps ++ [y]).length = ps.length + 1 by simp] at F
          exact F
        refine AllReadyIn.cons rfl (fun K hK => ?_) AllReadyIn.nil
        go_simp
        refine ⟨trivial, CallsIn.inRound l (callsIn_wide.2 ((Clone_any A2 y.v.length c2 y.v W.drew (hRW.out.bel X0) rfl (by omega)).mono ?_))⟩
        rintro e w3 ⟨A3, c3, rfl, ho3, hb3⟩
        have X3 : Below W.heap.size W w3 := X0.trans (hb3.mono X0.size)
        replace ho3 := hid (ho3.base (B' := W.heap.size) X0.size)
        simp only []
        refine hK _ _ ?_
        clear hK K
        try simp only [Act.put, sQa, sQb, sQc, gQa, gQb, gQc]
        refine wpAnyIn_ready (rs := [1]) (by kernel_rfl) (by simp) ?_
        refine AllReadyIn.cons rfl (fun K hK => ?_) AllReadyIn.nil
        refine stepIn_load_row (by rfl) 35 (.tmp 6) rfl b6 rfl 35 (y.k.1.map bv).toArray (0, 0) _ ((X3.block _ (block_lt h6)).trans h6) hud rfl hsz.out ?_
        refine hK _ _ ?_
        clear hK K
        try simp only [Act.put, sQa, sQb, sQc, gQa, gQb, gQc]
        refine wpAnyIn_ready (rs := [4]) (by kernel_rfl) (by simp) ?_
        refine AllReadyIn.cons rfl (fun K hK => ?_) AllReadyIn.nil
        refine stepIn_built (by rfl) 90 _ rfl _ _ (built_pr y.k (.slice A3 y.v.length c3) rfl) rfl ?_
        refine hK _ _ ?_
        clear hK K
        try simp only [Act.put, sQa, sQb, sQc, gQa, gQb, gQc]
        refine wpAnyIn_ready (rs := [5]) (by kernel_rfl) (by simp) ?_
        refine AllReadyIn.cons rfl (fun K hK => ?_) AllReadyIn.nil
        refine stepIn_buildOne slotPr (by decide) (by rfl) (.tmp 22) rfl (y.k.1.map bv ++ [.slice A3 y.v.length c3]) rfl (len_pr _ _) ?_
        intro w5 hw5
        have X5 : Below W.heap.size W w5 := hw5 ▸ X3.trans ((ext_alloc w3 _).mono X3.size)
        have src5 : Hid (Src (fun b => ∃ a, A3 = some a ∧ b = a.block) w5 (some ⟨w3.heap.size, 0, none⟩) [y]) := hid (hw5 ▸ src_alloc (rep_pr_own ho3.out))
        have hF5 : Hid (∀ b, (∃ a, A3 = some a ∧ b = a.block) → W0.heap.size ≤ b ∧ Soft w5 b ∧ ∀ a, A' = some a → b ≠ a.block) := hid (PF.out A3 c3 w3 ho3.out w5 (hw5 ▸ ext_alloc w3 _))
        clear hw5
        refine hK _ _ ?_
        clear hK K
        try simp only [Act.put, sQa, sQb, sQc, gQa, gQb, gQc]
        refine wpAnyIn_ready (rs := [6]) (by kernel_rfl) (by simp) ?_
        refine AllReadyIn.cons rfl (fun K hK => ?_) AllReadyIn.nil
        refine stepIn_appOwnG slotPr (by rfl) (.tmp 18) (.tmp 23) rfl W0.heap.size W0.heap.size A' (some ⟨w3.heap.size, 0, none⟩) ps.length 1 c' 1 ps [y] _ rfl rfl rfl rfl (ho.bel X5) src5.out hF5.out (by simp; omega) (Nat.le_trans hB0 X5.size) ?_
        intro A6 c6 w6 ho6 hb6 hg6
        have hv6 : Boxed w6 W1.heap.size 86 (.slice A' ps.length c') := boxed_bel (boxed_bel hv.out X5 hv.out.lt) hb6 (by omega)
        have hc6 := hv6.cell
        have hf6 := hv6.frozen
        replace ho6 := hid ho6
        refine hK _ _ ?_
        clear hK K
        try simp only [Act.put, sQa, sQb, sQc, gQa, gQb, gQc]
        refine wpAnyIn_ready (rs := [7]) (by kernel_rfl) (by simp) ?_
        refine AllReadyIn.cons rfl (fun K hK => ?_) AllReadyIn.nil
        go_simp
        refine hK _ _ ?_
        clear hK K
        try simp only [Act.put, sQa, sQb, sQc, gQa, gQb, gQc]
        refine wpAnyIn_done (by kernel_rfl) ?_ _
        gi_wp2
        have F := FIN.out w5 X5 A6 c6 w6 ho6.out hb6 hg6 hv6
        rw [show (ps ++ [y]).length = ps.length + 1 by simp] at F
        exact F
      refine AllReadyIn.cons rfl (fun K hK => ?_) ?_
      · skip
        refine stepIn_load_row (by rfl) 35 (.tmp 6) rfl b6 rfl 35 (y.k.1.map bv).toArray (0, 0) _ ((X0.block _ (block_lt h6)).trans h6) hud rfl hsz.out ?_
        refine hK _ _ ?_
        clear hK K
        try simp only [Act.put, sQa, sQb, sQc, gQa, gQb, gQc]
        refine wpAnyIn_ready (rs := [0, 3]) (by kernel_rfl) (by simp) ?_
        refine AllReadyIn.cons rfl (fun K hK => ?_) ?_
        · skip
          go_simp
          refine hK _ _ ?_
          clear hK K
          try simp only [Act.put, sQa, sQb, sQc, gQa, gQb, gQc]
          refine wpAnyIn_ready (rs := [3]) (by kernel_rfl) (by simp) ?_
          refine AllReadyIn.cons rfl (fun K hK => ?_) AllReadyIn.nil
          go_simp
          refine ⟨trivial, CallsIn.inRound l (callsIn_wide.2 ((Clone_any A2 y.v.length c2 y.v W.drew (hRW.out.bel X0) rfl (by omega)).mono ?_))⟩
          rintro e w3 ⟨A3, c3, rfl, ho3, hb3⟩
          have X3 : Below W.heap.size W w3 := X0.trans (hb3.mono X0.size)
          replace ho3 := hid (ho3.base (B' := W.heap.size) X0.size)
          simp only []
          refine hK _ _ ?_
          clear hK K
          try simp only [Act.put, sQa, sQb, sQc, gQa, gQb, gQc]
          refine wpAnyIn_ready (rs := [4]) (by kernel_rfl) (by simp) ?_
          refine AllReadyIn.cons rfl (fun K hK => ?_) AllReadyIn.nil
          refine stepIn_built (by rfl) 90 _ rfl _ _ (built_pr y.k (.slice A3 y.v.length c3) rfl) rfl ?_
          refine hK _ _ ?_
          clear hK K
          try simp only [Act.put, sQa, sQb, sQc, gQa, gQb, gQc]
          refine wpAnyIn_ready (rs := [5]) (by kernel_rfl) (by simp) ?_
          refine AllReadyIn.cons rfl (fun K hK => ?_) AllReadyIn.nil
          refine stepIn_buildOne slotPr (by decide) (by rfl) (.tmp 22) rfl (y.k.1.map bv ++ [.slice A3 y.v.length c3]) rfl (len_pr _ _) ?_
          intro w5 hw5
          have X5 : Below W.heap.size W w5 := hw5 ▸ X3.trans ((ext_alloc w3 _).mono X3.size)
          have src5 : Hid (Src (fun b => ∃ a, A3 = some a ∧ b = a.block) w5 (some ⟨w3.heap.size, 0, none⟩) [y]) := hid (hw5 ▸ src_alloc (rep_pr_own ho3.out))
          have hF5 : Hid (∀ b, (∃ a, A3 = some a ∧ b = a.block) → W0.heap.size ≤ b ∧ Soft w5 b ∧ ∀ a, A' = some a → b ≠ a.block) := hid (PF.out A3 c3 w3 ho3.out w5 (hw5 ▸ ext_alloc w3 _))
          clear hw5
          refine hK _ _ ?_
          clear hK K
          try simp only [Act.put, sQa, sQb, sQc, gQa, gQb, gQc]
          refine wpAnyIn_ready (rs := [6]) (by kernel_rfl) (by simp) ?_
          refine AllReadyIn.cons rfl (fun K hK => ?_) AllReadyIn.nil
          refine stepIn_appOwnG slotPr (by rfl) (.tmp 18) (.tmp 23) rfl W0.heap.size W0.heap.size A' (some ⟨w3.heap.size, 0, none⟩) ps.length 1 c' 1 ps [y] _ rfl rfl rfl rfl (ho.bel X5) src5.out hF5.out (by simp; omega) (Nat.le_trans hB0 X5.size) ?_
          intro A6 c6 w6 ho6 hb6 hg6
          have hv6 : Boxed w6 W1.heap.size 86 (.slice A' ps.length c') := boxed_bel (boxed_bel hv.out X5 hv.out.lt) hb6 (by omega)
          have hc6 := hv6.cell
          have hf6 := hv6.frozen
          replace ho6 := hid ho6
          refine hK _ _ ?_
          clear hK K
          try simp only [Act.put, sQa, sQb, sQc, gQa, gQb, gQc]
          refine wpAnyIn_ready (rs := [7]) (by kernel_rfl) (by simp) ?_
          refine AllReadyIn.cons rfl (fun K hK => ?_) AllReadyIn.nil
          go_simp
          refine hK _ _ ?_
          clear hK K
          try simp only [Act.put, sQa, sQb, sQc, gQa, gQb, gQc]
          refine wpAnyIn_done (by kernel_rfl) ?_ _
          gi_wp2
          have F := FIN.out w5 X5 A6 c6 w6 ho6.out hb6 hg6 hv6
          rw [show (ps ++ [y]).length = ps.length + 1 by simp] at F
          exact F
        refine AllReadyIn.cons rfl (fun K hK => ?_) AllReadyIn.nil
        go_simp
        refine ⟨trivial, CallsIn.inRound l (callsIn_wide.2 ((Clone_any A2 y.v.length c2 y.v W.drew (hRW.out.bel X0) rfl (by omega)).mono ?_))⟩
        rintro e w3 ⟨A3, c3, rfl, ho3, hb3⟩
        have X3 : Below W.heap.size W w3 := X0.trans (hb3.mono X0.size)
        replace ho3 := hid (ho3.base (B' := W.heap.size) X0.size)
        simp only []
        refine hK _ _ ?_
        clear hK K
        try simp only [Act.put, sQa, sQb, sQc, gQa, gQb, gQc]
        refine wpAnyIn_ready (rs := [0, 4]) (by kernel_rfl) (by simp) ?_
        refine AllReadyIn.cons rfl (fun K hK => ?_) ?_
        · skip
          have hc3 := (X3.cell (p := ⟨W1.heap.size, 0, none⟩) (World.block_lt_of_cell? _ _ hcv)).trans hcv
          replace hc3 : (w3).cell? ⟨W1.heap.size, 0, none⟩ = some (.slice A' ps.length c') := hc3
          go_simp
          refine hK _ _ ?_
          clear hK K
          try simp only [Act.put, sQa, sQb, sQc, gQa, gQb, gQc]
          refine wpAnyIn_ready (rs := [4]) (by kernel_rfl) (by simp) ?_
          refine AllReadyIn.cons rfl (fun K hK => ?_) AllReadyIn.nil
          refine stepIn_built (by rfl) 90 _ rfl _ _ (built_pr y.k (.slice A3 y.v.length c3) rfl) rfl ?_
          refine hK _ _ ?_
          clear hK K
          try simp only [Act.put, sQa, sQb, sQc, gQa, gQb, gQc]
          refine wpAnyIn_ready (rs := [5]) (by kernel_rfl) (by simp) ?_
          refine AllReadyIn.cons rfl (fun K hK => ?_) AllReadyIn.nil
          refine stepIn_buildOne slotPr (by decide) (by rfl) (.tmp 22) rfl (y.k.1.map bv ++ [.slice A3 y.v.length c3]) rfl (len_pr _ _) ?_
          intro w5 hw5
          have X5 : Below W.heap.size W w5 := hw5 ▸ X3.trans ((ext_alloc w3 _).mono X3.size)
          have src5 : Hid (Src (fun b => ∃ a, A3 = some a ∧ b = a.block) w5 (some ⟨w3.heap.size, 0, none⟩) [y]) := hid (hw5 ▸ src_alloc (rep_pr_own ho3.out))
          have hF5 : Hid (∀ b, (∃ a, A3 = some a ∧ b = a.block) → W0.heap.size ≤ b ∧ Soft w5 b ∧ ∀ a, A' = some a → b ≠ a.block) := hid (PF.out A3 c3 w3 ho3.out w5 (hw5 ▸ ext_alloc w3 _))
          clear hw5
          refine hK _ _ ?_
          clear hK K
          try simp only [Act.put, sQa, sQb, sQc, gQa, gQb, gQc]
          refine wpAnyIn_ready (rs := [6]) (by kernel_rfl) (by simp) ?_
          refine AllReadyIn.cons rfl (fun K hK => ?_) AllReadyIn.nil
          refine stepIn_appOwnG slotPr (by rfl) (.tmp 18) (.tmp 23) rfl W0.heap.size W0.heap.size A' (some ⟨w3.heap.size, 0, none⟩) ps.length 1 c' 1 ps [y] _ rfl rfl rfl rfl (ho.bel X5) src5.out hF5.out (by simp; omega) (Nat.le_trans hB0 X5.size) ?_
          intro A6 c6 w6 ho6 hb6 hg6
          have hv6 : Boxed w6 W1.heap.size 86 (.slice A' ps.length c') := boxed_bel (boxed_bel hv.out X5 hv.out.lt) hb6 (by omega)
          have hc6 := hv6.cell
          have hf6 := hv6.frozen
          replace ho6 := hid ho6
          refine hK _ _ ?_
          clear hK K
          try simp only [Act.put, sQa, sQb, sQc, gQa, gQb, gQc]
          refine wpAnyIn_ready (rs := [7]) (by kernel_rfl) (by simp) ?_
          refine AllReadyIn.cons rfl (fun K hK => ?_) AllReadyIn.nil
          go_simp
          refine hK _ _ ?_
          clear hK K
          try simp only [Act.put, sQa, sQb, sQc, gQa, gQb, gQc]
          refine wpAnyIn_done (by kernel_rfl) ?_ _
          gi_wp2
          have F := FIN.out w5 X5 A6 c6 w6 ho6.out hb6 hg6 hv6
          rw [show (ps ++ [y]).length = ps.length + 1 by simp] at F
          exact F
        refine AllReadyIn.cons rfl (fun K hK => ?_) AllReadyIn.nil
        refine stepIn_built (by rfl) 90 _ rfl _ _ (built_pr y.k (.slice A3 y.v.length c3) rfl) rfl ?_
        refine hK _ _ ?_
        clear hK K
        try simp only [Act.put, sQa, sQb, sQc, gQa, gQb, gQc]
        refine wpAnyIn_ready (rs := [0, 5]) (by kernel_rfl) (by simp) ?_
        refine AllReadyIn.cons rfl (fun K hK => ?_) ?_
        · skip
          have hc3 := (X3.cell (p := ⟨W1.heap.size, 0, none⟩) (World.block_lt_of_cell? _ _ hcv)).trans hcv
          replace hc3 : (w3).cell? ⟨W1.heap.size, 0, none⟩ = some (.slice A' ps.length c') := hc3
          go_simp
          refine hK _ _ ?_
          clear hK K
          try simp only [Act.put, sQa, sQb, sQc, gQa, gQb, gQc]
          refine wpAnyIn_ready (rs := [5]) (by kernel_rfl) (by simp) ?_
          refine AllReadyIn.cons rfl (fun K hK => ?_) AllReadyIn.nil
          refine stepIn_buildOne slotPr (by decide) (by rfl) (.tmp 22) rfl (y.k.1.map bv ++ [.slice A3 y.v.length c3]) rfl (len_pr _ _) ?_
          intro w5 hw5
          have X5 : Below W.heap.size W w5 := hw5 ▸ X3.trans ((ext_alloc w3 _).mono X3.size)
          have src5 : Hid (Src (fun b => ∃ a, A3 = some a ∧ b = a.block) w5 (some ⟨w3.heap.size, 0, none⟩) [y]) := hid (hw5 ▸ src_alloc (rep_pr_own ho3.out))
          have hF5 : Hid (∀ b, (∃ a, A3 = some a ∧ b = a.block) → W0.heap.size ≤ b ∧ Soft w5 b ∧ ∀ a, A' = some a → b ≠ a.block) := hid (PF.out A3 c3 w3 ho3.out w5 (hw5 ▸ ext_alloc w3 _))
          clear hw5
          refine hK _ _ ?_
          clear hK K
          try simp only [Act.put, sQa, sQb, sQc, gQa, gQb, gQc]
          refine wpAnyIn_ready (rs := [6]) (by kernel_rfl) (by simp) ?_
          refine AllReadyIn.cons rfl (fun K hK => ?_) AllReadyIn.nil
          refine stepIn_appOwnG slotPr (by rfl) (.tmp 18) (.tmp 23) rfl W0.heap.size W0.heap.size A' (some ⟨w3.heap.size, 0, none⟩) ps.length 1 c' 1 ps [y] _ rfl rfl rfl rfl (ho.bel X5) src5.out hF5.out (by simp; omega) (Nat.le_trans hB0 X5.size) ?_
          intro A6 c6 w6 ho6 hb6 hg6
          have hv6 : Boxed w6 W1.heap.size 86 (.slice A' ps.length c') := boxed_bel (boxed_bel hv.out X5 hv.out.lt) hb6 (by omega)
          have hc6 := hv6.cell
          have hf6 := hv6.frozen
          replace ho6 := hid ho6
          refine hK _ _ ?_
          clear hK K
          try simp only [Act.put, sQa, sQb, sQc, gQa, gQb, gQc]
          refine wpAnyIn_ready (rs := [7]) (by kernel_rfl) (by simp) ?_
          refine AllReadyIn.cons rfl (fun K hK => ?_) AllReadyIn.nil
          go_simp
          refine hK _ _ ?_
          clear hK K
          try simp only [Act.put, sQa, sQb, sQc, gQa, gQb, gQc]
          refine wpAnyIn_done (by kernel_rfl) ?_ _
          gi_wp2
          have F := FIN.out w5 X5 A6 c6 w6 ho6.out hb6 hg6 hv6
          rw [show (ps ++ [y]).length = ps.length + 1 by simp] at F
          exact F
        refine AllReadyIn.cons rfl (fun K hK => ?_) AllReadyIn.nil
        refine stepIn_buildOne slotPr (by decide) (by rfl) (.tmp 22) rfl (y.k.1.map bv ++ [.slice A3 y.v.length c3]) rfl (len_pr _ _) ?_
        intro w5 hw5
        have X5 : Below W.heap.size W w5 := hw5 ▸ X3.trans ((ext_alloc w3 _).mono X3.size)
        have src5 : Hid (Src (fun b => ∃ a, A3 = some a ∧ b = a.block) w5 (some ⟨w3.heap.size, 0, none⟩) [y]) := hid (hw5 ▸ src_alloc (rep_pr_own ho3.out))
        have hF5 : Hid (∀ b, (∃ a, A3 = some a ∧ b = a.block) → W0.heap.size ≤ b ∧ Soft w5 b ∧ ∀ a, A' = some a → b ≠ a.block) := hid (PF.out A3 c3 w3 ho3.out w5 (hw5 ▸ ext_alloc w3 _))
        clear hw5
        refine hK _ _ ?_
        clear hK K
        try simp only [Act.put, sQa, sQb, sQc, gQa, gQb, gQc]
        refine wpAnyIn_ready (rs := [0]) (by kernel_rfl) (by simp) ?_
        refine AllReadyIn.cons rfl (fun K hK => ?_) AllReadyIn.nil
        have hc5 := (X5.cell (p := ⟨W1.heap.size, 0, none⟩) (World.block_lt_of_cell? _ _ hcv)).trans hcv
        replace hc5 : (w5).cell? ⟨W1.heap.size, 0, none⟩ = some (.slice A' ps.length c') := hc5
        go_simp
        refine hK _ _ ?_
        clear hK K
        try simp only [Act.put, sQa, sQb, sQc, gQa, gQb, gQc]
        refine wpAnyIn_ready (rs := [6]) (by kernel_rfl) (by simp) ?_
        refine AllReadyIn.cons rfl (fun K hK => ?_) AllReadyIn.nil
        refine stepIn_appOwnG slotPr (by rfl) (.tmp 18) (.tmp 23) rfl W0.heap.size W0.heap.size A' (some ⟨w3.heap.size, 0, none⟩) ps.length 1 c' 1 ps [y] _ rfl rfl rfl rfl (ho.bel X5) src5.out hF5.out (by simp; omega) (Nat.le_trans hB0 X5.size) ?_
        intro A6 c6 w6 ho6 hb6 hg6
        have hv6 : Boxed w6 W1.heap.size 86 (.slice A' ps.length c') := boxed_bel (boxed_bel hv.out X5 hv.out.lt) hb6 (by omega)
        have hc6 := hv6.cell
        have hf6 := hv6.frozen
        replace ho6 := hid ho6
        refine hK _ _ ?_
        clear hK K
        try simp only [Act.put, sQa, sQb, sQc, gQa, gQb, gQc]
        refine wpAnyIn_ready (rs := [7]) (by kernel_rfl) (by simp) ?_
        refine AllReadyIn.cons rfl (fun K hK => ?_) AllReadyIn.nil
        go_simp
        refine hK _ _ ?_
        clear hK K
        try simp only [Act.put, sQa, sQb, sQc, gQa, gQb, gQc]
        refine wpAnyIn_done (by kernel_rfl) ?_ _
        gi_wp2
        have F := FIN.out w5 X5 A6 c6 w6 ho6.out hb6 hg6 hv6
        rw [show (ps ++ [y]).length = ps.length + 1 by simp] at F
        exact F
      refine AllReadyIn.cons rfl (fun K hK => ?_) AllReadyIn.nil
      go_simp
      refine ⟨trivial, CallsIn.inRound l (callsIn_wide.2 ((Clone_any A2 y.v.length c2 y.v W.drew (hRW.out.bel X0) rfl (by omega)).mono ?_))⟩
      rintro e w3 ⟨A3, c3, rfl, ho3, hb3⟩
      have X3 : Below W.heap.size W w3 := X0.trans (hb3.mono X0.size)
      replace ho3 := hid (ho3.base (B' := W.heap.size) X0.size)
      simp only []
      refine hK _ _ ?_
      clear hK K
      try simp only [Act.put, sQa, sQb, sQc, gQa, gQb, gQc]
      refine wpAnyIn_ready (rs := [0, 1]) (by kernel_rfl) (by simp) ?_
      refine AllReadyIn.cons rfl (fun K hK => ?_) ?_
      · skip
        have hc3 := (X3.cell (p := ⟨W1.heap.size, 0, none⟩) (World.block_lt_of_cell? _ _ hcv)).trans hcv
        replace hc3 : (w3).cell? ⟨W1.heap.size, 0, none⟩ = some (.slice A' ps.length c') := hc3
        go_simp
        refine hK _ _ ?_
        clear hK K
        try simp only [Act.put, sQa, sQb, sQc, gQa, gQb, gQc]
        refine wpAnyIn_ready (rs := [1]) (by kernel_rfl) (by simp) ?_
        refine AllReadyIn.cons rfl (fun K hK => ?_) AllReadyIn.nil
        refine stepIn_load_row (by rfl) 35 (.tmp 6) rfl b6 rfl 35 (y.k.1.map bv).toArray (0, 0) _ ((X3.block _ (block_lt h6)).trans h6) hud rfl hsz.out ?_
        refine hK _ _ ?_
        clear hK K
        try simp only [Act.put, sQa, sQb, sQc, gQa, gQb, gQc]
        refine wpAnyIn_ready (rs := [4]) (by kernel_rfl) (by simp) ?_
        refine AllReadyIn.cons rfl (fun K hK => ?_) AllReadyIn.nil
        refine stepIn_built (by rfl) 90 _ rfl _ _ (built_pr y.k (.slice A3 y.v.length c3) rfl) rfl ?_
        refine hK _ _ ?_
        clear hK K
        try simp only [Act.put, sQa, sQb, sQc, gQa, gQb, gQc]
        refine wpAnyIn_ready (rs := [5]) (by kernel_rfl) (by simp) ?_
        refine AllReadyIn.cons rfl (fun K hK => ?_) AllReadyIn.nil
        refine stepIn_buildOne slotPr (by decide) (by rfl) (.tmp 22) rfl (y.k.1.map bv ++ [.slice A3 y.v.length c3]) rfl (len_pr _ _) ?_
        intro w5 hw5
        have X5 : Below W.heap.size W w5 := hw5 ▸ X3.trans ((ext_alloc w3 _).mono X3.size)
        have src5 : Hid (Src (fun b => ∃ a, A3 = some a ∧ b = a.block) w5 (some ⟨w3.heap.size, 0, none⟩) [y]) := hid (hw5 ▸ src_alloc (rep_pr_own ho3.out))
        have hF5 : Hid (∀ b, (∃ a, A3 = some a ∧ b = a.block) → W0.heap.size ≤ b ∧ Soft w5 b ∧ ∀ a, A' = some a → b ≠ a.block) := hid (PF.out A3 c3 w3 ho3.out w5 (hw5 ▸ ext_alloc w3 _))
        clear hw5
        refine hK _ _ ?_
        clear hK K
        try simp only [Act.put, sQa, sQb, sQc, gQa, gQb, gQc]
        refine wpAnyIn_ready (rs := [6]) (by kernel_rfl) (by simp) ?_
        refine AllReadyIn.cons rfl (fun K hK => ?_) AllReadyIn.nil
        refine stepIn_appOwnG slotPr (by rfl) (.tmp 18) (.tmp 23) rfl W0.heap.size W0.heap.size A' (some ⟨w3.heap.size, 0, none⟩) ps.length 1 c' 1 ps [y] _ rfl rfl rfl rfl (ho.bel X5) src5.out hF5.out (by simp; omega) (Nat.le_trans hB0 X5.size) ?_
        intro A6 c6 w6 ho6 hb6 hg6
        have hv6 : Boxed w6 W1.heap.size 86 (.slice A' ps.length c') := boxed_bel (boxed_bel hv.out X5 hv.out.lt) hb6 (by omega)
        have hc6 := hv6.cell
        have hf6 := hv6.frozen
        replace ho6 := hid ho6
        refine hK _ _ ?_
        clear hK K
        try simp only [Act.put, sQa, sQb, sQc, gQa, gQb, gQc]
        refine wpAnyIn_ready (rs := [7]) (by kernel_rfl) (by simp) ?_
        refine AllReadyIn.cons rfl (fun K hK => ?_) AllReadyIn.nil
        go_simp
        refine hK _ _ ?_
        clear hK K
        try simp only [Act.put, sQa, sQb, sQc, gQa, gQb, gQc]
        refine wpAnyIn_done (by kernel_rfl) ?_ _
        gi_wp2
        have F := FIN.out w5 X5 A6 c6 w6 ho6.out hb6 hg6 hv6
        rw [show (ps ++ [y]).length = ps.length + 1 by simp] at F
        exact F
      refine AllReadyIn.cons rfl (fun K hK => ?_) AllReadyIn.nil
      refine stepIn_load_row (by rfl) 35 (.tmp 6) rfl b6 rfl 35 (y.k.1.map bv).toArray (0, 0) _ ((X3.block _ (block_lt h6)).trans h6) hud rfl hsz.out ?_
      refine hK _ _ ?_
      clear hK K
      try simp only [Act.put, sQa, sQb, sQc, gQa, gQb, gQc]
      refine wpAnyIn_ready (rs := [0, 4]) (by kernel_rfl) (by simp) ?_
      refine AllReadyIn.cons rfl (fun K hK => ?_) ?_
      · skip
        have hc3 := (X3.cell (p := ⟨W1.heap.size, 0, none⟩) (World.block_lt_of_cell? _ _ hcv)).trans hcv
        replace hc3 : (w3).cell? ⟨W1.heap.size, 0, none⟩ = some (.slice A' ps.length c') := hc3
        go_simp
        refine hK _ _ ?_
        clear hK K
        try simp only [Act.put, sQa, sQb, sQc, gQa, gQb, gQc]
        refine wpAnyIn_ready (rs := [4]) (by kernel_rfl) (by simp) ?_
        refine AllReadyIn.cons rfl (fun K hK => ?_) AllReadyIn.nil
        refine stepIn_built (by rfl) 90 _ rfl _ _ (built_pr y.k (.slice A3 y.v.length c3) rfl) rfl ?_
        refine hK _ _ ?_
        clear hK K
        try simp only [Act.put, sQa, sQb, sQc, gQa, gQb, gQc]
        refine wpAnyIn_ready (rs := [5]) (by kernel_rfl) (by simp) ?_
        refine AllReadyIn.cons rfl (fun K hK => ?_) AllReadyIn.nil
        refine stepIn_buildOne slotPr (by decide) (by rfl) (.tmp 22) rfl (y.k.1.map bv ++ [.slice A3 y.v.length c3]) rfl (len_pr _ _) ?_
        intro w5 hw5
        have X5 : Below W.heap.size W w5 := hw5 ▸ X3.trans ((ext_alloc w3 _).mono X3.size)
        have src5 : Hid (Src (fun b => ∃ a, A3 = some a ∧ b = a.block) w5 (some ⟨w3.heap.size, 0, none⟩) [y]) := hid (hw5 ▸ src_alloc (rep_pr_own ho3.out))
        have hF5 : Hid (∀ b, (∃ a, A3 = some a ∧ b = a.block) → W0.heap.size ≤ b ∧ Soft w5 b ∧ ∀ a, A' = some a → b ≠ a.block) := hid (PF.out A3 c3 w3 ho3.out w5 (hw5 ▸ ext_alloc w3 _))
        clear hw5
        refine hK _ _ ?_
        clear hK K
        try simp only [Act.put, sQa, sQb, sQc, gQa, gQb, gQc]
        refine wpAnyIn_ready (rs := [6]) (by kernel_rfl) (by simp) ?_
        refine AllReadyIn.cons rfl (fun K hK => ?_) AllReadyIn.nil
        refine stepIn_appOwnG slotPr (by rfl) (.tmp 18) (.tmp 23) rfl W0.heap.size W0.heap.size A' (some ⟨w3.heap.size, 0, none⟩) ps.length 1 c' 1 ps [y] _ rfl rfl rfl rfl (ho.bel X5) src5.out hF5.out (by simp; omega) (Nat.le_trans hB0 X5.size) ?_
        intro A6 c6 w6 ho6 hb6 hg6
        have hv6 : Boxed w6 W1.heap.size 86 (.slice A' ps.length c') := boxed_bel (boxed_bel hv.out X5 hv.out.lt) hb6 (by omega)
        have hc6 := hv6.cell
        have hf6 := hv6.frozen
        replace ho6 := hid ho6
        refine hK _ _ ?_
        clear hK K
        try simp only [Act.put, sQa, sQb, sQc, gQa, gQb, gQc]
        refine wpAnyIn_ready (rs := [7]) (by kernel_rfl) (by simp) ?_
        refine AllReadyIn.cons rfl (fun K hK => ?_) AllReadyIn.nil
        go_simp
        refine hK _ _ ?_
        clear hK K
        try simp only [Act.put, sQa, sQb, sQc, gQa, gQb, gQc]
        refine wpAnyIn_done (by kernel_rfl) ?_ _
        gi_wp2
        have F := FIN.out w5 X5 A6 c6 w6 ho6.out hb6 hg6 hv6
        rw [show (ps ++ [y]).length = ps.length + 1 by simp] at F
        exact F
      refine AllReadyIn.cons rfl (fun K hK => ?_) AllReadyIn.nil
      refine stepIn_built (by rfl) 90 _ rfl _ _ (built_pr y.k (.slice A3 y.v.length c3) rfl) rfl ?_
      refine hK _ _ ?_
      clear hK K
      try simp only [Act.put, sQa, sQb, sQc, gQa, gQb, gQc]
      refine wpAnyIn_ready (rs := [0, 5]) (by kernel_rfl) (by simp) ?_
      refine AllReadyIn.cons rfl (fun K hK => ?_) ?_
      · skip
        have hc3 := (X3.cell (p := ⟨W1.heap.size, 0, none⟩) (World.block_lt_of_cell? _ _ hcv)).trans hcv
        replace hc3 : (w3).cell? ⟨W1.heap.size, 0, none⟩ = some (.slice A' ps.length c') := hc3
        go_simp
        refine hK _ _ ?_
        clear hK K
        try simp only [Act.put, sQa, sQb, sQc, gQa, gQb, gQc]
        refine wpAnyIn_ready (rs := [5]) (by kernel_rfl) (by simp) ?_
        refine AllReadyIn.cons rfl (fun K hK => ?_) AllReadyIn.nil
        refine stepIn_buildOne slotPr (by decide) (by rfl) (.tmp 22) rfl (y.k.1.map bv ++ [.slice A3 y.v.length c3]) rfl (len_pr _ _) ?_
        intro w5 hw5
        have X5 : Below W.heap.size W w5 := hw5 ▸ X3.trans ((ext_alloc w3 _).mono X3.size)
        have src5 : Hid (Src (fun b => ∃ a, A3 = some a ∧ b = a.block) w5 (some ⟨w3.heap.size, 0, none⟩) [y]) := hid (hw5 ▸ src_alloc (rep_pr_own ho3.out))
        have hF5 : Hid (∀ b, (∃ a, A3 = some a ∧ b = a.block) → W0.heap.size ≤ b ∧ Soft w5 b ∧ ∀ a, A' = some a → b ≠ a.block) := hid (PF.out A3 c3 w3 ho3.out w5 (hw5 ▸ ext_alloc w3 _))
        clear hw5
        refine hK _ _ ?_
        clear hK K
        try simp only [Act.put, sQa, sQb, sQc, gQa, gQb, gQc]
        refine wpAnyIn_ready (rs := [6]) (by kernel_rfl) (by simp) ?_
        refine AllReadyIn.cons rfl (fun K hK => ?_) AllReadyIn.nil
        refine stepIn_appOwnG slotPr (by rfl) (.tmp 18) (.tmp 23) rfl W0.heap.size W0.heap.size A' (some ⟨w3.heap.size, 0, none⟩) ps.length 1 c' 1 ps [y] _ rfl rfl rfl rfl (ho.bel X5) src5.out hF5.out (by simp; omega) (Nat.le_trans hB0 X5.size) ?_
        intro A6 c6 w6 ho6 hb6 hg6
        have hv6 : Boxed w6 W1.heap.size 86 (.slice A' ps.length c') := boxed_bel (boxed_bel hv.out X5 hv.out.lt) hb6 (by omega)
        have hc6 := hv6.cell
        have hf6 := hv6.frozen
        replace ho6 := hid ho6
        refine hK _ _ ?_
        clear hK K
        try simp only [Act.put, sQa, sQb, sQc, gQa, gQb, gQc]
        refine wpAnyIn_ready (rs := [7]) (by kernel_rfl) (by simp) ?_
        refine AllReadyIn.cons rfl (fun K hK => ?_) AllReadyIn.nil
        go_simp
        refine hK _ _ ?_
        clear hK K
        try simp only [Act.put, sQa, sQb, sQc, gQa, gQb, gQc]
        refine wpAnyIn_done (by kernel_rfl) ?_ _
        gi_wp2
        have F := FIN.out w5 X5 A6 c6 w6 ho6.out hb6 hg6 hv6
        rw [show (ps ++ [y]).length = ps.length + 1 by simp] at F
        exact F
      refine AllReadyIn.cons rfl (fun K hK => ?_) AllReadyIn.nil
      refine stepIn_buildOne slotPr (by decide) (by rfl) (.tmp 22) rfl (y.k.1.map bv ++ [.slice A3 y.v.length c3]) rfl (len_pr _ _) ?_
      intro w5 hw5
      have X5 : Below W.heap.size W w5 := hw5 ▸ X3.trans ((ext_alloc w3 _).mono X3.size)
      have src5 : Hid (Src (fun b => ∃ a, A3 = some a ∧ b = a.block) w5 (some ⟨w3.heap.size, 0, none⟩) [y]) := hid (hw5 ▸ src_alloc (rep_pr_own ho3.out))
      have hF5 : Hid (∀ b, (∃ a, A3 = some a ∧ b = a.block) → W0.heap.size ≤ b ∧ Soft w5 b ∧ ∀ a, A' = some a → b ≠ a.block) := hid (PF.out A3 c3 w3 ho3.out w5 (hw5 ▸ ext_alloc w3 _))
      clear hw5
      refine hK _ _ ?_
      clear hK K
      try simp only [Act.put, sQa, sQb, sQc, gQa, gQb, gQc]
      refine wpAnyIn_ready (rs := [0]) (by kernel_rfl) (by simp) ?_
      refine AllReadyIn.cons rfl (fun K hK => ?_) AllReadyIn.nil
      have hc5 := (X5.cell (p := ⟨W1.heap.size, 0, none⟩) (World.block_lt_of_cell? _ _ hcv)).trans hcv
      replace hc5 : (w5).cell? ⟨W1.heap.size, 0, none⟩ = some (.slice A' ps.length c') := hc5
      go_simp
      refine hK _ _ ?_
      clear hK K
      try simp only [Act.put, sQa, sQb, sQc, gQa, gQb, gQc]
      refine wpAnyIn_ready (rs := [6]) (by kernel_rfl) (by simp) ?_
      refine AllReadyIn.cons rfl (fun K hK => ?_) AllReadyIn.nil
      refine stepIn_appOwnG slotPr (by rfl) (.tmp 18) (.tmp 23) rfl W0.heap.size W0.heap.size A' (some ⟨w3.heap.size, 0, none⟩) ps.length 1 c' 1 ps [y] _ rfl rfl rfl rfl (ho.bel X5) src5.out hF5.out (by simp; omega) (Nat.le_trans hB0 X5.size) ?_
      intro A6 c6 w6 ho6 hb6 hg6
      have hv6 : Boxed w6 W1.heap.size 86 (.slice A' ps.length c') := boxed_bel (boxed_bel hv.out X5 hv.out.lt) hb6 (by omega)
      have hc6 := hv6.cell
      have hf6 := hv6.frozen
      replace ho6 := hid ho6
      refine hK _ _ ?_
      clear hK K
      try simp only [Act.put, sQa, sQb, sQc, gQa, gQb, gQc]
      refine wpAnyIn_ready (rs := [7]) (by kernel_rfl) (by simp) ?_
      refine AllReadyIn.cons rfl (fun K hK => ?_) AllReadyIn.nil
      go_simp
      refine hK _ _ ?_
      clear hK K
      try simp only [Act.put, sQa, sQb, sQc, gQa, gQb, gQc]
      refine wpAnyIn_done (by kernel_rfl) ?_ _
      gi_wp2
      have F := FIN.out w5 X5 A6 c6 w6 ho6.out hb6 hg6 hv6
      rw [show (ps ++ [y]).length = ps.length + 1 by simp] at F
      exact F
      -- END pairs
    case done =>
      rintro D xs W hD hS ⟨⟨A', c', hv, hown⟩, hB, hB0⟩ hK
      rw [hS] at hv hown
      have hcv := hv.cell
      have hD2 := fun (r : Nat) (e : some D = some r) => (⟨_, by cases e; exact hK, rfl⟩ : ∃ o : Obj, W.heap[r]? = some o ∧ o.isCells = false)
      gi_wp2
      refine ⟨by simp, .inl ⟨_, _, rfl, run_takeDeferred hK, ?_⟩⟩
      exact ⟨_, by kernel_rfl, A', c', rfl, OwnR.base (ownQ_other hown (grownBy_putObj' W D _) hD2) Y0.size, hB.trans (belowK_b (w := w) (Nat.le_refl _) W D _ _ (Nat.le_trans Y0.size hD) hK rfl rfl)⟩
end Go.Proofs.YtcifncmfjlbhjaaDoor
