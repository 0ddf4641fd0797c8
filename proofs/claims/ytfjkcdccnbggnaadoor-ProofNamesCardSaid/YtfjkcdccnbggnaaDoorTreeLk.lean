/-
  Contracts of the landed package tree: add, addFork; a trie in memory that grows.
-/
import Derived.Test.YtfjkcdccnbggnaaDoorTrB
import Derived.Test.YtfjkcdccnbggnaaDoorTrA
import Derived.Test.YtfjkcdccnbggnaaDoorTreePut
namespace Go.Proofs.YtfjkcdccnbggnaaDoor
open Go.RowKit
set_option linter.unusedVariables false
set_option linter.unusedSimpArgs false
set_option maxRecDepth 100000

/-- A trie in its box g, its nodes a row of the call's own; what they refer to lies in blocks of F; blocks of P are none of those that it writes. -/
def TrieAt (w : World) (g B0 : Nat) (F P : Nat → Prop) (ns : List Nd) (root : Int) : Prop :=
  ∃ A c, w.heap[g]? = some (.cells #[.slice A ns.length c, .int .i64 root] 86 (0, 0)) ∧ RowO 50 F w B0 A c ns ∧ (∀ b, F b → B0 ≤ b ∧ Soft w b ∧ b ≠ g) ∧ (∀ a, A = some a → a.block ≠ g) ∧ B0 ≤ g ∧
    ∀ b, P b → b < w.heap.size ∧ b ≠ g ∧ ∀ a, A = some a → b ≠ a.block
def Stay (P : Nat → Prop) (w w' : World) : Prop := ∀ b, P b → w'.heap[b]? = w.heap[b]?
section
variable {w w' w'' : World} {g B0 : Nat} {F P Q : Nat → Prop} {ns : List Nd} {root : Int}
theorem Stay.refl (P : Nat → Prop) (w : World) : Stay P w w := fun _ _ => rfl
theorem Stay.trans (h : Stay P w w') (k : Stay P w' w'') : Stay P w w'' := fun b hb => (k b hb).trans (h b hb)
theorem Stay.mono (h : Stay P w w') (k : ∀ b, Q b → P b) : Stay Q w w' := fun b hb => h b (k b hb)
theorem TrieAt.stay (h : TrieAt w g B0 F P ns root) (hb : Below w.heap.size w w') : Stay P w w' := fun b hp => by
  obtain ⟨A, c, _, _, _, _, _, h6⟩ := h
  exact hb.block b (h6 b hp).1
theorem TrieAt.kept (h : TrieAt w g B0 F P ns root) (hs : w.heap.size ≤ w'.heap.size) (hk : ∀ b, b < w.heap.size → (b = g ∨ F b ∨ ¬ P b) → w'.heap[b]? = w.heap[b]?) : TrieAt w' g B0 F P ns root := by
  obtain ⟨A, c, h1, h2, h3, h4, h5, h6⟩ := h
  have hA : ∀ a, A = some a → ¬ P a.block := fun a ha hp => (h6 _ hp).2.2 a ha rfl
  exact ⟨A, c, (hk g (block_lt h1) (.inl rfl)).trans h1, h2.kept (fun a ha hl => hk _ hl (.inr (.inr (hA a ha)))) (fun b hb hl => hk b hl (.inr (.inl hb))),
    fun b hb => ⟨(h3 b hb).1, (h3 b hb).2.1.kept (hk b (h3 b hb).2.1.lt (.inr (.inl hb))), (h3 b hb).2.2⟩, h4, h5, fun b hb => ⟨Nat.lt_of_lt_of_le (h6 b hb).1 hs, (h6 b hb).2⟩⟩
theorem TrieAt.bel (h : TrieAt w g B0 F P ns root) (hb : Below w.heap.size w w') : TrieAt w' g B0 F P ns root := h.kept hb.size fun b hl _ => hb.block b hl
/-- Blocks that were made since are protected, too. -/
theorem TrieAt.more (h : TrieAt w g B0 F P ns root) (hb : Below w.heap.size w w') (hQ : ∀ b, Q b → w.heap.size ≤ b ∧ b < w'.heap.size) : TrieAt w' g B0 F (fun b => P b ∨ Q b) ns root := by
  have h' := h.bel hb
  obtain ⟨A, c, h1, h2, h3, h4, h5, h6⟩ := h'
  obtain ⟨A1, c1, k1, k2, k3, k4, k5, k6⟩ := h
  have e := (hb.block g (block_lt k1)).trans k1
  rw [h1] at e
  have e2 : A = A1 := by
    have := Option.some.inj e
    injection this with e1 _ _
    have e3 := congrArg (fun x : Array Value => x[0]?) e1
    simp only [List.getElem?_toArray, List.getElem?_cons_zero, Option.some.injEq] at e3
    injection e3
  subst e2
  refine ⟨A, c, h1, h2, h3, h4, h5, fun b hb => ?_⟩
  rcases hb with hb | hb
  · exact h6 b hb
  · have hq := hQ b hb
    refine ⟨hq.2, fun e => ?_, fun a ha e => ?_⟩
    · have := block_lt k1; omega
    · have := (k2.blk a ha).2; omega
theorem TrieAt.less (h : TrieAt w g B0 F P ns root) (hQ : ∀ b, Q b → P b) : TrieAt w g B0 F Q ns root := by
  obtain ⟨A, c, h1, h2, h3, h4, h5, h6⟩ := h
  exact ⟨A, c, h1, h2, h3, h4, h5, fun b hb => h6 b (hQ b hb)⟩
/-- A store into a protected block that nothing refers to. -/
theorem TrieAt.at_ {b0 : Nat} (h : TrieAt w g B0 F P ns root) (hp : P b0) (hf : ¬ F b0) (hs : w.heap.size ≤ w'.heap.size) (hk : ∀ b, b < w.heap.size → b ≠ b0 → w'.heap[b]? = w.heap[b]?) : TrieAt w' g B0 F P ns root := by
  refine h.kept hs fun b hl hc => hk b hl fun e => ?_
  subst e
  rcases hc with rfl | hc | hc
  · obtain ⟨A, c, h1, h2, h3, h4, h5, h6⟩ := h
    exact (h6 _ hp).2.1 rfl
  · exact hf hc
  · exact hc hp
theorem TrieAt.cap (h : TrieAt w g B0 F P ns root) : ∃ A c, w.rangeAt g 0 [.slice A ns.length c, .int .i64 root] ∧ Row (fun b => b < w.heap.size) w A ns := by
  obtain ⟨A, c, h1, h2, _⟩ := h
  exact ⟨A, c, rangeOf (l := [Value.slice A ns.length c, .int .i64 root]) h1, h2.row.mono fun b _ hl => hl⟩
theorem TrieAt.lt (h : TrieAt w g B0 F P ns root) : g < w.heap.size ∧ B0 ≤ g := by
  obtain ⟨A, c, h1, _, _, _, h5, _⟩ := h
  exact ⟨block_lt h1, h5⟩
end
section
variable {α : Type} [Enc α] {Pg : Program} {S E : TypeId} {z : Value} {bytes : Nat}
theorem step_appRG (hS : Slot Pg α S E z bytes) {w : World} {ops : Array Oper} {o : Oper} {a : Act} {K : Act → World → Prop} {Q : Exit → Act → World → Prop} {X : Prop} (hg : o.guard = none) (s x : Operand)
    (hop : o.op = .call { callee := .builtin .append, args := #[s, x], argTypes := #[S, S] })
    (F : Nat → Prop) (B : Nat) (A A2 : Option Addr) (n m c c2 : Nat) (xs ys : List α) (hs : a.eval s = .slice A n c) (hx : a.eval x = .slice A2 m c2) (hn : n = xs.length) (hm : m = ys.length)
    (ho : RowO E F w B A c xs) (hr : Src F w A2 ys) (hF : ∀ b, F b → b < w.heap.size) (hlen : (xs.length + ys.length) * (bytes + 1) ≤ 140737488355328) (hB : B ≤ w.heap.size)
    (hK : ∀ A' c' w', RowO E F w' B A' c' (xs ++ ys) → Below B w w' → w.grownBy w' (A.map (·.block)) → (A' = A ∨ A' = some ⟨w.heap.size, 0, none⟩) → K (a.put o.dst (.slice A' (xs ++ ys).length c')) w') :
    if Region.wanted o (yielded ops a.tmps) = true then Oper.wp Pg o a w K Q else X := by
  have hw : Region.wanted o (yielded ops a.tmps) = true := by simp [Region.wanted, hg]
  rw [if_pos hw]
  subst hn hm
  obtain ⟨A', c', w', hrun, h1, h2, h3, h4⟩ := run_appR hS o.type ho c2 hr hF hlen hB
  unfold Oper.wp execOp
  simp only [hop, resolve, invoke, builtin, Sem.run_bind, Sem.run_pure, Result.andThen_ok, List.map_toArray, List.map_cons, List.map_nil, hs, hx, hrun]
  exact hK A' c' w' h1 h2 h3 h4
end
/-- Behind an append to the trie's row, and the store of the slice. -/
theorem trie_grown {w wa w1 : World} {g B0 c c1 : Nat} {F P : Nat → Prop} {ns ns1 : List Nd} {root : Int} {A A1 : Option Addr} {t : TypeId} {o : Obj}
    (hP : ∀ b, P b → b < w.heap.size ∧ b ≠ g ∧ ∀ a, A = some a → b ≠ a.block) (hA : ∀ a, A = some a → a.block ≠ g) (hF : ∀ b, F b → B0 ≤ b ∧ Soft w b ∧ b ≠ g) (hB : B0 ≤ g) (hBs : B0 ≤ w.heap.size)
    (h1 : w.heap[g]? = some (.cells #[.slice A ns.length c, .int .i64 root] 86 (0, 0))) (hX : Below w.heap.size w wa) (hr : RowO 50 F w1 B0 A1 c1 ns1) (hg : wa.grownBy w1 (A.map (·.block))) (hb : Below B0 wa w1) (ho : A1 = A ∨ A1 = some ⟨wa.heap.size, 0, none⟩) (hFA : ∀ b, F b → ∀ a, A = some a → b ≠ a.block) :
    w1.heap[g]? = some (.cells #[.slice A ns.length c, .int .i64 root] 86 (0, 0)) ∧
    ∀ w2, w2 = w1.setCell ⟨g, 0, none⟩ (.slice A1 ns1.length c1) → TrieAt w2 g B0 F P ns1 root ∧ Stay P w w2 ∧ Below B0 w w2 := by
  have hne : ∀ b, b < w.heap.size → (∀ a, A = some a → b ≠ a.block) → w1.heap[b]? = w.heap[b]? := fun b hl hn => (hg.block b (Nat.lt_of_lt_of_le hl hX.size) (fun e => by
    rcases A with _ | a
    · cases e
    · simp only [Option.map_some, Option.some.injEq] at e
      exact hn a rfl e)).trans (hX.block b hl)
  have h2 := (hne g (block_lt h1) (fun a ha e => hA a ha e.symm)).trans h1
  refine ⟨h2, ?_⟩
  rintro w2 rfl
  have hA1 : ∀ a, A1 = some a → a.block ≠ g := fun a ha => by
    rcases ho with rfl | rfl
    · exact hA a ha
    · injection ha with ha
      subst ha
      have := block_lt h1
      have := hX.size
      intro e
      dsimp only at e
      omega
  have hs : ∀ b, b ≠ g → (w1.setCell ⟨g, 0, none⟩ (.slice A1 ns1.length c1)).heap[b]? = w1.heap[b]? := fun b hn => Below.heap_setCell _ _ _ b hn
  have hsz : w1.heap.size ≤ (w1.setCell ⟨g, 0, none⟩ (.slice A1 ns1.length c1)).heap.size := by simp [World.setCell]
  have hf := fun b hb => (hne b (hF b hb).2.1.lt (hFA b hb))
  have hw1 : w.heap.size ≤ w1.heap.size := Nat.le_trans hX.size hg.size
  have e2 := block_set h2 0 (.slice A1 ns1.length c1)
  refine ⟨⟨A1, c1, e2, hr.kept (fun a ha hl => hs _ (hA1 a ha)) (fun b hb hl => hs b (hF b hb).2.2), fun b hb => ⟨(hF b hb).1, ((hF b hb).2.1.kept (hf b hb)).kept (hs b (hF b hb).2.2), (hF b hb).2.2⟩, hA1, hB, fun b hp => ⟨Nat.lt_of_lt_of_le (Nat.lt_of_lt_of_le (hP b hp).1 hw1) hsz, (hP b hp).2.1, fun a ha e => ?_⟩⟩, fun b hp => (hs b (hP b hp).2.1).trans (hne b (hP b hp).1 (hP b hp).2.2), ?_⟩
  · rcases ho with rfl | rfl
    · exact (hP b hp).2.2 a ha e
    · injection ha with ha
      subst ha
      have := (hP b hp).1
      have := hX.size
      dsimp only at e
      omega
  · exact ((hX.mono hBs).trans hb).setCell (p := ⟨g, 0, none⟩) hB _

theorem below_da (w : World) (o : Obj) : Below w.heap.size w (w.drew.alloc o) := (bel_drew w).trans (ext_alloc w.drew o)
theorem below_ad (w : World) (o : Obj) : Below w.heap.size w (w.alloc o).drew := ext_trans (ext_alloc w o) (bel_drew _)
theorem src_da {α : Type} [Enc α] {F : Nat → Prop} {w : World} {x : α} {cs : List Value} {E : TypeId} (h : Enc.rep F w x cs) : Src F (w.drew.alloc (.cells cs.toArray E)) (some ⟨w.heap.size, 0, none⟩) [x] := src_alloc (w := w.drew) (Enc.kept h fun _ _ _ => rfl)
theorem src_ad {α : Type} [Enc α] {F : Nat → Prop} {w : World} {x : α} {cs : List Value} {E : TypeId} (h : Enc.rep F w x cs) : Src F (w.alloc (.cells cs.toArray E)).drew (some ⟨w.heap.size, 0, none⟩) [x] := (src_alloc h).bel (bel_drew _)

set_option maxHeartbeats 1000000 in
theorem PAdd_any (w : World) (g B0 : Nat) (F P : Nat → Prop) (ns : List Nd) (root : Int) (x : Nd) (AV : Option Addr) (cV : Nat) (hT : TrieAt w g B0 F P ns root) (hx : Enc.rep F w x (ndC x AV cV)) (hB : B0 ≤ w.heap.size) (hl : ns.length ≤ 1000000) :
    Calls Tryd.prog 80 #[.pointer (some ⟨g, 0, none⟩), .agg (ndC x AV cV).toArray] w fun e w' => e = .returned (.int .i64 ((ns.length : Int) + 1)) ∧ TrieAt w' g B0 F P (ns ++ [x]) root ∧ Stay P w w' ∧ Below B0 w w' := by
  obtain ⟨A, c, h1, h2, h3, h4, h5, h6⟩ := hT
  have hun := Tryd.underlying50
  have hiN := hid (show (Tryd.prog.info? 50).map (·.size) = some (ndC x AV cV).length by rw [len_nd]; exact sizeNd)
  have hlN := hid (show (ndC x AV cV).length = Enc.size Nd from len_nd x AV cV)
  have X0 := ext_alloc w (.cells (ndC x AV cV).toArray 50)
  have q0 := hid (rangeOf (heap_alloc_new w (.cells (ndC x AV cV).toArray 50)))
  have y0 := (X0.block g (block_lt h1)).trans h1
  have o0 := hid (h2.bel X0)
  have x0 := hid (Enc.kept hx (fun b hb hl => X0.block b hl))
  have lt0 := hid (block_lt h1)
  have hF0 := hid (fun b hb => (h3 b hb).2.1.lt)
  have hFA := hid (fun b hb a ha (e : b = a.block) => h2.apart a ha (e ▸ hb))
  have hsz : (w.alloc (.cells (ndC x AV cV).toArray 50)).heap.size = w.heap.size + 1 := World.size_alloc _ _
  have hblk := hid h2.blk
  replace h1 := hid h1
  replace h2 := hid h2
  replace h3 := hid h3
  replace h4 := hid h4
  replace h6 := hid h6
  replace X0 := hid X0
  replace hsz := hid hsz
  generalize hcs : ndC x AV cV = cs at *
  clear hcs hx
  go_enter Tryd.func80, Tryd.ntmps80
  go_wp2
  generalize w.alloc (.cells cs.toArray 50) = w0 at *
  have c0 := block_cell y0 0
  simp only [List.getElem?_toArray, List.getElem?_cons_zero] at c0
  have ltg := hid (block_lt y0)
  have hL := hid (show (ns ++ [x]).length = ns.length + 1 by simp)
  have hsB := hid (Nat.le_trans hB X0.out.size)
  have fin := hid (fun (wa w1 : World) (A1 : Option Addr) (c1 : Nat) (hX : Below w0.heap.size w0 wa) (hr : RowO 50 F w1 B0 A1 c1 (ns ++ [x])) (hg : wa.grownBy w1 (A.map (·.block))) (hb : Below B0 wa w1) (ho : A1 = A ∨ A1 = some ⟨wa.heap.size, 0, none⟩) => trie_grown (t := 0) (o := .cells #[] 0) h6.out h4.out h3.out h5 hB h1.out (X0.out.trans (hX.mono X0.out.size)) hr hg hb ho hFA.out)
  go_wp2
  refine wp_region_noPanic ?_
  refine wp_region_held_drew (S := fun w' => w'.rangeAt w.heap.size 0 cs) (by kernel_rfl) ?_ (fun hHeld => ?_)
  · exact q0.out
  refine' wpAnyH_take (i := 0) (oi := _) (v := ?_) rfl (by kernel_rfl) (by kernel_rfl) (by kernel_rfl) (fun _ _ _ h => h) (Or.inl ⟨by rfl, ?_⟩) (by assumption) ?_
  rotate_left
  · intro W hSw
    go_simp
    first | done | (with_reducible rfl)
  try simp only [Act.put, sQa, sQb, sQc, gQa, gQb, gQc]
  refine' wpAnyH_take (i := 1) (oi := _) (v := ?_) rfl (by kernel_rfl) (by kernel_rfl) (by kernel_rfl) (fun _ _ _ h => h) (Or.inl ⟨by rfl, ?_⟩) (by assumption) ?_
  rotate_left
  · intro W hSw
    go_simp
    first | done | (with_reducible rfl)
  try simp only [Act.put, sQa, sQb, sQc, gQa, gQb, gQc]
  refine' wpAnyH_take (i := 2) (oi := _) (v := ?_) rfl (by kernel_rfl) (by kernel_rfl) (by kernel_rfl) (fun _ _ _ h => h) (Or.inl ⟨by rfl, ?_⟩) (by assumption) ?_
  rotate_left
  · intro W hSw
    go_simp
    first | done | (with_reducible rfl)
  try simp only [Act.put, sQa, sQb, sQc, gQa, gQb, gQc]
  refine' wpAnyH_take (i := 3) (oi := _) (v := ?_) rfl (by kernel_rfl) (by kernel_rfl) (by kernel_rfl) (fun _ _ _ h => h) (Or.inl ⟨by rfl, ?_⟩) (by assumption) ?_
  rotate_left
  · intro W hSw
    go_simp
    first | done | (with_reducible rfl)
  try simp only [Act.put, sQa, sQb, sQc, gQa, gQb, gQc]
  refine' wpAnyH_take (i := 4) (oi := _) (v := ?_) rfl (by kernel_rfl) (by kernel_rfl) (by kernel_rfl) (fun _ _ _ h => h) (Or.inl ⟨by rfl, ?_⟩) (by assumption) ?_
  rotate_left
  · intro W hSw
    go_simp
    first | done | (with_reducible rfl)
  try simp only [Act.put, sQa, sQb, sQc, gQa, gQb, gQc]
  refine' wpAnyH_take (i := 6) (oi := _) (v := _) rfl (by kernel_rfl) (by kernel_rfl) (by kernel_rfl) (fun _ _ _ h => h) (yieldsIf_load_mid (by rfl) _ _ rfl _ _ rfl _ _ (fun _ h => h) hun rfl hiN.out) (by assumption) ?_
  try simp only [Act.put, sQa, sQb, sQc, gQa, gQb, gQc]
  refine wpAnyH_ready (rs := [5, 7]) (by kernel_rfl) (by simp) ?_
  refine AllReadyH.cons (o := _) rfl (fun K hK => ?_) ?_
  · skip
    go_simp
    refine hK.out _ _ ?_ (fun hHeld => ?_)
    · exact hHeld
    clear hK K
    try simp only [Act.put, sQa, sQb, sQc, gQa, gQb, gQc]
    refine wpAnyH_ready (rs := [7]) (by kernel_rfl) (by simp) ?_
    refine AllReadyH.cons (o := _) rfl (fun K hK => ?_) AllReadyH.nil
    refine step_buildOne slotNd (by decide) rfl (.tmp 11) rfl cs rfl hlN.out ?_
    replace c0 := ((ext_alloc w0 (.cells cs.toArray 50)).cell (p := ⟨g, 0, none⟩) ltg.out).trans c0
    refine hK.out _ _ ?_ (fun hHeld => ?_)
    · exact rangeBel2 (ext_alloc _ _) hHeld
    clear hK K
    try simp only [Act.put, sQa, sQb, sQc, gQa, gQb, gQc]
    refine wpAnyH_ready (rs := [8]) (by kernel_rfl) (by simp) ?_
    refine AllReadyH.cons (o := _) rfl (fun K hK => ?_) AllReadyH.nil
    refine step_appRG slotNd rfl (.tmp 10) (.tmp 12) rfl F B0 A _ ns.length 1 c 1 ns [x] rfl rfl rfl rfl (o0.out.bel (by first | exact below_da _ _ | exact below_ad _ _)) (by first | exact src_da x0.out | exact src_ad x0.out) (fun b hb => Nat.lt_of_lt_of_le (hF0.out b hb) (Nat.le_trans X0.out.size (by first | exact (below_da _ _).size | exact (below_ad _ _).size))) (by simp only [List.length_singleton]; omega) (Nat.le_trans hsB.out (by first | exact (below_da _ _).size | exact (below_ad _ _).size)) ?_
    intro A1 c1 w1 hr hb hg ho
    obtain ⟨h21, h22⟩ := fin.out _ _ _ _ (by first | exact below_da _ _ | exact below_ad _ _) hr hg hb ho
    rw [hL.out] at h22
    have f1 := block_frozen h21 0
    have d1 := block_cell h21 0
    simp only [List.getElem?_toArray, List.getElem?_cons_zero] at d1
    replace h22 := hid h22
    clear hr hb ho h21
    refine hK.out _ _ ?_ (fun hHeld => ?_)
    · exact rangeAt_kept hHeld (fun hl => hg.block _ hl (ne_map hblk.out))
    clear hK K
    try simp only [Act.put, sQa, sQb, sQc, gQa, gQb, gQc]
    refine' wpAnyH_take (i := 9) (oi := _) (v := ?_) rfl (by kernel_rfl) (by kernel_rfl) (by kernel_rfl) (fun _ _ _ h => h) (Or.inl ⟨by rfl, ?_⟩) (by assumption) ?_
    rotate_left
    · intro W hSw
      go_simp
      first | done | (with_reducible rfl)
    try simp only [Act.put, sQa, sQb, sQc, gQa, gQb, gQc]
    refine' wpAnyH_take (i := 10) (oi := _) (v := ?_) rfl (by kernel_rfl) (by kernel_rfl) (by kernel_rfl) (fun _ _ _ h => h) (Or.inl ⟨by rfl, ?_⟩) (by assumption) ?_
    rotate_left
    · intro W hSw
      go_simp
      first | done | (with_reducible rfl)
    try simp only [Act.put, sQa, sQb, sQc, gQa, gQb, gQc]
    refine' wpAnyH_take (i := 11) (oi := _) (v := ?_) rfl (by kernel_rfl) (by kernel_rfl) (by kernel_rfl) (fun _ _ _ h => h) (Or.inl ⟨by rfl, ?_⟩) (by assumption) ?_
    rotate_left
    · intro W hSw
      go_simp
      first | done | (with_reducible rfl)
    try simp only [Act.put, sQa, sQb, sQc, gQa, gQb, gQc]
    refine wpAnyH_ready (rs := [12]) (by kernel_rfl) (by simp) ?_
    refine AllReadyH.cons (o := _) rfl (fun K hK => ?_) AllReadyH.nil
    go_simp
    refine hK.out _ _ ?_ (fun hHeld => ?_)
    · exact rangeAt_kept hHeld (fun hl => Below.heap_setCell _ _ _ _ (Nat.ne_of_gt lt0.out))
    clear hK K
    try simp only [Act.put, sQa, sQb, sQc, gQa, gQb, gQc]
    refine wpAnyH_done (by kernel_rfl) ?_ _
    refine NoPanic.normal ?_
    obtain ⟨T2, S2, B2⟩ := h22.out _ rfl
    clear h22
    go_wp2
    go_ret
    exact ⟨rfl, T2, S2, B2⟩
  refine AllReadyH.cons (o := _) rfl (fun K hK => ?_) ?_
  · skip
    refine step_buildOne slotNd (by decide) rfl (.tmp 11) rfl cs rfl hlN.out ?_
    replace c0 := ((ext_alloc w0 (.cells cs.toArray 50)).cell (p := ⟨g, 0, none⟩) ltg.out).trans c0
    refine hK.out _ _ ?_ (fun hHeld => ?_)
    · exact rangeBel2 (ext_alloc _ _) hHeld
    clear hK K
    try simp only [Act.put, sQa, sQb, sQc, gQa, gQb, gQc]
    refine wpAnyH_ready (rs := [5]) (by kernel_rfl) (by simp) ?_
    refine AllReadyH.cons (o := _) rfl (fun K hK => ?_) AllReadyH.nil
    go_simp
    refine hK.out _ _ ?_ (fun hHeld => ?_)
    · exact hHeld
    clear hK K
    try simp only [Act.put, sQa, sQb, sQc, gQa, gQb, gQc]
    refine wpAnyH_ready (rs := [8]) (by kernel_rfl) (by simp) ?_
    refine AllReadyH.cons (o := _) rfl (fun K hK => ?_) AllReadyH.nil
    refine step_appRG slotNd rfl (.tmp 10) (.tmp 12) rfl F B0 A _ ns.length 1 c 1 ns [x] rfl rfl rfl rfl (o0.out.bel (by first | exact below_da _ _ | exact below_ad _ _)) (by first | exact src_da x0.out | exact src_ad x0.out) (fun b hb => Nat.lt_of_lt_of_le (hF0.out b hb) (Nat.le_trans X0.out.size (by first | exact (below_da _ _).size | exact (below_ad _ _).size))) (by simp only [List.length_singleton]; omega) (Nat.le_trans hsB.out (by first | exact (below_da _ _).size | exact (below_ad _ _).size)) ?_
    intro A1 c1 w1 hr hb hg ho
    obtain ⟨h21, h22⟩ := fin.out _ _ _ _ (by first | exact below_da _ _ | exact below_ad _ _) hr hg hb ho
    rw [hL.out] at h22
    have f1 := block_frozen h21 0
    have d1 := block_cell h21 0
    simp only [List.getElem?_toArray, List.getElem?_cons_zero] at d1
    replace h22 := hid h22
    clear hr hb ho h21
    refine hK.out _ _ ?_ (fun hHeld => ?_)
    · exact rangeAt_kept hHeld (fun hl => hg.block _ hl (ne_map hblk.out))
    clear hK K
    try simp only [Act.put, sQa, sQb, sQc, gQa, gQb, gQc]
    refine' wpAnyH_take (i := 9) (oi := _) (v := ?_) rfl (by kernel_rfl) (by kernel_rfl) (by kernel_rfl) (fun _ _ _ h => h) (Or.inl ⟨by rfl, ?_⟩) (by assumption) ?_
    rotate_left
    · intro W hSw
      go_simp
      first | done | (with_reducible rfl)
    try simp only [Act.put, sQa, sQb, sQc, gQa, gQb, gQc]
    refine' wpAnyH_take (i := 10) (oi := _) (v := ?_) rfl (by kernel_rfl) (by kernel_rfl) (by kernel_rfl) (fun _ _ _ h => h) (Or.inl ⟨by rfl, ?_⟩) (by assumption) ?_
    rotate_left
    · intro W hSw
      go_simp
      first | done | (with_reducible rfl)
    try simp only [Act.put, sQa, sQb, sQc, gQa, gQb, gQc]
    refine' wpAnyH_take (i := 11) (oi := _) (v := ?_) rfl (by kernel_rfl) (by kernel_rfl) (by kernel_rfl) (fun _ _ _ h => h) (Or.inl ⟨by rfl, ?_⟩) (by assumption) ?_
    rotate_left
    · intro W hSw
      go_simp
      first | done | (with_reducible rfl)
    try simp only [Act.put, sQa, sQb, sQc, gQa, gQb, gQc]
    refine wpAnyH_ready (rs := [12]) (by kernel_rfl) (by simp) ?_
    refine AllReadyH.cons (o := _) rfl (fun K hK => ?_) AllReadyH.nil
    go_simp
    refine hK.out _ _ ?_ (fun hHeld => ?_)
    · exact rangeAt_kept hHeld (fun hl => Below.heap_setCell _ _ _ _ (Nat.ne_of_gt lt0.out))
    clear hK K
    try simp only [Act.put, sQa, sQb, sQc, gQa, gQb, gQc]
    refine wpAnyH_done (by kernel_rfl) ?_ _
    refine NoPanic.normal ?_
    obtain ⟨T2, S2, B2⟩ := h22.out _ rfl
    clear h22
    go_wp2
    go_ret
    exact ⟨rfl, T2, S2, B2⟩
  exact AllReadyH.nil

theorem built_fork (l r : Int) : Tryd.prog.built 50 [(3, .int .i64 l), (4, .int .i64 r)] = some (ndC (forkN l r) none 0).toArray := by kernel_rfl
theorem PAddFork_any (w : World) (g B0 : Nat) (F P : Nat → Prop) (ns : List Nd) (root l r : Int) (hT : TrieAt w g B0 F P ns root) (hB : B0 ≤ w.heap.size) (hl : ns.length ≤ 1000000) (il : I64 l) (ir : I64 r) :
    Calls Tryd.prog 83 #[.pointer (some ⟨g, 0, none⟩), .agg #[.int .i64 l, .int .i64 r]] w fun e w' => e = .returned (.int .i64 ((ns.length : Int) + 1)) ∧ TrieAt w' g B0 F P (ns ++ [forkN l r]) root ∧ Stay P w w' ∧ Below B0 w w' := by
  have X0 := ext_alloc w (.cells #[.int .i64 l, .int .i64 r] 131)
  have q0 := rangeOf (l := [Value.int .i64 l, .int .i64 r]) (heap_alloc_new w (.cells #[.int .i64 l, .int .i64 r] 131))
  have c0 := q0 0 _ rfl
  have c1 := q0 1 _ rfl
  rw [Nat.zero_add] at c0 c1
  have S0 := hid (hT.stay X0)
  have hA := hid (PAdd_any _ g B0 F P ns root (forkN l r) none 0 (hT.bel X0) (rep_nd_mk _ _ _ (Nat.le_refl _) (Nat.zero_le _) (Row.nil _ _ _) il ir) (Nat.le_trans hB X0.size) hl)
  have hbu := hid (built_fork l r)
  have W0 := hid (X0.mono hB)
  generalize ndC (forkN l r) none 0 = cs at *
  clear hT q0 X0
  go_enter Tryd.func83, Tryd.ntmps83
  go_wp2_with (first
    | ((with_reducible refine wpList_built rfl 50 _ rfl cs.toArray [(3, .int .i64 l), (4, .int .i64 r)] ?_ ?_ ?_); exact hbu.out; rfl))
  refine hA.out.mono ?_
  rintro e w2 ⟨rfl, T2, S2, B2⟩
  go_wp2
  go_ret
  exact ⟨rfl, T2, S0.out.trans S2, W0.out.trans B2⟩
end Go.Proofs.YtfjkcdccnbggnaaDoor
