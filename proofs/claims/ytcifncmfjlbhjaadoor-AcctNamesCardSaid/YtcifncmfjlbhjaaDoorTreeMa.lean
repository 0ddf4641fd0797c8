/-
  Contracts of the landed package tree: each, the iterator over a trie's pairs.
-/
import Derived.Test.YtcifncmfjlbhjaaDoorTrA
import Derived.Test.YtcifncmfjlbhjaaDoorTrN
import Derived.Test.YtcifncmfjlbhjaaDoorRoad
namespace Go.Proofs.YtcifncmfjlbhjaaDoor
open Go.RowKit Go.Shelf
set_option linter.unusedVariables false
set_option linter.unusedSimpArgs false
set_option maxRecDepth 100000
attribute [local go_sem] Oper.semAt_some

theorem room_of_none {F : Fence} (hd : F.depth = none) (k : Nat) : F.room k := fun d h => by rw [hd] at h; cases h
/-- Where no depth is asked the figures are all one. -/
theorem RoundIn.anyDepth {F : Fence} (hd : F.depth = none) {m m' : Nat} {P : Program} {l : Nat} {f : FuncId} {tmps : Array Value} {assign body : Code} {w : World} {R : Ending → World → Prop}
    (h : RoundIn F m P l f tmps assign body w R) : RoundIn F m' P l f tmps assign body w R := ⟨h.1, fun c cs _ => h.2 c cs (room_of_none hd _)⟩
theorem YieldAt.anyDepth {F : Fence} (hd : F.depth = none) {m : Nat} (m' : Nat) {P : Program} {l : Nat} {args : Array Value} {W : World} {R : Ending → World → Prop} (h : YieldAt F m P l args W R) : YieldAt F m' P l args W R := by
  obtain ⟨fn, tmps, assign, body, hy, hR⟩ := h
  exact ⟨fn, tmps, assign, body, hy, RoundIn.anyDepth hd hR⟩

/-- A whole row loaded, guarded or not, inside a fence. -/
theorem wpListIn_load_rowg {F : Fence} {n : Nat} {P : Program} {ops : Array Oper} {rest : List Oper} {o : Oper} {a : Act} {w : World} {Q : Exit → Act → World → Prop} (hw : Region.wanted o (yielded ops a.tmps) = true) (ty : TypeId) (x : Operand) (ho : o.op = .load ty x)
    (g : Nat) (hx : a.eval x = .pointer (some ⟨g, 0, none⟩)) (t : TypeId) (cs : Array Value) (fr : Nat × Nat) (d : TypeDesc) (hg : w.heap[g]? = some (.cells cs t fr))
    (hu : P.underlying ty = some d) (hd : (match d with | .struct _ | .array _ _ => true | _ => false) = true) (hi : (P.info? ty).map (·.size) = some cs.size)
    (h : wpListIn F n P ops Q rest (a.put o.dst (.agg cs)) w) : wpListIn F n P ops Q (o :: rest) a w :=
  wpListIn_step fun K hK => stepIn_load_row hw ty x ho g hx t cs fr d hg hu hd hi (hK _ _ h)
/-- What is yielded: a pair, and where its value lies. -/
structure EItem where
  p : Pr
  A : Option Addr
  c : Nat
def EItem.encs (x : EItem) : Array Value := #[.agg (x.p.k.1.map bv).toArray, .slice x.A x.p.v.length x.c]
def EGood (w : World) (x : EItem) : Prop := Rd w x.A x.p.v ∧ x.p.v.length ≤ x.c ∧ x.c ≤ maxLen ∧ valB x.p.v = true
abbrev EItems (w : World) : Type := { x : EItem // EGood w x }
/-- What a round keeps: all that lay ahead of the range, and the boxes of tries and of roads. -/
def KeepT (n₀ : Nat) (W W' : World) : Prop := Below n₀ W W' ∧ ∀ (b : Nat) (cs : Array Value) (t : TypeId) (fr : Nat × Nat), W.heap[b]? = some (.cells cs t fr) → t = 77 ∨ t = 109 → W'.heap[b]? = W.heap[b]?
theorem KeepT.refl (n₀ : Nat) (W : World) : KeepT n₀ W W := ⟨Below.refl _ _, fun _ _ _ _ _ _ => rfl⟩
theorem KeepT.trans {n₀ : Nat} {A B C : World} (h : KeepT n₀ A B) (k : KeepT n₀ B C) : KeepT n₀ A C :=
  ⟨h.1.trans k.1, fun b cs t fr hb ht => (k.2 b cs t fr ((h.2 b cs t fr hb ht).trans hb) ht).trans (h.2 b cs t fr hb ht)⟩
theorem KeepT.bel {n₀ : Nat} {W W' : World} (hb : Below W.heap.size W W') (hn : n₀ ≤ W.heap.size) : KeepT n₀ W W' :=
  ⟨hb.mono hn, fun b cs t fr h _ => hb.block b (Array.getElem?_eq_some_iff.1 h).1⟩
theorem field_val (x : Nd) (A : Option Addr) (c : Nat) (w : World) : (Instr.field 80 (.agg (ndC x A c).toArray) 2).run Tryd.prog w = .ok (.slice A x.v.length c) w := by
  have hl : (x.k.1.map bv).length = 32 := by rw [List.length_map]; exact x.k.2
  have h33 : (ndC x A c).toArray[33]? = some (.slice A x.v.length c) := by
    have e : ndC x A c = ([.bool x.leaf] ++ x.k.1.map bv) ++ ([.slice A x.v.length c] ++ [.int .i64 x.l, .int .i64 x.r]) := by simp [ndC]
    rw [e, List.getElem?_toArray, List.getElem?_append_right (by simp [hl])]
    simp [hl]
  rw [List.getElem?_toArray] at h33
  simp [Instr.field, underlying, Tryd.underlying80, asAgg, part, isAgg, Tryd.underlying28, sizeOf, h33]

set_option maxHeartbeats 2000000 in
theorem each_zero (m l : Nat) (A : Option Addr) (n c : Nat) (root : Int) (W : World) :
    CallsIn Fence.wide m Tryd.prog 78 #[.agg #[.slice A n c, .int .i64 root], .int .i64 0, .func (.yield l) #[] #[]] W fun e W' => e = .returned (.bool true) ∧ Below W.heap.size W W' := by
  refine callsIn_of_wp Tryd.func78 rfl trivial ?_ rfl
  simp only [Tryd.ntmps78, List.size_toArray, List.length_cons, List.length_nil, Nat.reduceAdd, Nat.reduceSub, Array.replicate_succ, Array.replicate_zero, List.push_toArray, List.append_toArray, List.nil_append, List.cons_append]
  gi_wp2
  go_ret
  exact ⟨rfl, ext_alloc W _⟩
set_option maxHeartbeats 4000000 in
theorem each_leaf (m l : Nat) (w0 : World) (q o j c : Nat) (nn : Nat) (root : Int) (x : Nd) (A' : Option Addr) (c' : Nat) (W : World) (G : Bool → World → World → Prop) (y : EItems w0) (hy : y.1 = ⟨⟨x.k, x.v⟩, A', c'⟩)
    (hleaf : ∀ W', Below W.heap.size W W' → Calls Tryd.prog 58 #[.agg #[.slice (some ⟨q, o, none⟩) nn c, .int .i64 root], .int .i64 ((j : Int) + 1)] W' fun e w' => e = .returned (.bool true) ∧ Below W'.heap.size W' w')
    (hnode : ∀ W', Below W.heap.size W W' → Calls Tryd.prog 59 #[.agg #[.slice (some ⟨q, o, none⟩) nn c, .int .i64 root], .int .i64 ((j : Int) + 1)] W' fun e w' => e = .returned (.agg (ndC x A' c').toArray) ∧ Below W'.heap.size W' w')
    (hY : ∀ m W', Below W.heap.size W W' → YieldAt Fence.wide m Tryd.prog l (EItem.encs y.1) W' fun e W2 => ∃ tb, e = .returned (.bool tb) ∧ G tb W' W2) :
    CallsIn Fence.wide m Tryd.prog 78 #[.agg #[.slice (some ⟨q, o, none⟩) nn c, .int .i64 root], .int .i64 ((j : Int) + 1), .func (.yield l) #[] #[]] W fun e W2 => ∃ tb W', Below W.heap.size W W' ∧ e = .returned (.bool tb) ∧ G tb W' W2 := by
  have hut := Tryd.underlying77
  have b1 := heap_alloc_new W (.cells #[.slice (some ⟨q, o, none⟩) nn c, .int .i64 root] 77)
  have X1 := ext_alloc W (.cells #[.slice (some ⟨q, o, none⟩) nn c, .int .i64 root] 77)
  have y2 : (((j : Int) + 1) == 0) = false := by rw [beq_eq_false_iff_ne]; omega
  have hfk := fun W => field_key x A' c' W
  have hfv := fun W => field_val x A' c' W
  refine callsIn_of_wp Tryd.func78 rfl trivial ?_ rfl
  simp only [Tryd.ntmps78, List.size_toArray, List.length_cons, List.length_nil, Nat.reduceAdd, Nat.reduceSub, Array.replicate_succ, Array.replicate_zero, List.push_toArray, List.append_toArray, List.nil_append, List.cons_append]
  gi_wp2_with (first
    | ((with_reducible refine wpListIn_load_row rfl 77 (.tmp 3) rfl W.heap.size rfl 77 _ (0, 0) _ ?_ hut rfl ?_ ?_); exact b1; exact sizeTrie))
  refine ⟨trivial, fun h => (by cases h), callsIn_wide.2 ((hleaf _ X1).mono ?_)⟩
  rintro e W2 ⟨rfl, hb2⟩
  have X2 := X1.trans (hb2.mono X1.size)
  have b2 := (hb2.block _ (block_lt b1)).trans b1
  clear hleaf
  gi_wp2
  refine wpIn_region_any (by kernel_rfl) ?_
  change wpAnyIn _ _ _ _ _ _ _ _ _ (World.drew _)
  replace X2 : Below W.heap.size W W2.drew := X2.trans ((bel_drew W2).mono X2.size)
  replace b2 : W2.drew.heap[W.heap.size]? = some (.cells #[.slice (some ⟨q, o, none⟩) nn c, .int .i64 root] 77 (0, 0)) := b2
  -- REGION leaf
  refine wpAnyIn_take (i := 0) (v := ?_) rfl rfl (by kernel_rfl) (by kernel_rfl) (by kernel_rfl) (fun _ _ _ h => h) ⟨Or.inl ⟨by rfl, ?_⟩, fun _ => rfl⟩ ?_
  rotate_left
  · intro w
    go_simp
    first | done | (with_reducible rfl)
  try simp only [Act.put, sQa, sQb, sQc, gQa, gQb, gQc]
  refine wpAnyIn_take (i := 2) (v := ?_) rfl rfl (by kernel_rfl) (by kernel_rfl) (by kernel_rfl) (fun _ _ _ h => h) ⟨Or.inl ⟨by rfl, ?_⟩, fun _ => rfl⟩ ?_
  rotate_left
  · intro w
    go_simp
    first | done | (with_reducible rfl)
  try simp only [Act.put, sQa, sQb, sQc, gQa, gQb, gQc]
  refine wpAnyIn_take (i := 6) (v := ?_) rfl rfl (by kernel_rfl) (by kernel_rfl) (by kernel_rfl) (fun _ _ _ h => h) ⟨Or.inl ⟨by rfl, ?_⟩, fun _ => rfl⟩ ?_
  rotate_left
  · intro w
    go_simp
    first | done | (with_reducible rfl)
  try simp only [Act.put, sQa, sQb, sQc, gQa, gQb, gQc]
  refine wpAnyIn_ready (rs := [1, 5]) (by kernel_rfl) (by simp) ?_
  refine AllReadyIn.cons rfl (fun K hK => ?_) ?_
  · skip
    refine stepIn_load_row (by rfl) 77 (.tmp 3) rfl W.heap.size rfl 77 _ (0, 0) _ b2 hut rfl sizeTrie ?_
    refine hK _ _ ?_
    clear hK K
    try simp only [Act.put, sQa, sQb, sQc, gQa, gQb, gQc]
    refine wpAnyIn_ready (rs := [3, 5]) (by kernel_rfl) (by simp) ?_
    refine AllReadyIn.cons rfl (fun K hK => ?_) ?_
    · skip
      go_simp
      refine ⟨trivial, fun h => (by cases h), callsIn_wide.2 ((hnode _ X2).mono ?_)⟩
      rintro e w3 ⟨rfl, hb3⟩
      have b3 := (hb3.block _ (block_lt (w := W2.drew) b2)).trans b2
      have X3 := X2.trans (hb3.mono X2.size)
      simp only []
      refine hK _ _ ?_
      clear hK K
      try simp only [Act.put, sQa, sQb, sQc, gQa, gQb, gQc]
      refine wpAnyIn_take (i := 4) (v := ?_) rfl rfl (by kernel_rfl) (by kernel_rfl) (by kernel_rfl) (fun _ _ _ h => h) ⟨Or.inl ⟨by rfl, ?_⟩, fun _ => rfl⟩ ?_
      rotate_left
      · intro w
        go_simp
        first | done | (with_reducible rfl)
      try simp only [Act.put, sQa, sQb, sQc, gQa, gQb, gQc]
      refine wpAnyIn_ready (rs := [5]) (by kernel_rfl) (by simp) ?_
      refine AllReadyIn.cons rfl (fun K hK => ?_) AllReadyIn.nil
      refine stepIn_load_row (by rfl) 77 (.tmp 3) rfl W.heap.size rfl 77 _ (0, 0) _ b3 hut rfl sizeTrie ?_
      refine hK _ _ ?_
      clear hK K
      try simp only [Act.put, sQa, sQb, sQc, gQa, gQb, gQc]
      refine wpAnyIn_ready (rs := [7]) (by kernel_rfl) (by simp) ?_
      refine AllReadyIn.cons rfl (fun K hK => ?_) AllReadyIn.nil
      go_simp
      refine ⟨trivial, fun h => (by cases h), callsIn_wide.2 ((hnode _ X3).mono ?_)⟩
      rintro e w4 ⟨rfl, hb4⟩
      have b4 := (hb4.block _ (block_lt (w := w3) b3)).trans b3
      have X4 := X3.trans (hb4.mono X3.size)
      simp only []
      refine hK _ _ ?_
      clear hK K
      try simp only [Act.put, sQa, sQb, sQc, gQa, gQb, gQc]
      refine wpAnyIn_take (i := 8) (v := ?_) rfl rfl (by kernel_rfl) (by kernel_rfl) (by kernel_rfl) (fun _ _ _ h => h) ⟨Or.inl ⟨by rfl, ?_⟩, fun _ => rfl⟩ ?_
      rotate_left
      · intro w
        go_simp
        first | done | (with_reducible rfl)
      try simp only [Act.put, sQa, sQb, sQc, gQa, gQb, gQc]
      refine wpAnyIn_ready (rs := [9]) (by kernel_rfl) (by simp) ?_
      refine AllReadyIn.cons rfl (fun K hK => ?_) AllReadyIn.nil
      obtain ⟨fn, tmps, assign, body, hyy, hR⟩ := hY (m - 1) w4 X4
      rw [hy] at hyy
      replace hyy : (Instr.yield l #[.agg (x.k.1.map bv).toArray, .slice A' x.v.length c']).run Tryd.prog w4 = .ok (.round l fn tmps assign body) w4 := hyy
      go_simp
      refine ⟨fun h => (by cases h), hR.mono ?_⟩
      rintro e w9 ⟨tb, rfl, hG9⟩
      simp only []
      refine hK _ _ ?_
      clear hK K
      try simp only [Act.put, sQa, sQb, sQc, gQa, gQb, gQc]
      refine wpAnyIn_ready (rs := [10]) (by kernel_rfl) (by simp) ?_
      refine AllReadyIn.cons rfl (fun K hK => ?_) AllReadyIn.nil
      go_simp
      refine hK _ _ ?_
      clear hK K
      try simp only [Act.put, sQa, sQb, sQc, gQa, gQb, gQc]
      refine wpAnyIn_done (by kernel_rfl) ?_ _
      gi_wp2
      go_ret
      exact ⟨tb, _, X4, rfl, hG9⟩
    refine AllReadyIn.cons rfl (fun K hK => ?_) AllReadyIn.nil
    refine stepIn_load_row (by rfl) 77 (.tmp 3) rfl W.heap.size rfl 77 _ (0, 0) _ b2 hut rfl sizeTrie ?_
    refine hK _ _ ?_
    clear hK K
    try simp only [Act.put, sQa, sQb, sQc, gQa, gQb, gQc]
    refine wpAnyIn_ready (rs := [3]) (by kernel_rfl) (by simp) ?_
    refine AllReadyIn.cons rfl (fun K hK => ?_) AllReadyIn.nil
    go_simp
    refine ⟨trivial, fun h => (by cases h), callsIn_wide.2 ((hnode _ X2).mono ?_)⟩
    rintro e w3 ⟨rfl, hb3⟩
    have b3 := (hb3.block _ (block_lt (w := W2.drew) b2)).trans b2
    have X3 := X2.trans (hb3.mono X2.size)
    simp only []
    refine hK _ _ ?_
    clear hK K
    try simp only [Act.put, sQa, sQb, sQc, gQa, gQb, gQc]
    refine wpAnyIn_take (i := 4) (v := ?_) rfl rfl (by kernel_rfl) (by kernel_rfl) (by kernel_rfl) (fun _ _ _ h => h) ⟨Or.inl ⟨by rfl, ?_⟩, fun _ => rfl⟩ ?_
    rotate_left
    · intro w
      go_simp
      first | done | (with_reducible rfl)
    try simp only [Act.put, sQa, sQb, sQc, gQa, gQb, gQc]
    refine wpAnyIn_ready (rs := [7]) (by kernel_rfl) (by simp) ?_
    refine AllReadyIn.cons rfl (fun K hK => ?_) AllReadyIn.nil
    go_simp
    refine ⟨trivial, fun h => (by cases h), callsIn_wide.2 ((hnode _ X3).mono ?_)⟩
    rintro e w4 ⟨rfl, hb4⟩
    have b4 := (hb4.block _ (block_lt (w := w3) b3)).trans b3
    have X4 := X3.trans (hb4.mono X3.size)
    simp only []
    refine hK _ _ ?_
    clear hK K
    try simp only [Act.put, sQa, sQb, sQc, gQa, gQb, gQc]
    refine wpAnyIn_take (i := 8) (v := ?_) rfl rfl (by kernel_rfl) (by kernel_rfl) (by kernel_rfl) (fun _ _ _ h => h) ⟨Or.inl ⟨by rfl, ?_⟩, fun _ => rfl⟩ ?_
    rotate_left
    · intro w
      go_simp
      first | done | (with_reducible rfl)
    try simp only [Act.put, sQa, sQb, sQc, gQa, gQb, gQc]
    refine wpAnyIn_ready (rs := [9]) (by kernel_rfl) (by simp) ?_
    refine AllReadyIn.cons rfl (fun K hK => ?_) AllReadyIn.nil
    obtain ⟨fn, tmps, assign, body, hyy, hR⟩ := hY (m - 1) w4 X4
    rw [hy] at hyy
    replace hyy : (Instr.yield l #[.agg (x.k.1.map bv).toArray, .slice A' x.v.length c']).run Tryd.prog w4 = .ok (.round l fn tmps assign body) w4 := hyy
    go_simp
    refine ⟨fun h => (by cases h), hR.mono ?_⟩
    rintro e w9 ⟨tb, rfl, hG9⟩
    simp only []
    refine hK _ _ ?_
    clear hK K
    try simp only [Act.put, sQa, sQb, sQc, gQa, gQb, gQc]
    refine wpAnyIn_ready (rs := [10]) (by kernel_rfl) (by simp) ?_
    refine AllReadyIn.cons rfl (fun K hK => ?_) AllReadyIn.nil
    go_simp
    refine hK _ _ ?_
    clear hK K
    try simp only [Act.put, sQa, sQb, sQc, gQa, gQb, gQc]
    refine wpAnyIn_done (by kernel_rfl) ?_ _
    gi_wp2
    go_ret
    exact ⟨tb, _, X4, rfl, hG9⟩
  refine AllReadyIn.cons rfl (fun K hK => ?_) AllReadyIn.nil
  refine stepIn_load_row (by rfl) 77 (.tmp 3) rfl W.heap.size rfl 77 _ (0, 0) _ b2 hut rfl sizeTrie ?_
  refine hK _ _ ?_
  clear hK K
  try simp only [Act.put, sQa, sQb, sQc, gQa, gQb, gQc]
  refine wpAnyIn_ready (rs := [1]) (by kernel_rfl) (by simp) ?_
  refine AllReadyIn.cons rfl (fun K hK => ?_) AllReadyIn.nil
  refine stepIn_load_row (by rfl) 77 (.tmp 3) rfl W.heap.size rfl 77 _ (0, 0) _ b2 hut rfl sizeTrie ?_
  refine hK _ _ ?_
  clear hK K
  try simp only [Act.put, sQa, sQb, sQc, gQa, gQb, gQc]
  refine wpAnyIn_ready (rs := [3]) (by kernel_rfl) (by simp) ?_
  refine AllReadyIn.cons rfl (fun K hK => ?_) AllReadyIn.nil
  go_simp
  refine ⟨trivial, fun h => (by cases h), callsIn_wide.2 ((hnode _ X2).mono ?_)⟩
  rintro e w3 ⟨rfl, hb3⟩
  have b3 := (hb3.block _ (block_lt (w := W2.drew) b2)).trans b2
  have X3 := X2.trans (hb3.mono X2.size)
  simp only []
  refine hK _ _ ?_
  clear hK K
  try simp only [Act.put, sQa, sQb, sQc, gQa, gQb, gQc]
  refine wpAnyIn_take (i := 4) (v := ?_) rfl rfl (by kernel_rfl) (by kernel_rfl) (by kernel_rfl) (fun _ _ _ h => h) ⟨Or.inl ⟨by rfl, ?_⟩, fun _ => rfl⟩ ?_
  rotate_left
  · intro w
    go_simp
    first | done | (with_reducible rfl)
  try simp only [Act.put, sQa, sQb, sQc, gQa, gQb, gQc]
  refine wpAnyIn_ready (rs := [7]) (by kernel_rfl) (by simp) ?_
  refine AllReadyIn.cons rfl (fun K hK => ?_) AllReadyIn.nil
  go_simp
  refine ⟨trivial, fun h => (by cases h), callsIn_wide.2 ((hnode _ X3).mono ?_)⟩
  rintro e w4 ⟨rfl, hb4⟩
  have b4 := (hb4.block _ (block_lt (w := w3) b3)).trans b3
  have X4 := X3.trans (hb4.mono X3.size)
  simp only []
  refine hK _ _ ?_
  clear hK K
  try simp only [Act.put, sQa, sQb, sQc, gQa, gQb, gQc]
  refine wpAnyIn_take (i := 8) (v := ?_) rfl rfl (by kernel_rfl) (by kernel_rfl) (by kernel_rfl) (fun _ _ _ h => h) ⟨Or.inl ⟨by rfl, ?_⟩, fun _ => rfl⟩ ?_
  rotate_left
  · intro w
    go_simp
    first | done | (with_reducible rfl)
  try simp only [Act.put, sQa, sQb, sQc, gQa, gQb, gQc]
  refine wpAnyIn_ready (rs := [9]) (by kernel_rfl) (by simp) ?_
  refine AllReadyIn.cons rfl (fun K hK => ?_) AllReadyIn.nil
  obtain ⟨fn, tmps, assign, body, hyy, hR⟩ := hY (m - 1) w4 X4
  rw [hy] at hyy
  replace hyy : (Instr.yield l #[.agg (x.k.1.map bv).toArray, .slice A' x.v.length c']).run Tryd.prog w4 = .ok (.round l fn tmps assign body) w4 := hyy
  go_simp
  refine ⟨fun h => (by cases h), hR.mono ?_⟩
  rintro e w9 ⟨tb, rfl, hG9⟩
  simp only []
  refine hK _ _ ?_
  clear hK K
  try simp only [Act.put, sQa, sQb, sQc, gQa, gQb, gQc]
  refine wpAnyIn_ready (rs := [10]) (by kernel_rfl) (by simp) ?_
  refine AllReadyIn.cons rfl (fun K hK => ?_) AllReadyIn.nil
  go_simp
  refine hK _ _ ?_
  clear hK K
  try simp only [Act.put, sQa, sQb, sQc, gQa, gQb, gQc]
  refine wpAnyIn_done (by kernel_rfl) ?_ _
  gi_wp2
  go_ret
  exact ⟨tb, _, X4, rfl, hG9⟩
  -- END leaf
set_option maxHeartbeats 4000000 in
theorem each_fork (m l n₀ : Nat) (w0 : World) (q o j c : Nat) (nn : Nat) (root : Int) (x : Nd) (W : World) (pre : List (EItems w0)) (J : List (EItems w0) → World → Prop) (Z : World → Prop) (S1 S2 : List (EItems w0) → Prop)
    (hleaf : ∀ W', Below W.heap.size W W' → Calls Tryd.prog 58 #[.agg #[.slice (some ⟨q, o, none⟩) nn c, .int .i64 root], .int .i64 ((j : Int) + 1)] W' fun e w' => e = .returned (.bool false) ∧ Below W'.heap.size W' w')
    (hroads : ∀ W', Below W.heap.size W W' → Calls Tryd.prog 62 #[.agg #[.slice (some ⟨q, o, none⟩) nn c, .int .i64 root], .int .i64 ((j : Int) + 1)] W' fun e w' => e = .returned (.agg #[.int .i64 x.l, .int .i64 x.r]) ∧ Below W'.heap.size W' w')
    (ih1 : ∀ m W', Below W.heap.size W W' → CallsIn Fence.wide m Tryd.prog 78 #[.agg #[.slice (some ⟨q, o, none⟩) nn c, .int .i64 root], .int .i64 x.l, .func (.yield l) #[] #[]] W' fun e W2 => ∃ tb, e = .returned (.bool tb) ∧ ((tb = true ∧ ∃ xs, S1 xs ∧ J (pre ++ xs) W2 ∧ KeepT n₀ W' W2) ∨ (tb = false ∧ Z W2)))
    (ih2 : ∀ m xs W', S1 xs → KeepT n₀ W W' → J (pre ++ xs) W' → CallsIn Fence.wide m Tryd.prog 78 #[.agg #[.slice (some ⟨q, o, none⟩) nn c, .int .i64 root], .int .i64 x.r, .func (.yield l) #[] #[]] W' fun e W2 => ∃ tb, e = .returned (.bool tb) ∧ ((tb = true ∧ ∃ ys, S2 ys ∧ J (pre ++ xs ++ ys) W2 ∧ KeepT n₀ W' W2) ∨ (tb = false ∧ Z W2))) (hn : n₀ ≤ W.heap.size) :
    CallsIn Fence.wide m Tryd.prog 78 #[.agg #[.slice (some ⟨q, o, none⟩) nn c, .int .i64 root], .int .i64 ((j : Int) + 1), .func (.yield l) #[] #[]] W fun e W' => ∃ tb, e = .returned (.bool tb) ∧ ((tb = true ∧ ∃ xs ys, S1 xs ∧ S2 ys ∧ J (pre ++ xs ++ ys) W' ∧ KeepT n₀ W W') ∨ (tb = false ∧ Z W')) := by
  have hut := Tryd.underlying77
  have hu2 := Tryd.underlying109
  have b1 := heap_alloc_new W (.cells #[.slice (some ⟨q, o, none⟩) nn c, .int .i64 root] 77)
  have X1 := ext_alloc W (.cells #[.slice (some ⟨q, o, none⟩) nn c, .int .i64 root] 77)
  have y2 : (((j : Int) + 1) == 0) = false := by rw [beq_eq_false_iff_ne]; omega
  refine callsIn_of_wp Tryd.func78 rfl trivial ?_ rfl
  simp only [Tryd.ntmps78, List.size_toArray, List.length_cons, List.length_nil, Nat.reduceAdd, Nat.reduceSub, Array.replicate_succ, Array.replicate_zero, List.push_toArray, List.append_toArray, List.nil_append, List.cons_append]
  gi_wp2_with (first
    | ((with_reducible refine wpListIn_load_row rfl 77 (.tmp 3) rfl W.heap.size rfl 77 #[.slice (some ⟨q, o, none⟩) nn c, .int .i64 root] (0, 0) _ ?_ hut rfl ?_ ?_); exact b1; exact sizeTrie))
  refine ⟨trivial, fun h => (by cases h), callsIn_wide.2 ((hleaf _ X1).mono ?_)⟩
  rintro e W2 ⟨rfl, hb2⟩
  have X2 := X1.trans (hb2.mono X1.size)
  have b2 := (hb2.block _ (block_lt b1)).trans b1
  clear hleaf
  gi_wp2_with (first
    | ((with_reducible refine wpListIn_load_row rfl 77 (.tmp 3) rfl W.heap.size rfl 77 #[.slice (some ⟨q, o, none⟩) nn c, .int .i64 root] (0, 0) _ ?_ hut rfl ?_ ?_); exact b2; exact sizeTrie))
  refine ⟨trivial, fun h => (by cases h), callsIn_wide.2 ((hroads _ X2).mono ?_)⟩
  rintro e W3 ⟨rfl, hb3⟩
  have X3 := X2.trans (hb3.mono X2.size)
  have b3 := (hb3.block _ (block_lt b2)).trans b2
  clear hroads
  have b4 := ((ext_alloc W3 (.cells #[.int .i64 x.l, .int .i64 x.r] 109)).block _ (block_lt b3)).trans b3
  have r4 := heap_alloc_new W3 (.cells #[.int .i64 x.l, .int .i64 x.r] 109)
  have X4 := X3.trans ((ext_alloc W3 (.cells #[.int .i64 x.l, .int .i64 x.r] 109)).mono X3.size)
  gi_wp2_with (first
    | ((with_reducible refine wpListIn_load_row rfl 77 (.tmp 3) rfl W.heap.size rfl 77 #[.slice (some ⟨q, o, none⟩) nn c, .int .i64 root] (0, 0) _ ?_ hut rfl ?_ ?_); exact b4; exact sizeTrie))
  refine ⟨trivial, fun h => (by cases h), (ih1 _ _ X4).mono ?_⟩
  rintro e W5 ⟨tb, rfl, (⟨rfl, xs, hs1, hj5, hk5⟩ | ⟨rfl, hz⟩)⟩
  rotate_left
  · gi_wp2
    refine ⟨trivial, ?_⟩
    gi_wp2
    go_ret
    exact ⟨false, rfl, .inr ⟨rfl, hz⟩⟩
  have b5 := (hk5.2 _ _ _ _ b4 (.inl rfl)).trans b4
  have r5 := (hk5.2 _ _ _ _ r4 (.inr rfl)).trans r4
  have k5 := (KeepT.bel X4 hn).trans hk5
  have c5 := block_cell r5 1
  replace c5 : W5.cell? ⟨W3.heap.size, 1, none⟩ = some (.int .i64 x.r) := c5
  clear ih1
  gi_wp2_with (first
    | ((with_reducible refine wpListIn_load_rowg ?_ 77 (.tmp 3) rfl W.heap.size rfl 77 #[.slice (some ⟨q, o, none⟩) nn c, .int .i64 root] (0, 0) _ ?_ hut rfl ?_ ?_); rfl; exact b5; exact sizeTrie))
  refine ⟨trivial, fun h => (by cases h), (ih2 _ xs _ hs1 k5 hj5).mono ?_⟩
  rintro e W6 ⟨tb, rfl, h6⟩
  gi_wp2
  go_ret
  refine ⟨tb, rfl, ?_⟩
  rcases h6 with ⟨rfl, ys, hs2, hj6, hk6⟩ | ⟨rfl, hz⟩
  · exact .inl ⟨rfl, xs, ys, hs1, hs2, hj6, k5.trans hk6⟩
  · exact .inr ⟨rfl, hz⟩
/-- All pairs of a node, in order, are handed on. -/
theorem each_in (l : Nat) (w0 : World) (F : Nat → Prop) (A : Option Addr) (c : Nat) (ns : List Nd) (root : Int) (ho : Ones ns) (hr : Row F w0 A ns) (hc : ns.length ≤ 1000000) (N : Nat) (J Jx : List (EItems w0) → World → Prop)
    (hJ : ∀ pre W W', J pre W → Below W.heap.size W W' → J pre W')
    (hY : ∀ m pre x W, J pre W → pre.length < N → YieldAt Fence.wide m Tryd.prog l (EItem.encs x.1) W fun e W' => (e = .returned (.bool true) ∧ J (pre ++ [x]) W' ∧ KeepT w0.heap.size W W') ∨ (e = .returned (.bool false) ∧ Jx (pre ++ [x]) W')) :
    ∀ (e : Nat) (n : Int) (b : Dg) (m : Nat) (pre : List (EItems w0)) (W : World), 0 ≤ n → n ≤ ns.length → 0 ≤ rgt ns e n b → Below w0.heap.size w0 W → J pre W → pre.length + (forP ns e n).length ≤ N →
      CallsIn Fence.wide m Tryd.prog 78 #[.agg #[.slice A ns.length c, .int .i64 root], .int .i64 n, .func (.yield l) #[] #[]] W fun r W' => ∃ tb, r = .returned (.bool tb) ∧ ((tb = true ∧ ∃ xs : List (EItems w0), xs.map (fun x => x.1.p) = forP ns e n ∧ J (pre ++ xs) W' ∧ KeepT w0.heap.size W W') ∨ (tb = false ∧ ∃ q, Jx q W')) := by
  have leafCase : ∀ (j : Nat) (hjl : j < ns.length), ns[j].leaf = true → oneN ns[j] j = true → ∀ (m : Nat) (pre : List (EItems w0)) (W : World), Below w0.heap.size w0 W → J pre W → pre.length + [(⟨ns[j].k, ns[j].v⟩ : Pr)].length ≤ N →
      CallsIn Fence.wide m Tryd.prog 78 #[.agg #[.slice A ns.length c, .int .i64 root], .int .i64 ((j : Int) + 1), .func (.yield l) #[] #[]] W fun r W' => ∃ tb, r = .returned (.bool tb) ∧ ((tb = true ∧ ∃ xs : List (EItems w0), xs.map (fun x => x.1.p) = [⟨ns[j].k, ns[j].v⟩] ∧ J (pre ++ xs) W' ∧ KeepT w0.heap.size W W') ∨ (tb = false ∧ ∃ q, Jx q W')) := fun j hjl hl hone m pre W hb hj hN => by
    obtain ⟨q, o, rfl, A', c', hR, k2, k3, hv, -, -⟩ := row_nd hr hjl
    have hlf : leafB ns ((j : Int) + 1) = true := by
      unfold leafB
      rw [ndAt_at hjl, hl, decide_eq_true (by omega)]
      rfl
    refine (each_leaf m l w0 q o j c ns.length root ns[j] A' c' W (fun tb W' W2 => (tb = true ∧ J (pre ++ [⟨⟨⟨ns[j].k, ns[j].v⟩, A', c'⟩, hv.rd, k2, k3, (one_leaf hone hl).1⟩]) W2 ∧ KeepT w0.heap.size W' W2) ∨ (tb = false ∧ ∃ q, Jx q W2)) ⟨⟨⟨ns[j].k, ns[j].v⟩, A', c'⟩, hv.rd, k2, k3, (one_leaf hone hl).1⟩ rfl
      (fun W' hb' => by have := PIsLeaf_any F _ c ns root ((j : Int) + 1) W' (hr.bel (hb.trans (hb'.mono hb.size))) (by omega) (by omega) (by omega); rw [hlf] at this; exact this)
      (fun W' hb' => PNode_at q o j ns.length c root ns[j] A' c' W' (rangeBel2 (hb.trans (hb'.mono hb.size)) hR) hjl (by omega))
      (fun m W' hb' => (hY m pre _ W' (hJ _ _ _ hj hb') (by simp at hN; omega)).mono fun e W2 h => h.elim (fun ⟨h1, h2, h3⟩ => ⟨true, h1, .inl ⟨rfl, h2, h3⟩⟩) (fun ⟨h1, h2⟩ => ⟨false, h1, .inr ⟨rfl, _, h2⟩⟩))).mono ?_
    rintro r W' ⟨tb, W1, hb1, rfl, h⟩
    refine ⟨tb, rfl, ?_⟩
    rcases h with ⟨rfl, hj', hk'⟩ | ⟨rfl, h⟩
    · exact .inl ⟨rfl, [_], rfl, hj', (KeepT.bel hb1 hb.size).trans hk'⟩
    · exact .inr ⟨rfl, h⟩
  intro e
  induction e with
  | zero =>
    intro n b m pre W h0 hn hg hb hj hN
    by_cases hz : n = 0
    · subst hz
      refine (each_zero m l A ns.length c root W).mono ?_
      rintro r W' ⟨rfl, hb'⟩
      exact ⟨true, rfl, .inl ⟨rfl, [], by rw [forP_zero]; rfl, by rw [List.append_nil]; exact hJ _ _ _ hj hb', KeepT.bel hb' hb.size⟩⟩
    · obtain ⟨j, hjl, rfl, hx, hone⟩ := ones_at ho (by omega) hn
      cases hl : (ndAt ns ((j : Int) + 1)).leaf with
      | false => rw [rgt_end hz hl] at hg; omega
      | true =>
        rw [forP_leaf hz hl, hx] at hN ⊢
        rw [hx] at hl
        exact leafCase j hjl hl hone m pre W hb hj hN
  | succ e ih =>
    intro n b m pre W h0 hn hg hb hj hN
    by_cases hz : n = 0
    · subst hz
      refine (each_zero m l A ns.length c root W).mono ?_
      rintro r W' ⟨rfl, hb'⟩
      exact ⟨true, rfl, .inl ⟨rfl, [], by rw [forP_zero]; rfl, by rw [List.append_nil]; exact hJ _ _ _ hj hb', KeepT.bel hb' hb.size⟩⟩
    · obtain ⟨j, hjl, rfl, hx, hone⟩ := ones_at ho (by omega) hn
      cases hl : (ndAt ns ((j : Int) + 1)).leaf with
      | true =>
        rw [forP_leaf hz hl, hx] at hN ⊢
        rw [hx] at hl
        exact leafCase j hjl hl hone m pre W hb hj hN
      | false =>
        obtain ⟨f, hf, r1, r2, _, _⟩ := fork_parts hz hl hg
        obtain rfl : e = f := by omega
        obtain ⟨k1, k2, k3, k4, -⟩ := one_fork hone (by rw [← hx]; exact hl)
        rw [forP_fork hz hl] at hN ⊢
        rw [hx] at hN r1 r2 ⊢
        rw [List.length_append] at hN
        obtain ⟨q, o, rfl, A', c', hR, -, -, hv, -, -⟩ := row_nd hr hjl
        have hlf : leafB ns ((j : Int) + 1) = false := by
          unfold leafB
          rw [hl, Bool.and_false]
        refine (each_fork m l w0.heap.size w0 q o j c ns.length root ns[j] W pre J (fun W' => ∃ q, Jx q W') (fun xs => xs.map (fun x => x.1.p) = forP ns e ns[j].l) (fun ys => ys.map (fun x => x.1.p) = forP ns e ns[j].r)
          (fun W' hb' => by have := PIsLeaf_any F _ c ns root ((j : Int) + 1) W' (hr.bel (hb.trans (hb'.mono hb.size))) h0 hn (by omega); rw [hlf] at this; exact this)
          (fun W' hb' => PRoads_at q o j ns.length c root ns[j] A' c' W' (rangeBel2 (hb.trans (hb'.mono hb.size)) hR) hjl (by omega))
          (fun m W' hb' => (ih ns[j].l b m pre W' k1 (by omega) r1 (hb.trans (hb'.mono hb.size)) (hJ _ _ _ hj hb') (by omega)))
          (fun m xs W' hs hk hj' => (ih ns[j].r _ m (pre ++ xs) W' k3 (by omega) r2 (hb.trans hk.1) hj' (by rw [List.length_append]; have := congrArg List.length hs; rw [List.length_map] at this; omega))) hb.size).mono ?_
        rintro r W' ⟨tb, rfl, h⟩
        refine ⟨tb, rfl, ?_⟩
        rcases h with ⟨rfl, xs, ys, hs1, hs2, hj6, hk6⟩ | ⟨rfl, h⟩
        · exact .inl ⟨rfl, xs ++ ys, by rw [List.map_append, hs1, hs2], by rw [← List.append_assoc]; exact hj6, hk6⟩
        · exact .inr ⟨rfl, h⟩
end Go.Proofs.YtcifncmfjlbhjaaDoor
