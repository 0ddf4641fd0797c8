/-
  Contracts of the landed package tag: Parts.
-/
import Derived.Test.YtnoglodggchgpabDoorTagB
namespace Go.Proofs.YtnoglodggchgpabDoor
open Go.RowKit Go.Shelf
set_option linter.unusedVariables false
attribute [local go_sem] Oper.semAt_some

theorem own_other {E : TypeId} {w w' : World} {B : Nat} {A : Option Addr} {c : Nat} {l : List UInt8} {row : Option Nat} (h : Own E w B A c l) (hg : w.grownBy w' row) (hr : ∀ r, row = some r → ∃ o : Obj, w.heap[r]? = some o ∧ o.isCells = false) : Own E w' B A c l := by
  refine h.kept hg fun a ha => ?_
  rcases h.2 with ⟨hv, _⟩ | ⟨g, cap, cur, hv, _, hgb, _⟩
  · injection hv with hA _ _
    rw [ha] at hA; cases hA
  · injection hv with hA _ _
    rw [ha] at hA
    injection hA with hA
    subst hA
    exact apart_cells hgb hr
theorem ownL_other {EL EB : TypeId} {w w' : World} {B : Nat} {A : Option Addr} {c : Nat} {ls : List (List UInt8)} {row : Option Nat} (h : OwnL EL EB w B A c ls) (hg : w.grownBy w' row) (hr : ∀ r, row = some r → ∃ o : Obj, w.heap[r]? = some o ∧ o.isCells = false) : OwnL EL EB w' B A c ls := by
  obtain ⟨vs, h1, h2, h3⟩ := h
  refine ⟨vs, h1, h2.kept hg ?_, fun j v l hv hl => own_other (h3 j v l hv hl) hg hr⟩
  rcases h2.2 with ⟨hv, _⟩ | ⟨g, cap, cur, hv, _, hgb, _⟩
  · rw [hv]; exact .inl rfl
  · rw [hv]; exact .inr (apart_cells hgb hr)

theorem ownL_base {EL EB : TypeId} {w : World} {B B' : Nat} {A : Option Addr} {c : Nat} {ls : List (List UInt8)} (h : OwnL EL EB w B A c ls) (hB : B' ≤ B) : OwnL EL EB w B' A c ls := by
  obtain ⟨vs, h1, h2, h3⟩ := h
  refine ⟨vs, h1, ⟨h2.1, ?_⟩, fun j v l hv hl => (h3 j v l hv hl).base hB⟩
  rcases h2.2 with hn | ⟨g, cap, cur, hv, hb, r⟩
  · exact .inl hn
  · exact .inr ⟨g, cap, cur, hv, Nat.le_trans hB hb, r⟩
theorem ownL_set {EL EB : TypeId} {w : World} {B : Nat} {A : Option Addr} {c : Nat} {ls : List (List UInt8)} {g : Nat} (h : OwnL EL EB w B A c ls) (hg : g < B) (u : Value) : OwnL EL EB (w.setCell ⟨g, 0, none⟩ u) B A c ls := by
  obtain ⟨vs, h1, h2, h3⟩ := h
  refine ⟨vs, h1, h2.kept (grownBy_setCell' _ _ _) (.inr fun e => by have := (World.ownsRow.lt h2 g e).1; omega), fun j v l hv hl => (h3 j v l hv hl).kept (grownBy_setCell' _ _ _) fun a ha e => ?_⟩
  have := ((h3 j v l hv hl).blk a ha).1
  injection e with e
  omega

section
variable {F : Fence} {n : Nat} {P : Program} {S EL EB : TypeId} {w : World}
theorem run_appLK {A : Option Addr} {c : Nat} {ls : List (List UInt8)} {B : Nat} (hS : P.underlying S = some (.slice EL)) (hi : (P.info? EL).map (fun i => (i.zero, i.size, i.bytes)) = some (some (.slice none 0 0), 1, 24)) (hne : EB ≠ EL) (ty : TypeId) (ho : OwnL EL EB w B A c ls)
    (A2 : Option Addr) (c2 cc : Nat) (l : List UInt8) (hl : Own EB w B A2 c2 l) (hlen : ls.length ≤ 1000000000) (hB : B ≤ w.heap.size) (g : Nat) (hc : w.cell? ⟨g, 0, none⟩ = some (.slice A2 l.length c2)) :
    ∃ A' c' w', (Builtin.append_ #[S, S] ty #[.slice A ls.length c, .slice (some ⟨g, 0, none⟩) 1 cc]).run P w = .ok (.slice A' (ls ++ [l]).length c') w' ∧ OwnL EL EB w' B A' c' (ls ++ [l]) ∧ Below B w w' ∧ KeepsOthers w w' := by
  obtain ⟨i0, hi0, hz0, hz1, hz2⟩ := info_parts hi
  obtain ⟨vs, h1, h2, h3⟩ := ho
  have hnews : ∀ (j : Nat) (u : Value), [Value.slice A2 l.length c2][j]? = some u → w.cell? ((⟨g, 0, none⟩ : Addr).add j) = some u := by
    intro j u hu
    rcases j with _ | j
    · simp at hu
      subst hu
      exact hc
    · simp at hu
  obtain ⟨v', w', hrun, hown, hg, _⟩ := run_append_own (P := P) w B S ty EL i0 (.slice none 0 0) 1 24 hS hi0 hz0 hz1 hz2 rfl (by omega) _ ls.length _ h2 ⟨g, 0, none⟩ 1 cc [.slice A2 l.length c2]
    rfl hnews (by intro u hu; simp at hu; subst hu; rfl) (by unfold maxLen; omega) (by omega) hB
  have hb : Below B w w' := (Below.refl B w).grown hg hB (fun k hk => (World.ownsRow.lt h2 k hk).1)
  have hko : KeepsOthers w w' := by
    refine KeepsOthers.of_grownBy hg fun j o ej hj => ?_
    rcases h2.2 with ⟨hv, _⟩ | ⟨g0, cap, cur, hv, _, hgb, _⟩
    · rw [hv] at ej; cases ej
    · rw [hv] at ej
      obtain rfl : g0 = j := by simpa [Value.ownBlock] using ej
      rw [hgb] at hj; cases hj; rfl
  have hlen2 : (ls ++ [l]).length = ls.length + 1 := by simp
  have hmap : ((vs ++ [(A2, c2)]).zip (ls ++ [l])).map slv = (vs.zip ls).map slv ++ [.slice A2 l.length c2] := by
    rw [List.zip_append h1, List.map_append]
    rfl
  have hall : ∀ (j : Nat) (v : Option Addr × Nat) (m : List UInt8), (vs ++ [(A2, c2)])[j]? = some v → (ls ++ [l])[j]? = some m → Own EB w' B v.1 v.2 m := by
    intro j v m hv hm
    rcases Nat.lt_or_ge j ls.length with hj | hj
    · rw [List.getElem?_append_left (by omega)] at hv hm
      have h4 := h3 j v m hv hm
      exact h4.kept hg (own_apart hne h2 h4)
    · rw [List.getElem?_append_right (by omega)] at hv hm
      have e0 : j - vs.length = 0 := by
        rcases Nat.eq_zero_or_pos (j - vs.length) with h0 | h0
        · exact h0
        · rw [List.getElem?_eq_none (by simp; omega)] at hv; cases hv
      have e1 : j - ls.length = 0 := by omega
      rw [e0] at hv
      rw [e1] at hm
      simp at hv hm
      subst hv hm
      exact hl.kept hg (own_apart hne h2 hl)
  rcases hown.2 with ⟨hv, h0⟩ | ⟨g', cap, cur, hv, r⟩
  · omega
  · subst hv
    refine ⟨some ⟨g', 0, none⟩, cap, w', ?_, ⟨vs ++ [(A2, c2)], by simp [h1], ?_, hall⟩, hb, hko⟩
    · rw [hrun, hlen2]
    · rw [hlen2, hmap]
      exact hown
theorem wpListIn_appL (hS : P.underlying S = some (.slice EL)) (hi : (P.info? EL).map (fun i => (i.zero, i.size, i.bytes)) = some (some (.slice none 0 0), 1, 24)) (hne : EB ≠ EL)
    {ops : Array Oper} {rest : List Oper} {o : Oper} {a : Act} {Q : Exit → Act → World → Prop} (hg : o.guard = none) (s x : Operand)
    (hop : o.op = .call { callee := .builtin .append, args := #[s, x], argTypes := #[S, S] })
    (B : Nat) (A A2 : Option Addr) (m c c2 cc g : Nat) (ls : List (List UInt8)) (l : List UInt8) (hs : a.eval s = .slice A m c) (hx : a.eval x = .slice (some ⟨g, 0, none⟩) 1 cc) (hn : m = ls.length)
    (ho : OwnL EL EB w B A c ls) (hl : Own EB w B A2 c2 l) (hc : w.cell? ⟨g, 0, none⟩ = some (.slice A2 l.length c2)) (hlen : ls.length ≤ 1000000000) (hB : B ≤ w.heap.size)
    (hK : ∀ A' c' w', OwnL EL EB w' B A' c' (ls ++ [l]) → Below B w w' → KeepsOthers w w' → wpListIn F n P ops Q rest (a.put o.dst (.slice A' (ls ++ [l]).length c')) w') : wpListIn F n P ops Q (o :: rest) a w := by
  refine wpListIn_plain hg fun K hK' => ?_
  subst hn
  obtain ⟨A', c', w', hrun, h1, h2, h3⟩ := run_appLK hS hi hne o.type ho A2 c2 cc l hl hlen hB g hc
  unfold Oper.wpIn
  refine ⟨?_, ?_⟩
  · simp [Oper.about, hop, resolve, Target.leads, Sem.run_pure]
  · rw [Oper.semAt_plain F _ _ (by rw [hop]; intro c hc'; cases hc')]
    simp only [execOp, hop, resolve, invoke, builtin, Sem.run_bind, Sem.run_pure, Result.andThen_ok, List.map_toArray, List.map_cons, List.map_nil, hs, hx, hrun]
    exact hK' _ _ (hK A' c' w' h1 h2 h3)
theorem stepIn_appL (hS : P.underlying S = some (.slice EL)) (hi : (P.info? EL).map (fun i => (i.zero, i.size, i.bytes)) = some (some (.slice none 0 0), 1, 24)) (hne : EB ≠ EL)
    {ops : Array Oper} {o : Oper} {a : Act} {K : Act → World → Prop} {Q : Exit → Act → World → Prop} {X : Prop} (hg : o.guard = none) (s x : Operand)
    (hop : o.op = .call { callee := .builtin .append, args := #[s, x], argTypes := #[S, S] })
    (B : Nat) (A A2 : Option Addr) (m c c2 cc g : Nat) (ls : List (List UInt8)) (l : List UInt8) (hs : a.eval s = .slice A m c) (hx : a.eval x = .slice (some ⟨g, 0, none⟩) 1 cc) (hn : m = ls.length)
    (ho : OwnL EL EB w B A c ls) (hl : Own EB w B A2 c2 l) (hc : w.cell? ⟨g, 0, none⟩ = some (.slice A2 l.length c2)) (hlen : ls.length ≤ 1000000000) (hB : B ≤ w.heap.size)
    (hK : ∀ A' c' w', OwnL EL EB w' B A' c' (ls ++ [l]) → Below B w w' → KeepsOthers w w' → K (a.put o.dst (.slice A' (ls ++ [l]).length c')) w') :
    if Region.wanted o (yielded ops a.tmps) = true then Oper.wpIn F n P o a w K Q else X := by
  have hw : Region.wanted o (yielded ops a.tmps) = true := by simp [Region.wanted, hg]
  rw [if_pos hw]
  subst hn
  obtain ⟨A', c', w', hrun, h1, h2, h3⟩ := run_appLK hS hi hne o.type ho A2 c2 cc l hl hlen hB g hc
  unfold Oper.wpIn
  refine ⟨?_, ?_⟩
  · simp [Oper.about, hop, resolve, Target.leads, Sem.run_pure]
  · rw [Oper.semAt_plain F _ _ (by rw [hop]; intro c hc'; cases hc')]
    simp only [execOp, hop, resolve, invoke, builtin, Sem.run_bind, Sem.run_pure, Result.andThen_ok, List.map_toArray, List.map_cons, List.map_nil, hs, hx, hrun]
    exact hK A' c' w' h1 h2 h3
end

/-! ### Parts -/
/-- What the loop holds between two rounds. -/
def Loop (w : World) (B0 : Nat) (pre : List (Items w)) (W : World) : Prop :=
  (∀ x ∈ pre, x.1.e = 0) ∧ (∃ A' c', Boxed W (w.heap.size + 1) 30 (.slice A' (pre.map fun x => x.1.l).length c') ∧ OwnL 24 5 W B0 A' c' (pre.map fun x => x.1.l)) ∧
    Boxed W w.heap.size 5 (.int .u8 0) ∧ Boxed W (w.heap.size + 2) 31 (.int .i64 0) ∧ Below w.heap.size w W ∧ B0 ≤ W.heap.size
/-- What holds where a round has left. -/
def Left (w : World) (cd : Code) (pre : List (Items w)) (W : World) : Prop :=
  cd = .ret ∧ ∃ q x, pre = q ++ [x] ∧ x.1.e ≠ 0 ∧ Boxed W w.heap.size 5 (.int .u8 0) ∧ Boxed W (w.heap.size + 1) 30 (.slice none 0 0) ∧ Boxed W (w.heap.size + 2) 31 (.int .i64 x.1.e) ∧ Below w.heap.size w W
theorem loop_from (w : World) (B0 : Nat) (hB : w.heap.size ≤ B0) : OwnFrom B0 (Loop w B0) := by
  rintro pre X Y row ⟨h1, ⟨A', c', h2, h3⟩, h4, h5, h6, h7⟩ hg hr
  have hr2 := fun r e => (hr r e).2
  exact ⟨h1, ⟨A', c', h2.kept hg (apart_cells h2 hr2), ownL_other h3 hg hr2⟩, h4.kept hg (apart_cells h4 hr2), h5.kept hg (apart_cells h5 hr2), h6.grown hg (h6.size) (fun k e => Nat.le_trans hB (hr k e).1), Nat.le_trans h7 hg.size⟩
theorem left_from (w : World) (B0 : Nat) (hB : w.heap.size ≤ B0) (cd : Code) : OwnFrom B0 (Left w cd) := by
  rintro pre X Y row ⟨h1, q, x, h2, h3, h4, h5, h6, h7⟩ hg hr
  have hr2 := fun r e => (hr r e).2
  exact ⟨h1, q, x, h2, h3, h4.kept hg (apart_cells h4 hr2), h5.kept hg (apart_cells h5 hr2), h6.kept hg (apart_cells h6 hr2), h7.grown hg h7.size (fun k e => Nat.le_trans hB (hr k e).1)⟩

theorem res3 {W : World} {s : Nat} {k : Value} {v : Value} {e : Value} {tmps : Array Value} (h1 : Boxed W s 5 k) (h2 : Boxed W (s + 1) 30 v) (h3 : Boxed W (s + 2) 31 e)
    (e1 : tmps.getD 2 undef = .pointer (some ⟨s, 0, none⟩)) (e2 : tmps.getD 3 undef = .pointer (some ⟨s + 1, 0, none⟩)) (e3 : tmps.getD 4 undef = .pointer (some ⟨s + 2, 0, none⟩)) : (results Tryd.f11 tmps).run Tryd.prog W = .ok (.tuple #[k, v, e]) W :=
  results_cells3 rfl tmps _ W _ _ _ _ _ _ e1 e2 e3 (loadVar_boxed Tryd.isAgg5 h1) (loadVar_boxed Tryd.isAgg30 h2) (loadVar_boxed Tryd.isAgg31 h3)

set_option maxRecDepth 100000 in
set_option maxHeartbeats 2000000 in
theorem TParts_any (A : Option Addr) (c n : Nat) (b : List UInt8) (w : World) (hr : Rd w A b) (hn : n = b.length) (hb1 : b.length ≤ 1000000) (hc : b.length ≤ c) (hcm : c ≤ 9223372036854775807) :
    Calls Tryd.prog 11 #[.slice A n c] w fun r w' => ∃ A' c', r = .returned (.tuple #[.int .u8 ((tagK b).toNat : Int), .slice A' (tagL b).length c', .int .i64 (tagE b)]) ∧ OwnL 24 5 w' w.heap.size A' c' (tagL b) ∧ Below w.heap.size w w' := by
  subst hn
  refine (callsIn_wide (n := 4)).1 ?_
  refine callsIn_of_wp_marks Tryd.func11 rfl trivial ?_ rfl
  simp only [Tryd.ntmps11, List.size_toArray, List.length_cons, List.length_nil, Nat.reduceAdd, Nat.reduceSub, Array.replicate_succ, Array.replicate_zero, List.push_toArray, List.append_toArray, List.nil_append, List.cons_append]
  rcases Nat.eq_zero_or_pos b.length with h0 | h0
  · obtain rfl : b = [] := List.eq_nil_of_length_eq_zero h0
    gi_wp2
    have h2 := Boxed.new ((w.alloc (.cells #[.int .u8 0] 5)).alloc (.cells #[.slice none 0 0] 30)) 31 (.int .i64 10)
    have h1 := (Boxed.new (w.alloc (.cells #[.int .u8 0] 5)) 30 (.slice none 0 0)).alloc (.cells #[.int .i64 10] 31)
    have h3 := ((Boxed.new w 5 (.int .u8 0)).alloc (.cells #[.slice none 0 0] 30)).alloc (.cells #[.int .i64 10] 31)
    simp only [World.size_alloc] at h1 h2 h3
    refine ⟨_, res3 h3 h1 h2 rfl rfl rfl, none, 0, rfl, OwnL.nil _ _, ?_⟩
    (repeat (first | exact Below.refl _ _ | assumption | refine ext_trans ?_ (by assumption) | refine ext_trans ?_ (ext_alloc _ _)))
  · obtain ⟨bb, o, hA, hbc⟩ := hr h0
    subst hA
    have hb0c : w.cell? ⟨bb, o, none⟩ = some (bv (b.getD 0 0)) := by have := hbc 0 _ (List.getElem?_eq_getElem h0); rw [List.getD_eq_getElem?_getD, List.getElem?_eq_getElem h0]; exact this
    clear hbc
    obtain ⟨A1, hA1⟩ : ∃ A1 : Option Addr, (if c = 1 then some (⟨bb, o, none⟩ : Addr) else some ⟨bb, o + 1, none⟩) = A1 := ⟨_, rfl⟩
    have hcut := hr.cut 1 b.length c (by omega) (Nat.le_refl _) (by omega)
    rw [List.take_of_length_le (by rw [List.length_drop]; omega), Option.map_some, Addr.add_lit, hA1] at hcut
    gi_wp2_with (refine ⟨trivial, ?_⟩; gi_at_call 20; refine (callsIn_wide.2 (each_any _ _ _ _)).mono ?_; rintro e w' ⟨rfl, rfl⟩)
    have bK := (((((Boxed.new w 5 (.int .u8 0)).alloc (.cells #[.slice none 0 0] 30)).alloc (.cells #[.int .i64 0] 31)).alloc (.cells #[.slice A1 (b.length - 1) (c - 1)] 24)).alloc (.cells #[.func (.func 30) #[] #[.pointer (some ⟨w.heap.size + 1 + 1 + 1, 0, none⟩)]] 66))
    have bP := ((((Boxed.new (w.alloc (.cells #[.int .u8 0] 5)) 30 (.slice none 0 0)).alloc (.cells #[.int .i64 0] 31)).alloc (.cells #[.slice A1 (b.length - 1) (c - 1)] 24)).alloc (.cells #[.func (.func 30) #[] #[.pointer (some ⟨w.heap.size + 1 + 1 + 1, 0, none⟩)]] 66))
    have bE := (((Boxed.new ((w.alloc (.cells #[.int .u8 0] 5)).alloc (.cells #[.slice none 0 0] 30)) 31 (.int .i64 0)).alloc (.cells #[.slice A1 (b.length - 1) (c - 1)] 24)).alloc (.cells #[.func (.func 30) #[] #[.pointer (some ⟨w.heap.size + 1 + 1 + 1, 0, none⟩)]] 66))
    have bB := ((Boxed.new (((w.alloc (.cells #[.int .u8 0] 5)).alloc (.cells #[.slice none 0 0] 30)).alloc (.cells #[.int .i64 0] 31)) 24 (.slice A1 (b.length - 1) (c - 1))).alloc (.cells #[.func (.func 30) #[] #[.pointer (some ⟨w.heap.size + 1 + 1 + 1, 0, none⟩)]] 66))
    have bF := Boxed.new ((((w.alloc (.cells #[.int .u8 0] 5)).alloc (.cells #[.slice none 0 0] 30)).alloc (.cells #[.int .i64 0] 31)).alloc (.cells #[.slice A1 (b.length - 1) (c - 1)] 24)) 66 (.func (.func 30) #[] #[.pointer (some ⟨w.heap.size + 1 + 1 + 1, 0, none⟩)])
    have hB0 : Below w.heap.size w (((((w.alloc (.cells #[.int .u8 0] 5)).alloc (.cells #[.slice none 0 0] 30)).alloc (.cells #[.int .i64 0] 31)).alloc (.cells #[.slice A1 (b.length - 1) (c - 1)] 24)).alloc (.cells #[.func (.func 30) #[] #[.pointer (some ⟨w.heap.size + 1 + 1 + 1, 0, none⟩)]] 66)) := by (repeat (first | exact Below.refl _ _ | assumption | refine ext_trans ?_ (by assumption) | refine ext_trans ?_ (ext_alloc _ _)))
    have hs0 : (((((w.alloc (.cells #[.int .u8 0] 5)).alloc (.cells #[.slice none 0 0] 30)).alloc (.cells #[.int .i64 0] 31)).alloc (.cells #[.slice A1 (b.length - 1) (c - 1)] 24)).alloc (.cells #[.func (.func 30) #[] #[.pointer (some ⟨w.heap.size + 1 + 1 + 1, 0, none⟩)]] 66)).heap.size = w.heap.size + 5 := by simp
    simp only [World.size_alloc] at bK bP bE bB bF
    generalize (((((w.alloc (.cells #[.int .u8 0] 5)).alloc (.cells #[.slice none 0 0] 30)).alloc (.cells #[.int .i64 0] 31)).alloc (.cells #[.slice A1 (b.length - 1) (c - 1)] 24)).alloc (.cells #[.func (.func 30) #[] #[.pointer (some ⟨w.heap.size + 1 + 1 + 1, 0, none⟩)]] 66)) = W0 at *
    have hdl : (b.drop 1).length = b.length - 1 := List.length_drop ..
    rw [← hdl] at bB ⊢
    have hEb : tagE b = rE (b.drop 1) := by unfold tagE; rw [if_neg (by intro h; rw [h] at h0; simp at h0)]
    have hLb : tagL b = if rE (b.drop 1) = 0 then rL (b.drop 1) else [] := by unfold tagL; rw [hEb]
    have hKb : tagK b = if rE (b.drop 1) = 0 then b.getD 0 0 else 0 := by unfold tagK; rw [hEb]
    generalize b.drop 1 = r at *
    replace hdl := hid hdl
    replace hEb := hid hEb
    replace hLb := hid hLb
    replace hKb := hid hKb
    replace hA1 := hid hA1
    refine wpIn_rangeFunc_ownG (F := Fence.wide) rfl (by omega) (gf := 32) (lb := #[.pointer (some ⟨w.heap.size + 1 + 1 + 1, 0, none⟩), .pointer (some ⟨w.heap.size + 1 + 1 + 1 + 1, 0, none⟩)]) rfl trivial (enters_of Tryd.func32 (by kernel_rfl) rfl)
      (encs := fun x : Items w => Item.encs x.1) (Kp := Keep2 w.heap.size (w.heap.size + 1 + 1 + 1) (w.heap.size + 1 + 1 + 1 + 1)) (S := fun xs => AllCame r (xs.map (·.1))) (Sp := fun pre => SomeCame r (pre.map (·.1))) (N := r.length + 1) (w0 := W0)
      (fun l J Jx W hW hJ hJx hY h0 => each2_in 3 (by omega) (w.heap.size + 1 + 1 + 1) (w.heap.size + 1 + 1 + 1 + 1) w.heap.size l A1 (c - 1) r w W rfl (hB0.trans (hW.mono (by omega))) hcut (by have := hdl.out; omega) (by have := hdl.out; omega) (by unfold maxLen; omega)
        ((hW.cell (p := ⟨w.heap.size + 1 + 1 + 1, 0, none⟩) (by rw [hs0]; show w.heap.size + 1 + 1 + 1 < _; omega)).trans bB.cell) ((hW.cell (p := ⟨w.heap.size + 1 + 1 + 1 + 1, 0, none⟩) (by rw [hs0]; show w.heap.size + 1 + 1 + 1 + 1 < _; omega)).trans bF.cell) J Jx hJ hY h0)
      (fun h k => h.trans k) (fun W l ob ob' hl h1 h2 h3 => ⟨belowK_b (w := W0) (by omega) W l ob ob' hl h1 h2 h3, World.putObj_heap_other (by omega), World.putObj_heap_other (by omega)⟩) (Below.refl _ _) (fun _ => rfl)
      (Loop w (w.heap.size + 5)) (Left w) (by rw [hs0]; exact loop_from w _ (by omega)) (fun cd => by rw [hs0]; exact left_from w _ (by omega) cd)
      ⟨by simp, ⟨none, 0, bP, OwnL.nil _ _⟩, bK, bE, hB0, by omega⟩
      (fun x => { tmps := #[.slice (some ⟨bb, o, none⟩) b.length c, undef, .pointer (some ⟨w.heap.size, 0, none⟩), .pointer (some ⟨w.heap.size + 1, 0, none⟩), .pointer (some ⟨w.heap.size + 1 + 1, 0, none⟩), .slice x.1.A x.1.l.length x.1.c, .int .i64 x.1.e, .slice (some ⟨bb, o, none⟩) b.length c, .int .i64 b.length, .bool (decide ((b.length : Int) < 1)), .slice (some ⟨bb, o, none⟩) b.length c, .slice A1 r.length (c - 1), .func (.func 32) #[] #[.pointer (some ⟨w.heap.size + 1 + 1 + 1, 0, none⟩), .pointer (some ⟨w.heap.size + 1 + 1 + 1 + 1, 0, none⟩)], .slice x.1.A x.1.l.length x.1.c, .int .i64 x.1.e, undef, undef, undef, undef, undef, undef, undef, undef, undef, undef, undef, undef], defers := [] }) ?assign ?body ?done ?stop
    case assign =>
      rintro l ⟨⟨A2, c2, y, e⟩, hx⟩ W K hK
      dsimp only [Item.encs]
      gi_wp2
      exact hK
    case body =>
      rintro l pre ⟨⟨A2, c2, y, e⟩, hx⟩ W ⟨he0, ⟨A', c', hv, ho⟩, hk, he, hB, hB5⟩ hlt
      obtain ⟨hx1, hx2, hx3, hx4⟩ := id hx
      simp only at hx1 hx2 hx3 hx4 ⊢
      have hcv := hv.cell
      have hfv := hv.frozen
      have hck := hk.cell
      have hfk := hk.frozen
      have hce := he.cell
      have hfe := he.frozen
      have hpl : pre.length ≤ r.length := by omega
      by_cases hz : e = 0
      · subst hz
        have hrl := hdl.out
        have hd : 1 ≤ 4 - 1 - 1 := by omega
        have hmx : Tryd.prog.follows .mixedOrders = true := by kernel_rfl
        have hRW : Hid (Rd W A2 y) := hx1.bel hB
        have hlm : (pre.map fun x => x.1.l).length ≤ 1000000000 := by rw [List.length_map]; omega
        have hfin : ∀ (hg : GoodT w ⟨A2, c2, y, 0⟩), Hid ((pre ++ [⟨⟨A2, c2, y, 0⟩, hg⟩] : List (Items w)).map (fun x => x.1.l) = (pre.map fun x => x.1.l) ++ [y]) := fun _ => by rw [List.map_append]; exact rfl
        have hfe : ∀ (hg : GoodT w ⟨A2, c2, y, 0⟩), ∀ x ∈ (pre ++ [⟨⟨A2, c2, y, 0⟩, hg⟩] : List (Items w)), x.1.e = 0 := by
          intro hg x hx
          rcases List.mem_append.1 hx with h | h
          · exact he0 x h
          · rw [List.mem_singleton.1 h]
        generalize (pre.map fun x => x.1.l) = ls at *
        have FIN : ∀ (A3 : Option Addr) (c3 : Nat) (w3 : World) (_ : Below W.heap.size W w3) (A5 : Option Addr) (c5 : Nat) (w5 : World) (_ : OwnL 24 5 w5 (w.heap.size + 5) A5 c5 (ls ++ [y]))
            (_ : Below (w.heap.size + 5) (w3.alloc (.cells #[.slice A3 y.length c3] 24)) w5) (_ : KeepsOthers (w3.alloc (.cells #[.slice A3 y.length c3] 24)) w5) (_ : Boxed w5 (w.heap.size + 1) 30 (.slice A' ls.length c')),
            KeepsFrom W0.heap.size W (w5.setCell ⟨w.heap.size + 1, 0, none⟩ (.slice A5 (ls ++ [y]).length c5)) ∧ Keep2 w.heap.size (w.heap.size + 1 + 1 + 1) (w.heap.size + 1 + 1 + 1 + 1) W (w5.setCell ⟨w.heap.size + 1, 0, none⟩ (.slice A5 (ls ++ [y]).length c5)) ∧
              Loop w (w.heap.size + 5) (pre ++ [⟨⟨A2, c2, y, 0⟩, hx⟩]) (w5.setCell ⟨w.heap.size + 1, 0, none⟩ (.slice A5 (ls ++ [y]).length c5)) := by
          intro A3 c3 w3 hb3 A5 c5 w5 ho5 hb5 hko5 hv5
          have hb35 : Below (w.heap.size + 5) W w5 := ((hb3.mono hB5).alloc (Nat.le_trans hB5 hb3.size) _).trans hb5
          have hko : KeepsOthers W w5 := (⟨Nat.le_trans hb3.size (by simp), fun k ob hk1 _ => (Below.heap_alloc _ _ _ (by have := (Array.getElem?_eq_some_iff.1 hk1).1; have := hb3.size; omega)).trans ((hb3.block k (Array.getElem?_eq_some_iff.1 hk1).1).trans hk1)⟩ : KeepsOthers W (w3.alloc (.cells #[.slice A3 y.length c3] 24))).trans hko5
          refine ⟨(hko.trans (KeepsOthers.setCell _ _ _)).from _, ⟨(hb35.mono (by omega)).setCell (p := ⟨w.heap.size + 1, 0, none⟩) (by simp) _, ?_, ?_⟩, hfe _, ⟨A5, c5, ?_, ?_⟩, ?_, ?_, ?_, ?_⟩
          · exact (Below.heap_setCell _ _ _ _ (by simp; omega)).trans (hb35.block _ (by omega))
          · exact (Below.heap_setCell _ _ _ _ (by simp; omega)).trans (hb35.block _ (by omega))
          · rw [(hfin _).out]; exact hv5.set _
          · rw [(hfin _).out]
            obtain ⟨vs, k1, k2, k3⟩ := ho5
            have hrow : ∀ k, (Value.slice A5 (ls ++ [y]).length c5).ownBlock = some k → w.heap.size + 5 ≤ k := fun k hk => (World.ownsRow.lt k2 k hk).1
            refine ⟨vs, k1, k2.kept (grownBy_setCell' _ _ _) (.inr fun e => by have := hrow _ e; omega), fun j v m hv hm => (k3 j v m hv hm).kept (grownBy_setCell' _ _ _) fun a ha e => ?_⟩
            have := ((k3 j v m hv hm).blk a ha).1
            injection e with e
            omega
          · exact (boxed_bel hk hb35 (by omega)).other (by omega) _
          · exact (boxed_bel he hb35 (by omega)).other (by omega) _
          · exact (hB.trans (hb35.mono (by omega))).setCell (p := ⟨w.heap.size + 1, 0, none⟩) (by simp) _
          · exact Nat.le_trans hB5 (Nat.le_trans hb35.size (by simp [World.setCell]))
        replace hv := hid hv
        replace hfin := hid hfin
        replace hfe := hid hfe
        replace FIN := hid FIN
        gi_wp2
        -- THE REGION (written by wip/tools/gen_tag.py)
        refine wpIn_region_any (by kernel_rfl) ?_
        change wpAnyIn _ _ _ _ _ _ _ _ _ (World.drew _)
        refine wpAnyIn_ready (rs := [0, 1]) (by kernel_rfl) (by simp) ?_
        refine AllReadyIn.cons rfl (fun K hK => ?_) ?_
        · skip
          go_simp
          refine hK _ _ ?_
          clear hK K
          try simp only [Act.put, List.setIfInBounds_toArray, List.set_cons_zero, List.set_cons_succ, List.getElem_toArray, List.getElem_cons_succ, List.getElem_cons_zero]
          refine wpAnyIn_ready (rs := [1]) (by kernel_rfl) (by simp) ?_
          refine AllReadyIn.cons rfl (fun K hK => ?_) AllReadyIn.nil
          go_simp
          refine hK _ _ ?_
          clear hK K
          try simp only [Act.put, List.setIfInBounds_toArray, List.set_cons_zero, List.set_cons_succ, List.getElem_toArray, List.getElem_cons_succ, List.getElem_cons_zero]
          refine wpAnyIn_ready (rs := [2]) (by kernel_rfl) (by simp) ?_
          refine AllReadyIn.cons rfl (fun K hK => ?_) AllReadyIn.nil
          go_simp
          refine ⟨trivial, CallsIn.inRound l (callsIn_wide.2 ((Clone_any A2 y.length c2 y W.drew hRW.out rfl (by omega)).mono ?_))⟩
          rintro e w3 ⟨A3, c3, rfl, ho3, hb3⟩
          have hb3' : Hid (Below W.heap.size W w3) := undrew hb3
          have hc3 := (hb3'.out.cell (p := ⟨w.heap.size + 1, 0, none⟩) (World.block_lt_of_cell? _ _ hcv)).trans hcv
          have hs3 : W.heap.size ≤ w3.heap.size := hb3'.out.size
          replace ho3 := hid ho3
          clear hb3
          simp only []
          refine hK _ _ ?_
          clear hK K
          try simp only [Act.put, List.setIfInBounds_toArray, List.set_cons_zero, List.set_cons_succ, List.getElem_toArray, List.getElem_cons_succ, List.getElem_cons_zero]
          refine wpAnyIn_ready (rs := [3]) (by kernel_rfl) (by simp) ?_
          refine AllReadyIn.cons rfl (fun K hK => ?_) AllReadyIn.nil
          go_simp
          refine hK _ _ ?_
          clear hK K
          try simp only [Act.put, List.setIfInBounds_toArray, List.set_cons_zero, List.set_cons_succ, List.getElem_toArray, List.getElem_cons_succ, List.getElem_cons_zero]
          refine wpAnyIn_ready (rs := [4]) (by kernel_rfl) (by simp) ?_
          refine AllReadyIn.cons rfl (fun K hK => ?_) AllReadyIn.nil
          refine stepIn_appL tUnderSls tInfoSl tNeSl rfl (.tmp 18) (.tmp 21) rfl (w.heap.size + 5) A' A3 ls.length c' c3 1 w3.heap.size ls y rfl rfl rfl ((ho.bel hb3'.out).alloc _) ((ho3.out.base hB5).alloc _) (Boxed.new w3 _ _).cell hlm (by simp; omega) ?_
          intro A5 c5 w5 ho5 hb5 hko5
          have hv5 : Boxed w5 (w.heap.size + 1) 30 _ := boxed_bel ((boxed_bel hv.out hb3'.out hv.out.lt).alloc _) hb5 (by omega)
          have hc5 := hv5.cell
          have hf5 := hv5.frozen
          refine hK _ _ ?_
          clear hK K
          try simp only [Act.put, List.setIfInBounds_toArray, List.set_cons_zero, List.set_cons_succ, List.getElem_toArray, List.getElem_cons_succ, List.getElem_cons_zero]
          refine wpAnyIn_ready (rs := [5]) (by kernel_rfl) (by simp) ?_
          refine AllReadyIn.cons rfl (fun K hK => ?_) AllReadyIn.nil
          go_simp
          refine hK _ _ ?_
          clear hK K
          try simp only [Act.put, List.setIfInBounds_toArray, List.set_cons_zero, List.set_cons_succ, List.getElem_toArray, List.getElem_cons_succ, List.getElem_cons_zero]
          refine wpAnyIn_done (by kernel_rfl) ?_ _
          gi_wp2
          have F := FIN.out A3 c3 w3 hb3'.out A5 c5 w5 ho5 hb5 hko5 hv5
          rw [show (ls ++ [y]).length = ls.length + 1 by simp] at F
          exact F
        refine AllReadyIn.cons rfl (fun K hK => ?_) AllReadyIn.nil
        go_simp
        refine hK _ _ ?_
        clear hK K
        try simp only [Act.put, List.setIfInBounds_toArray, List.set_cons_zero, List.set_cons_succ, List.getElem_toArray, List.getElem_cons_succ, List.getElem_cons_zero]
        refine wpAnyIn_ready (rs := [0, 2]) (by kernel_rfl) (by simp) ?_
        refine AllReadyIn.cons rfl (fun K hK => ?_) ?_
        · skip
          go_simp
          refine hK _ _ ?_
          clear hK K
          try simp only [Act.put, List.setIfInBounds_toArray, List.set_cons_zero, List.set_cons_succ, List.getElem_toArray, List.getElem_cons_succ, List.getElem_cons_zero]
          refine wpAnyIn_ready (rs := [2]) (by kernel_rfl) (by simp) ?_
          refine AllReadyIn.cons rfl (fun K hK => ?_) AllReadyIn.nil
          go_simp
          refine ⟨trivial, CallsIn.inRound l (callsIn_wide.2 ((Clone_any A2 y.length c2 y W.drew hRW.out rfl (by omega)).mono ?_))⟩
          rintro e w3 ⟨A3, c3, rfl, ho3, hb3⟩
          have hb3' : Hid (Below W.heap.size W w3) := undrew hb3
          have hc3 := (hb3'.out.cell (p := ⟨w.heap.size + 1, 0, none⟩) (World.block_lt_of_cell? _ _ hcv)).trans hcv
          have hs3 : W.heap.size ≤ w3.heap.size := hb3'.out.size
          replace ho3 := hid ho3
          clear hb3
          simp only []
          refine hK _ _ ?_
          clear hK K
          try simp only [Act.put, List.setIfInBounds_toArray, List.set_cons_zero, List.set_cons_succ, List.getElem_toArray, List.getElem_cons_succ, List.getElem_cons_zero]
          refine wpAnyIn_ready (rs := [3]) (by kernel_rfl) (by simp) ?_
          refine AllReadyIn.cons rfl (fun K hK => ?_) AllReadyIn.nil
          go_simp
          refine hK _ _ ?_
          clear hK K
          try simp only [Act.put, List.setIfInBounds_toArray, List.set_cons_zero, List.set_cons_succ, List.getElem_toArray, List.getElem_cons_succ, List.getElem_cons_zero]
          refine wpAnyIn_ready (rs := [4]) (by kernel_rfl) (by simp) ?_
          refine AllReadyIn.cons rfl (fun K hK => ?_) AllReadyIn.nil
          refine stepIn_appL tUnderSls tInfoSl tNeSl rfl (.tmp 18) (.tmp 21) rfl (w.heap.size + 5) A' A3 ls.length c' c3 1 w3.heap.size ls y rfl rfl rfl ((ho.bel hb3'.out).alloc _) ((ho3.out.base hB5).alloc _) (Boxed.new w3 _ _).cell hlm (by simp; omega) ?_
          intro A5 c5 w5 ho5 hb5 hko5
          have hv5 : Boxed w5 (w.heap.size + 1) 30 _ := boxed_bel ((boxed_bel hv.out hb3'.out hv.out.lt).alloc _) hb5 (by omega)
          have hc5 := hv5.cell
          have hf5 := hv5.frozen
          refine hK _ _ ?_
          clear hK K
          try simp only [Act.put, List.setIfInBounds_toArray, List.set_cons_zero, List.set_cons_succ, List.getElem_toArray, List.getElem_cons_succ, List.getElem_cons_zero]
          refine wpAnyIn_ready (rs := [5]) (by kernel_rfl) (by simp) ?_
          refine AllReadyIn.cons rfl (fun K hK => ?_) AllReadyIn.nil
          go_simp
          refine hK _ _ ?_
          clear hK K
          try simp only [Act.put, List.setIfInBounds_toArray, List.set_cons_zero, List.set_cons_succ, List.getElem_toArray, List.getElem_cons_succ, List.getElem_cons_zero]
          refine wpAnyIn_done (by kernel_rfl) ?_ _
          gi_wp2
          have F := FIN.out A3 c3 w3 hb3'.out A5 c5 w5 ho5 hb5 hko5 hv5
          rw [show (ls ++ [y]).length = ls.length + 1 by simp] at F
          exact F
        refine AllReadyIn.cons rfl (fun K hK => ?_) AllReadyIn.nil
        go_simp
        refine ⟨trivial, CallsIn.inRound l (callsIn_wide.2 ((Clone_any A2 y.length c2 y W.drew hRW.out rfl (by omega)).mono ?_))⟩
        rintro e w3 ⟨A3, c3, rfl, ho3, hb3⟩
        have hb3' : Hid (Below W.heap.size W w3) := undrew hb3
        have hc3 := (hb3'.out.cell (p := ⟨w.heap.size + 1, 0, none⟩) (World.block_lt_of_cell? _ _ hcv)).trans hcv
        have hs3 : W.heap.size ≤ w3.heap.size := hb3'.out.size
        replace ho3 := hid ho3
        clear hb3
        simp only []
        refine hK _ _ ?_
        clear hK K
        try simp only [Act.put, List.setIfInBounds_toArray, List.set_cons_zero, List.set_cons_succ, List.getElem_toArray, List.getElem_cons_succ, List.getElem_cons_zero]
        refine wpAnyIn_ready (rs := [0, 3]) (by kernel_rfl) (by simp) ?_
        refine AllReadyIn.cons rfl (fun K hK => ?_) ?_
        · skip
          go_simp
          refine hK _ _ ?_
          clear hK K
          try simp only [Act.put, List.setIfInBounds_toArray, List.set_cons_zero, List.set_cons_succ, List.getElem_toArray, List.getElem_cons_succ, List.getElem_cons_zero]
          refine wpAnyIn_ready (rs := [3]) (by kernel_rfl) (by simp) ?_
          refine AllReadyIn.cons rfl (fun K hK => ?_) AllReadyIn.nil
          go_simp
          refine hK _ _ ?_
          clear hK K
          try simp only [Act.put, List.setIfInBounds_toArray, List.set_cons_zero, List.set_cons_succ, List.getElem_toArray, List.getElem_cons_succ, List.getElem_cons_zero]
          refine wpAnyIn_ready (rs := [4]) (by kernel_rfl) (by simp) ?_
          refine AllReadyIn.cons rfl (fun K hK => ?_) AllReadyIn.nil
          refine stepIn_appL tUnderSls tInfoSl tNeSl rfl (.tmp 18) (.tmp 21) rfl (w.heap.size + 5) A' A3 ls.length c' c3 1 w3.heap.size ls y rfl rfl rfl ((ho.bel hb3'.out).alloc _) ((ho3.out.base hB5).alloc _) (Boxed.new w3 _ _).cell hlm (by simp; omega) ?_
          intro A5 c5 w5 ho5 hb5 hko5
          have hv5 : Boxed w5 (w.heap.size + 1) 30 _ := boxed_bel ((boxed_bel hv.out hb3'.out hv.out.lt).alloc _) hb5 (by omega)
          have hc5 := hv5.cell
          have hf5 := hv5.frozen
          refine hK _ _ ?_
          clear hK K
          try simp only [Act.put, List.setIfInBounds_toArray, List.set_cons_zero, List.set_cons_succ, List.getElem_toArray, List.getElem_cons_succ, List.getElem_cons_zero]
          refine wpAnyIn_ready (rs := [5]) (by kernel_rfl) (by simp) ?_
          refine AllReadyIn.cons rfl (fun K hK => ?_) AllReadyIn.nil
          go_simp
          refine hK _ _ ?_
          clear hK K
          try simp only [Act.put, List.setIfInBounds_toArray, List.set_cons_zero, List.set_cons_succ, List.getElem_toArray, List.getElem_cons_succ, List.getElem_cons_zero]
          refine wpAnyIn_done (by kernel_rfl) ?_ _
          gi_wp2
          have F := FIN.out A3 c3 w3 hb3'.out A5 c5 w5 ho5 hb5 hko5 hv5
          rw [show (ls ++ [y]).length = ls.length + 1 by simp] at F
          exact F
        refine AllReadyIn.cons rfl (fun K hK => ?_) AllReadyIn.nil
        go_simp
        refine hK _ _ ?_
        clear hK K
        try simp only [Act.put, List.setIfInBounds_toArray, List.set_cons_zero, List.set_cons_succ, List.getElem_toArray, List.getElem_cons_succ, List.getElem_cons_zero]
        refine wpAnyIn_ready (rs := [0]) (by kernel_rfl) (by simp) ?_
        refine AllReadyIn.cons rfl (fun K hK => ?_) AllReadyIn.nil
        have hc4 : (w3.alloc (.cells #[.slice A3 y.length c3] 24)).cell? ⟨w.heap.size + 1, 0, none⟩ = some (.slice A' ls.length c') := (World.cell?_alloc_lt _ _ _ (World.block_lt_of_cell? _ _ hc3)).trans hc3
        go_simp
        refine hK _ _ ?_
        clear hK K
        try simp only [Act.put, List.setIfInBounds_toArray, List.set_cons_zero, List.set_cons_succ, List.getElem_toArray, List.getElem_cons_succ, List.getElem_cons_zero]
        refine wpAnyIn_ready (rs := [4]) (by kernel_rfl) (by simp) ?_
        refine AllReadyIn.cons rfl (fun K hK => ?_) AllReadyIn.nil
        refine stepIn_appL tUnderSls tInfoSl tNeSl rfl (.tmp 18) (.tmp 21) rfl (w.heap.size + 5) A' A3 ls.length c' c3 1 w3.heap.size ls y rfl rfl rfl ((ho.bel hb3'.out).alloc _) ((ho3.out.base hB5).alloc _) (Boxed.new w3 _ _).cell hlm (by simp; omega) ?_
        intro A5 c5 w5 ho5 hb5 hko5
        have hv5 : Boxed w5 (w.heap.size + 1) 30 _ := boxed_bel ((boxed_bel hv.out hb3'.out hv.out.lt).alloc _) hb5 (by omega)
        have hc5 := hv5.cell
        have hf5 := hv5.frozen
        refine hK _ _ ?_
        clear hK K
        try simp only [Act.put, List.setIfInBounds_toArray, List.set_cons_zero, List.set_cons_succ, List.getElem_toArray, List.getElem_cons_succ, List.getElem_cons_zero]
        refine wpAnyIn_ready (rs := [5]) (by kernel_rfl) (by simp) ?_
        refine AllReadyIn.cons rfl (fun K hK => ?_) AllReadyIn.nil
        go_simp
        refine hK _ _ ?_
        clear hK K
        try simp only [Act.put, List.setIfInBounds_toArray, List.set_cons_zero, List.set_cons_succ, List.getElem_toArray, List.getElem_cons_succ, List.getElem_cons_zero]
        refine wpAnyIn_done (by kernel_rfl) ?_ _
        gi_wp2
        have F := FIN.out A3 c3 w3 hb3'.out A5 c5 w5 ho5 hb5 hko5 hv5
        rw [show (ls ++ [y]).length = ls.length + 1 by simp] at F
        exact F
      · gi_wp2
        refine ⟨(((KeepsOthers.setCell _ _ _).trans (KeepsOthers.setCell _ _ _)).trans (KeepsOthers.setCell _ _ _)).from _, rfl, pre, _, rfl, hz, ?_, ?_, ?_, ?_⟩
        · exact ((hk.set (.int .u8 0)).other (by omega) _).other (by omega) _
        · exact ((hv.other (by omega) _).set (.slice none 0 0)).other (by omega) _
        · exact ((he.other (by omega) _).other (by omega) _).set (.int .i64 e)
        · exact ((hB.setCell (p := ⟨w.heap.size, 0, none⟩) (Nat.le_refl _) _).setCell (p := ⟨w.heap.size + 1, 0, none⟩) (by simp) _).setCell (p := ⟨w.heap.size + 1 + 1, 0, none⟩) (by show _ ≤ w.heap.size + 1 + 1; omega) _
    case done =>
      rintro D ys W hD hS ⟨he0, ⟨A', c', hv, ho⟩, hk, he, hB, hB5⟩ hK
      have hall : rE r = 0 ∧ (ys.map fun x => x.1.l) = rL r := by
        rcases hS with ⟨h1, h2, _⟩ | ⟨x, hx, hne⟩
        · exact ⟨h1, by rw [← h2, List.map_map]; rfl⟩
        · obtain ⟨y, hy, rfl⟩ := List.mem_map.1 hx
          exact absurd (he0 y hy) hne
      rw [hall.2] at hv ho
      have hcv := hv.cell
      have hfv := hv.frozen
      have hck := hk.cell
      have hfk := hk.frozen
      have hce := he.cell
      have hfe := he.frozen
      have hb0 := (hB.cell (p := ⟨bb, o, none⟩) (World.block_lt_of_cell? _ _ hb0c)).trans hb0c
      have hmx : Tryd.prog.follows .mixedOrders = true := by kernel_rfl
      generalize hq : rL r = ls at *
      generalize hk0 : b.getD 0 0 = k0 at *
      unfold bv at hb0
      have hall := hid hall
      replace hv := hid hv
      gi_wp2
      gi_region
      all_goals gi_wp2
      have X1 := (((hk.set (.int .u8 (k0.toNat : Int))).other (B' := w.heap.size + 1) (by omega) (.slice A' ls.length c')).other (B' := w.heap.size + 1 + 1) (by omega) (.int .i64 0))
      have X2 := (((hv.out.other (B' := w.heap.size) (by omega) (.int .u8 (k0.toNat : Int))).set (.slice A' ls.length c')).other (B' := w.heap.size + 1 + 1) (by omega) (.int .i64 0))
      have X3 := (((he.other (B' := w.heap.size) (by omega) (.int .u8 (k0.toNat : Int))).other (B' := w.heap.size + 1) (by omega) (.slice A' ls.length c')).set (.int .i64 0))
      have X4 : Below w.heap.size w (((W.setCell ⟨w.heap.size, 0, none⟩ (.int .u8 (k0.toNat : Int))).setCell ⟨w.heap.size + 1, 0, none⟩ (.slice A' ls.length c')).setCell ⟨w.heap.size + 1 + 1, 0, none⟩ (.int .i64 0)).drew :=
        (((hB.setCell (p := ⟨w.heap.size, 0, none⟩) (Nat.le_refl _) _).setCell (p := ⟨w.heap.size + 1, 0, none⟩) (by simp) _).setCell (p := ⟨w.heap.size + 1 + 1, 0, none⟩) (by show _ ≤ w.heap.size + 1 + 1; omega) _).drew
      have X5 : OwnL 24 5 (((W.setCell ⟨w.heap.size, 0, none⟩ (.int .u8 (k0.toNat : Int))).setCell ⟨w.heap.size + 1, 0, none⟩ (.slice A' ls.length c')).setCell ⟨w.heap.size + 1 + 1, 0, none⟩ (.int .i64 0)).drew (w.heap.size + 5) A' c' ls :=
        ownL_set (ownL_set (ownL_set ho (by omega) _) (by omega) _) (by omega) _
      have X6 : (((W.setCell ⟨w.heap.size, 0, none⟩ (.int .u8 (k0.toNat : Int))).setCell ⟨w.heap.size + 1, 0, none⟩ (.slice A' ls.length c')).setCell ⟨w.heap.size + 1 + 1, 0, none⟩ (.int .i64 0)).drew.heap[D]? = some (.deferred (some [])) :=
        (Below.heap_setCell _ _ _ _ (by show D ≠ w.heap.size + 1 + 1; omega)).trans ((Below.heap_setCell _ _ _ _ (by show D ≠ w.heap.size + 1; omega)).trans ((Below.heap_setCell _ _ _ _ (by show D ≠ w.heap.size; omega)).trans hK))
      generalize (((W.setCell ⟨w.heap.size, 0, none⟩ (.int .u8 (k0.toNat : Int))).setCell ⟨w.heap.size + 1, 0, none⟩ (.slice A' ls.length c')).setCell ⟨w.heap.size + 1 + 1, 0, none⟩ (.int .i64 0)) = X at *
      replace X1 : Boxed X.drew _ _ _ := X1
      replace X2 : Boxed X.drew _ _ _ := X2
      replace X3 : Boxed X.drew _ _ _ := X3
      generalize X.drew = Y at *
      have hD2 := fun (r : Nat) (e : some D = some r) => (⟨_, by cases e; exact X6, rfl⟩ : ∃ o : Obj, Y.heap[r]? = some o ∧ o.isCells = false)
      refine ⟨by simp, .inl ⟨_, _, rfl, run_takeDeferred X6, ?_⟩⟩
      refine ⟨_, res3 (X1.kept (grownBy_putObj' Y D _) (apart_cells X1 hD2)) (X2.kept (grownBy_putObj' Y D _) (apart_cells X2 hD2)) (X3.kept (grownBy_putObj' Y D _) (apart_cells X3 hD2)) rfl rfl rfl, A', c', ?_, ?_, X4.trans (belowK_b (w := w) (Nat.le_refl _) Y D _ _ (by omega) X6 rfl rfl)⟩
      · rw [hLb.out, hKb.out, hEb.out, hall.out.1, if_pos rfl, if_pos rfl]
      · rw [hLb.out, hall.out.1, if_pos rfl]
        exact ownL_base (ownL_other X5 (grownBy_putObj' Y D _) hD2) (by omega)
    case stop =>
      rintro D cd pre W hD hS ⟨rfl, q, x, hp, hxe, hk, hv, he, hB⟩ hK
      have hcol : rE r = x.1.e := by
        obtain ⟨q', x', hp', hx'⟩ := hS
        rw [hp, List.map_append] at hp'
        have h2 : x.1 = x' := (List.append_inj' hp' rfl).2 |> fun h => by simpa using h
        rcases hx' with h | ⟨h, _⟩
        · rw [← h2] at h; exact absurd h hxe
        · rw [← h2] at h; exact h.symm
      have hD2 := fun (r : Nat) (e : some D = some r) => (⟨_, by cases e; exact hK, rfl⟩ : ∃ o : Obj, W.heap[r]? = some o ∧ o.isCells = false)
      gi_wp2
      refine ⟨by simp, .inl ⟨_, _, rfl, run_takeDeferred hK, ?_⟩⟩
      refine ⟨_, res3 (hk.kept (grownBy_putObj' W D _) (apart_cells hk hD2)) (hv.kept (grownBy_putObj' W D _) (apart_cells hv hD2)) (he.kept (grownBy_putObj' W D _) (apart_cells he hD2)) rfl rfl rfl, none, 0, ?_, ?_, hB.trans (belowK_b (w := w) (Nat.le_refl _) W D _ _ (by omega) hK rfl rfl)⟩
      · rw [hLb.out, hKb.out, hEb.out, hcol, if_neg hxe, if_neg hxe]; rfl
      · rw [hLb.out, hcol, if_neg hxe]; exact OwnL.nil _ _
end Go.Proofs.YtnoglodggchgpabDoor
