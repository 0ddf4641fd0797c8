/-
  Contracts of the landed package acct: each, the iterator over a tree's accounts.
-/
import Derived.Test.YtcifncmfjlbhjaaDoorAcQ
import Derived.Test.YtcifncmfjlbhjaaDoorAcR
import Derived.Test.YtcifncmfjlbhjaaDoorTreeMb
namespace Go.Proofs.YtcifncmfjlbhjaaDoor
open Go.RowKit Go.Shelf
set_option linter.unusedVariables false
set_option linter.unusedSimpArgs false
set_option maxRecDepth 100000
attribute [local go_sem] Oper.semAt_some

section
variable {F : Fence} {n : Nat} {P : Program}
/-- A struct loaded out of a row, inside a fence. -/
theorem wpListIn_load_rng {ops : Array Oper} {rest : List Oper} {o : Oper} {a : Act} {w : World} {Q : Exit → Act → World → Prop} (hg0 : o.guard = none) (ty : TypeId) (x : Operand) (ho : o.op = .load ty x)
    (b i : Nat) (hx : a.eval x = .pointer (some ⟨b, i, none⟩)) (cs : List Value) (d : TypeDesc) (hS : w.rangeAt b i cs) (hu : P.underlying ty = some d) (hd : d.isRow = true) (hi : (P.info? ty).map (·.size) = some cs.length)
    (h : wpListIn F n P ops Q rest (a.put o.dst (.agg cs.toArray)) w) : wpListIn F n P ops Q (o :: rest) a w := by
  refine wpListIn_plain hg0 fun K hK => ?_
  refine wpIn_of_run (w' := w) (v := .agg cs.toArray) (by rw [ho]; intro c hc; cases hc) (by simp [Oper.about, ho]) ?_ (hK _ _ h)
  simp only [execOp, ho, hx, Instr.loadAt, Instr.sureAddr, Sem.run_bind, Sem.run_pure, Result.andThen_ok, run_loadVar_mid w b i ty cs d hS hu hd hi]
theorem wpListIn_built {ops : Array Oper} {rest : List Oper} {o : Oper} {a : Act} {w : World} {Q : Exit → Act → World → Prop} (hg0 : o.guard = none) (t : TypeId) (parts : Array (Nat × Operand)) (ho : o.op = .build t parts)
    (cells : Array Value) (vs : List (Nat × Value)) (h : P.built t vs = some cells) (hv : parts.toList.map (fun (i, x) => (i, a.eval x)) = vs) (hQ : wpListIn F n P ops Q rest (a.put o.dst (.agg cells)) w) : wpListIn F n P ops Q (o :: rest) a w := by
  refine wpListIn_plain hg0 fun K hK => ?_
  have h' : P.built t (parts.map fun (i, x) => (i, a.eval x)).toList = some cells := by rw [Array.toList_map, hv]; exact h
  refine wpIn_of_run (w' := w) (v := .agg cells) (by rw [ho]; intro c hc; cases hc) (by simp [Oper.about, ho]) ?_ (hK _ _ hQ)
  unfold execOp
  simp only [ho, Sem.run_bind, run_build w t _ cells h', Result.andThen_ok, Sem.run_pure]
end
theorem OwnR.rowS {α : Type} [Enc α] {E : TypeId} {w : World} {B : Nat} {A : Option Addr} {c : Nat} {xs : List α} (h : OwnR E w B A c xs) : Row (fun b => B ≤ b ∧ Soft w b) w A xs := by
  obtain ⟨F, h1, h2⟩ := h
  refine h1.row.mono ?_
  rintro b (hb | ⟨a, ha, rfl⟩) _
  · exact h2 b hb
  · obtain ⟨cur, e, hc⟩ := h1.form a ha
    exact ⟨(h1.blk a ha).1, cur, E, hc⟩
/-- What a round keeps: all that lay ahead of the call, and every row but those that the round writes. -/
def KeepA (n₀ : Nat) (Z : Nat → Prop) (W W' : World) : Prop := Below n₀ W W' ∧ ∀ (b : Nat) (cs : Array Value) (t : TypeId) (fr : Nat × Nat), W.heap[b]? = some (.cells cs t fr) → ¬ Z b → W'.heap[b]? = W.heap[b]?
theorem KeepA.refl (n₀ : Nat) (Z : Nat → Prop) (W : World) : KeepA n₀ Z W W := ⟨Below.refl _ _, fun _ _ _ _ _ _ => rfl⟩
theorem KeepA.trans {n₀ : Nat} {Z : Nat → Prop} {A B C : World} (h : KeepA n₀ Z A B) (k : KeepA n₀ Z B C) : KeepA n₀ Z A C :=
  ⟨h.1.trans k.1, fun b cs t fr hb ht => (k.2 b cs t fr ((h.2 b cs t fr hb ht).trans hb) ht).trans (h.2 b cs t fr hb ht)⟩
theorem KeepA.bel {n₀ : Nat} {Z : Nat → Prop} {W W' : World} (hb : Below W.heap.size W W') (hn : n₀ ≤ W.heap.size) : KeepA n₀ Z W W' :=
  ⟨hb.mono hn, fun b cs t fr h _ => hb.block b (Array.getElem?_eq_some_iff.1 h).1⟩
theorem keepA_b {n₀ : Nat} {Z : Nat → Prop} {w : World} (hn : n₀ ≤ w.heap.size) (W : World) (l : Nat) (o o' : Obj) (hl : w.heap.size ≤ l) (h : W.heap[l]? = some o) (hc : o.isCells = false) (hk : o.isWalk = false) : KeepA n₀ Z W (W.putObj l o') :=
  ⟨belowK_b hn W l o o' hl h hc hk, fun b cs t fr hb _ => World.putObj_heap_other (fun e => by subst e; rw [hb] at h; injection h with h; subst h; cases hc)⟩
theorem row_keepA {α : Type} [Enc α] {w w' : World} {n₀ B : Nat} {Z : Nat → Prop} {A : Option Addr} {xs : List α} (h : Row (fun b => B ≤ b ∧ Soft w b) w A xs) (hk : KeepA n₀ Z w w') (hZ : ∀ b, Z b → b < B) : Row (fun b => B ≤ b ∧ Soft w b) w' A xs :=
  h.kept (fun b hb _ => by
    obtain ⟨h1, cs, t, hc⟩ := hb
    exact hk.2 b cs t _ hc fun hz => by have := hZ b hz; omega) hk.1.size

/-- The value that is ranged over: it holds the tree's box. -/
theorem each_acct (A : Option Addr) (n c : Nat) (root : Int) (w : World) :
    Calls Tryd.prog 26 #[.agg #[.slice A n c, .int .i64 root]] w fun e w' => e = .returned (.func (.func 45) #[] #[.pointer (some ⟨w.heap.size, 0, none⟩)]) ∧ w' = w.alloc (.cells #[.slice A n c, .int .i64 root] 31) := by
  go_enter Tryd.func26, Tryd.ntmps26
  go_wp2
  go_ret
  exact ⟨rfl, rfl⟩
/-- What is yielded. -/
def encA (x : Ac × Int) : Array Value := #[.agg (acC x.1).toArray, .int .i64 x.2]
def mapA (ps : List Pr) : List (Ac × Int) := ps.map fun p => (acOf p.v, 0)
theorem mapA_succ {ps : List Pr} {j : Nat} (h : j < ps.length) : mapA (ps.take (j + 1)) = mapA (ps.take j) ++ [(acOf ps[j].v, 0)] := by
  unfold mapA
  rw [List.take_succ_eq_append_getElem h, List.map_append]
  rfl
theorem mapA_pre {ps : List Pr} (j : Nat) (hh : heldP (ps.take j) = true) : ∃ r, itA ps = mapA (ps.take j) ++ r := by
  induction ps generalizing j with
  | nil => exact ⟨[], by simp [itA, mapA]⟩
  | cons p ps ih =>
    cases j with
    | zero => exact ⟨_, rfl⟩
    | succ j =>
      rw [List.take_succ_cons] at hh
      obtain ⟨r, hr⟩ := ih j (held_iff.2 fun q hq => held_iff.1 hh q (List.mem_cons_of_mem _ hq))
      refine ⟨r, ?_⟩
      unfold itA
      rw [if_pos (held_iff.1 hh p (List.mem_cons_self ..)), hr]
      rfl
theorem pairs_len {t : Tr} (hc : t.ns.length ≤ 1000000) : (pairsM t).length ≤ 1000000 := by
  unfold pairsM
  split
  · rename_i h; exact all_len h hc
  · simp
theorem pairs_val {t : Tr} : ∀ p ∈ pairsM t, p.v.length ≤ 100000 := fun p hp => by
  unfold pairsM at hp
  split at hp
  · rename_i h
    have := (all_spec h).2.1 p hp
    unfold valB at this
    have := of_decide_eq_true this
    omega
  · cases hp
set_option maxHeartbeats 4000000 in
theorem each1_in (n : Nat) (hn : 1 ≤ n) (p n₀ lp : Nat) (Z : Nat → Prop) (F : Nat → Prop) (A : Option Addr) (c : Nat) (ns : List Nd) (root : Int) (w0 W : World) (hn0 : n₀ = w0.heap.size) (hw0 : Below n₀ w0 W) (hr : Row F w0 A ns) (hc : ns.length ≤ 1000000)
    (hp : W.heap[p]? = some (.cells #[.slice A ns.length c, .int .i64 root] 31 (0, 0))) (hZ : ∀ b, Z b → b < W.heap.size)
    (J Jx : List (Ac × Int) → World → Prop) (hJ : AbidesFrom W.heap.size J)
    (hY : ∀ pre x W1, J pre W1 → pre.length < 1000001 → YieldAt Fence.wide (n - 1) Tryd.prog lp (encA x) W1 fun e W' =>
      (e = .returned (.bool true) ∧ J (pre ++ [x]) W' ∧ KeepA n₀ Z W1 W') ∨ (e = .returned (.bool false) ∧ Jx (pre ++ [x]) W'))
    (h0 : J [] W) :
    CallsIn Fence.wide n Tryd.prog 45 #[.func (.yield lp) #[] #[], .pointer (some ⟨p, 0, none⟩)] W fun e W' => (∃ v, e = .returned v) ∧
      ((∃ xs, xs = seqA ⟨ns, root⟩ ∧ J xs W') ∨ (∃ pre, (∃ r, seqA ⟨ns, root⟩ = pre ++ r) ∧ Jx pre W')) := by
  have hnW : n₀ ≤ W.heap.size := by rw [hn0]; exact hw0.size
  have hut := Tryd.underlying31
  have hua := Tryd.underlying24
  have hup := Tryd.underlying90
  have hb0 := hid built_ac0
  have hpl := pairs_len (t := ⟨ns, root⟩) hc
  have hpv := pairs_val (t := ⟨ns, root⟩)
  obtain ⟨m, hm⟩ : ∃ m, mayT ⟨ns, root⟩ = m := ⟨_, rfl⟩
  have hPr := hid (fun W' (h : Below W.heap.size W W') => PTPairs_any F A c ns root W' (hr.bel (hn0 ▸ hw0.trans (h.mono hnW))) hc)
  have hs : seqA ⟨ns, root⟩ = if m = true then itA (pairsM ⟨ns, root⟩) else [(ac0, 8)] := by
    unfold seqA pairsM
    rw [hm]
    cases m <;> rfl
  rw [hs]
  rw [hm] at hPr
  clear hs hr hw0 hm
  generalize pairsM ⟨ns, root⟩ = ps at *
  replace hY := hid hY
  refine callsIn_of_wp Tryd.func45 rfl trivial ?_ rfl
  simp only [Tryd.ntmps45, List.size_toArray, List.length_cons, List.length_nil, Nat.reduceAdd, Nat.reduceSub, Array.replicate_succ, Array.replicate_zero, List.push_toArray, List.append_toArray, List.nil_append, List.cons_append]
  gi_wp2_with (first
    | ((with_reducible refine wpListIn_load_row rfl 31 (.tmp 1) rfl p rfl 31 #[.slice A ns.length c, .int .i64 root] (0, 0) _ ?_ hut rfl ?_ ?_); exact hp; exact sizeTr))
  refine ⟨trivial, callsIn_wide.2 ((hPr.out W (Below.refl _ _)).mono ?_)⟩
  rintro e W1 ⟨A2, c2, rfl, o2, hb⟩
  cases m with
  | false =>
    simp only [Bool.false_eq_true, if_false] at *
    obtain ⟨fn, tmps, assign, body, hy, hR⟩ := hY.out [] (ac0, 8) W1 (hJ _ W W1 none h0 (grown_of_below hb) (by intro r e; cases e)) (by simp)
    dsimp only [encA] at hy
    gi_wp2_with (first
      | ((with_reducible refine wpListIn_built rfl 24 _ rfl (acC ac0).toArray [] ?_ ?_ ?_); exact hb0.out; rfl))
    refine hR.mono ?_
    rintro e W3 (⟨rfl, hJ3, hk3⟩ | ⟨rfl, hJx3⟩)
    · gi_wp2
      refine bodyPost_ret (results_none rfl _ _ _) rfl ?_
      first | exact ⟨⟨_, rfl⟩, .inl hJ3⟩ | exact ⟨⟨_, rfl⟩, .inl ⟨_, rfl, hJ3⟩⟩
    · gi_wp2
      refine bodyPost_ret (results_none rfl _ _ _) rfl ?_
      exact ⟨⟨_, rfl⟩, .inr ⟨_, ⟨[], rfl⟩, hJx3⟩⟩
  | true =>
    simp only [if_true] at *
    have hJ1 := hJ _ W W1 none h0 (grown_of_below hb) (by intro r e; cases e)
    have R1 := hid (OwnR.rowS o2)
    have K1 : KeepA n₀ Z W W1 := KeepA.bel hb hnW
    have s1 := hb.size
    clear o2
    gi_wp2
    gi_loopw [21] (fun i wr => ∃ j : Nat, i = .int .i64 (j : Int) ∧ j ≤ ps.length ∧ heldP (ps.take j) = true ∧ J (mapA (ps.take j)) wr ∧ KeepA n₀ Z W1 wr) (fun i _ => ps.length - (intOf i).toNat)
    case atStart => exact ⟨0, rfl, by omega, rfl, hJ1, KeepA.refl _ _ _⟩
    case round =>
      obtain ⟨j, rfl, hj0, hh, hj, hk⟩ := hrel
      by_cases hlt : j < ps.length
      · have hlt2 : (j : Int) < (ps.length : Int) := by omega
        have hR := row_keepA R1.out hk hZ
        obtain ⟨b, o, hA, -, A', c', hcell, r2, h1, h2, h3⟩ := row_pr hR hlt
        subst hA
        have hRd := hid h3.rd
        have hs2 := hid (sizePrP ps[j].k (.slice A' ps[j].v.length c'))
        have hvl := hpv _ (List.getElem_mem hlt)
        have hlen : Hid ((ps[j].k.1.map bv ++ [Value.slice A' ps[j].v.length c']).length = 33) := len_pr _ _
        have hone : Hid ((ps[j].k.1.map bv ++ [Value.slice A' ps[j].v.length c']).toArray.all (·.oneCell') = true) := all_oneCell_toArray (Enc.one (rep_pr_mk (F := fun b => W.heap.size ≤ b ∧ Soft W1 b) (w := wr) ps[j].k ps[j].v A' c' h1 h2 h3))
        have e0 := hid (heap_alloc_new wr (.cells zPrC 90))
        have hsn := hk.1.size
        have hsz : W1.heap.size ≤ wr.heap.size := hk.1.size
        have hRA := hid (fun w (h : Rd w A' ps[j].v) => PAcRead_any A' c' ps[j].v w h h1 h2 (by omega))
        have hst : acE ps[j].v ≠ 0 → itA ps = mapA (ps.take j) ++ [(ac0, 8)] := fun h => itA_stop hlt hh h
        have hgo := mapA_succ hlt
        have hpre : acE ps[j].v = 0 → ∃ r, itA ps = mapA (ps.take j) ++ [(acOf ps[j].v, 0)] ++ r := fun h => by
          obtain ⟨r, hr⟩ := mapA_pre (j + 1) (itA_take hlt hh h)
          exact ⟨r, by rw [hr, hgo]⟩
        have hh1 : acE ps[j].v = 0 → heldP (ps.take (j + 1)) = true := fun h => itA_take hlt hh h
        have hml : (mapA (ps.take j)).length < 1000001 := by unfold mapA; rw [List.length_map, List.length_take]; omega
        generalize ps[j].k = kq at *
        generalize ps[j].v = v at *
        generalize acE v = ev at *
        generalize acOf v = av at *
        have nb := hid (one_ac av)
        have ia := hid (show (Tryd.prog.info? 24).map (·.size) = some (acC av).length from sizeAc)
        replace hst := hid hst
        replace hgo := hid hgo
        replace hpre := hid hpre
        replace hh1 := hid hh1
        clear hcell h3 hR hh
        gi_wp2_with (first
          | ((with_reducible refine wpListIn_load_rng rfl 90 (.tmp 23) rfl b (o + j * 33) rfl (kq.1.map bv ++ [.slice A' v.length c']) _ ?_ hup rfl hs2.out ?_); exact r2)
          | (with_reducible refine wpListIn_alloc_row rfl 90 rfl zPrC zInfoPr ?_)
          | ((with_reducible refine wpListIn_store_row rfl 90 (.tmp 6) (.tmp 24) rfl wr.heap.size (kq.1.map bv ++ [Value.slice A' v.length c'] : List Value).toArray rfl ?_ 90 zPrC ?_ ?_ ?_ ?_ ?_); rfl; exact e0.out; exact hs2.out; exact zSizePr.trans hlen.out.symm; exact hone.out; intro w4 hg4 hb4 hs4; have hcell4 := (block_pr hg4).1))
        have B4 := below_var hb4
        clear hg4 hb4 r2 hone hlen hs2
        refine ⟨trivial, callsIn_wide.2 ((hRA.out w4 (hRd.out.bel B4)).mono ?_)⟩
        rintro e w5 ⟨rfl, hb5⟩
        have B5 := B4.trans (hb5.mono B4.size)
        have hj5 := hJ _ wr w5 none hj (grown_of_below B5) (by intro r e; cases e)
        have k5 := hk.trans (KeepA.bel B5 (Nat.le_trans (Nat.le_trans hnW s1) hsz))
        have e5 := hid (heap_alloc_new w5 (.cells (acC ac0).toArray 24))
        clear hb5 B4 hcell4 hj
        have s5 := B5.size
        by_cases hz : ev = 0
        · subst hz
          have y1 := hpre.out rfl
          have y2 := hh1.out rfl
          have Y5 := hid (fun w6 (hB : Below w5.heap.size w5 w6) => hY.out (mapA (ps.take j)) (av, 0) w6 (hJ _ w5 w6 none hj5 (grown_of_below hB) (by intro r e; cases e)) hml)
          have K6 := hid (fun w6 (hB : Below w5.heap.size w5 w6) => k5.trans (KeepA.bel (Z := Z) hB (Nat.le_trans (Nat.le_trans (Nat.le_trans hnW s1) hsz) s5)))
          replace y1 := hid y1
          replace y2 := hid y2
          clear hst hpre hh1 hj5 k5
          gi_wp2_with (first
            | (with_reducible refine wpListIn_alloc_row rfl 24 rfl (acC ac0).toArray zInfoAc ?_)
            | ((with_reducible refine wpListIn_store_row rfl 24 (.tmp 7) (.tmp 29) rfl w5.heap.size _ rfl rfl 24 (acC ac0).toArray ?_ ?_ ?_ ?_ ?_); exact e5.out; exact sizeAc; rfl; exact nb.out; intro w6 hgS hbS hsS; have X6 := hid (xnewP rfl hbS); have q6 := hid (rangeOf (l := acC av) hgS); obtain ⟨fn, tmps, assign, body, hy, hR⟩ := Y5.out w6 X6.out; dsimp only [encA] at hy; clear hgS hbS hsS)
            | ((with_reducible refine wpListIn_load_rng rfl 24 (.tmp 7) rfl w5.heap.size 0 rfl (acC av) _ ?_ hua rfl ia.out ?_); exact q6.out))
          refine hR.mono ?_
          rintro e W3 (⟨rfl, hJ3, hk3⟩ | ⟨rfl, hJx3⟩)
          · gi_wp2
            go_roundw
            case rel => exact ⟨j + 1, by go_num, by omega, y2.out, by rw [hgo.out]; exact hJ3, (K6.out _ X6.out).trans hk3⟩
            case measure => simp [intOf]; omega
          · gi_wp2
            refine bodyPost_ret (results_none rfl _ _ _) rfl ?_
            exact ⟨⟨_, rfl⟩, .inr ⟨_, y1.out, hJx3⟩⟩
        · have y1 := hst.out hz
          have Y5 := hid (fun w6 (hB : Below w5.heap.size w5 w6) => hY.out (mapA (ps.take j)) (ac0, 8) w6 (hJ _ w5 w6 none hj5 (grown_of_below hB) (by intro r e; cases e)) hml)
          have hzb : (ev != 0) = true := by rw [bne_iff_ne]; exact hz
          replace y1 := hid y1
          clear hst hpre hh1 hj5 k5 hz
          gi_wp2_with (first
            | (with_reducible refine wpListIn_alloc_row rfl 24 rfl (acC ac0).toArray zInfoAc ?_)
            | ((with_reducible refine wpListIn_built rfl 24 _ rfl (acC ac0).toArray [] ?_ ?_ ?_); exact hb0.out; rfl)
            | ((with_reducible refine wpListIn_store_row rfl 24 (.tmp 7) (.tmp 29) rfl w5.heap.size _ rfl rfl 24 (acC ac0).toArray ?_ ?_ ?_ ?_ ?_); exact e5.out; exact sizeAc; rfl; exact nb.out; intro w6 hgS hbS hsS; have X6 := hid (xnewP rfl hbS); obtain ⟨fn, tmps, assign, body, hy, hR⟩ := Y5.out w6 X6.out; dsimp only [encA] at hy; clear hgS hbS hsS))
          refine hR.mono ?_
          rintro e W3 (⟨rfl, hJ3, hk3⟩ | ⟨rfl, hJx3⟩)
          · gi_wp2
            refine bodyPost_ret (results_none rfl _ _ _) rfl ?_
            first | exact ⟨⟨_, rfl⟩, .inl ⟨_, rfl, by rw [y1.out]; exact hJ3⟩⟩ | exact ⟨⟨_, rfl⟩, .inl (by rw [y1.out]; exact hJ3)⟩
          · gi_wp2
            refine bodyPost_ret (results_none rfl _ _ _) rfl ?_
            exact ⟨⟨_, rfl⟩, .inr ⟨_, ⟨[], by rw [y1.out, List.append_nil]⟩, hJx3⟩⟩
      · obtain rfl : j = ps.length := by omega
        rw [List.take_length] at hj hh
        have hit : itA ps = mapA ps := itA_good hh
        gi_wp2
        go_end0
        first | exact ⟨⟨_, rfl⟩, .inl hj⟩ | exact ⟨⟨_, rfl⟩, .inl (by rw [hit]; exact hj)⟩ | exact ⟨⟨_, rfl⟩, .inl ⟨_, rfl, by rw [hit]; exact hj⟩⟩
end Go.Proofs.YtcifncmfjlbhjaaDoor
