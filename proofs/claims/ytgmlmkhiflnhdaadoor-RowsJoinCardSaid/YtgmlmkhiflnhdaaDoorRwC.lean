/-
  Contracts of the landed package rows over the table sha.k: rootOf.
-/
import Derived.Test.YtgmlmkhiflnhdaaDoorRwB
import Derived.Test.YtgmlmkhiflnhdaaDoorOfOne
import Derived.Test.YtgmlmkhiflnhdaaDoorSls
import Derived.Test.YtgmlmkhiflnhdaaDoorStepT
namespace Go.Proofs.YtgmlmkhiflnhdaaDoor
open Go.RowKit Go.Shelf
set_option linter.unusedVariables false
set_option linter.unusedSimpArgs false
set_option maxRecDepth 100000
attribute [local go_sem] Oper.semAt_some

theorem sizeDgR (k : Dg) : (Tryd.prog.info? 29).map (·.size) = some (k.1.map bv).toArray.size := by rw [List.size_toArray, List.length_map, k.2]; exact size32
theorem zDgR (k : Dg) : z32.size = (k.1.map bv).toArray.size := by rw [z32_size]; simp [k.2]
theorem oneDgR (k : Dg) : (k.1.map bv).toArray.all (·.oneCell') = true := all_oneCell_toArray fun u hu => by
  obtain ⟨x, -, rfl⟩ := List.mem_map.1 hu
  rfl
/-- What the loop holds between two rounds. -/
def LoopR (w : World) (ls : List (List UInt8)) (o B0 : Nat) (pre : List (HItems w ls)) (W : World) : Prop :=
  (∃ A' c', Boxed W o 26 (.slice A' (pre.map fun x => (rootR x.1.ls).1).length c') ∧ OwnR 33 W B0 A' c' (pre.map fun x => (rootR x.1.ls).1)) ∧ Below w.heap.size w W ∧ B0 ≤ W.heap.size
theorem loopR_from (w : World) (ls : List (List UInt8)) (o B0 : Nat) (hB : w.heap.size ≤ B0) : OwnFrom B0 (LoopR w ls o B0) := by
  rintro pre X Y row ⟨⟨A', c', h2, h3⟩, h6, h7⟩ hg hr
  have hr2 := fun r e => (hr r e).2
  exact ⟨⟨A', c', h2.kept hg (apart_cells h2 hr2), ownQ_other h3 hg hr2⟩, h6.grown hg (h6.size) (fun k e => Nat.le_trans hB (hr k e).1), Nat.le_trans h7 hg.size⟩
/-- What a round writes. -/
def ZR (o B0 : Nat) (b : Nat) : Prop := b = o ∨ B0 ≤ b
/-- rootOf's contract at one list. -/
def RootAt (ls : List (List UInt8)) : Prop := ∀ (A : Option Addr) (c : Nat) (w : World), Rds w A ls → ls.length ≤ c → c ≤ maxLen → ls.length ≤ 256 → (∀ x ∈ ls, x.length ≤ 4096) → Tab w →
    Calls Tryd.prog 25 #[.slice A ls.length c] w fun e w' => e = .returned (.agg ((rootR ls).1.map bv).toArray) ∧ Below w.heap.size w w'
theorem root_none : RootAt [] := by
  intro A c w hr hc hm hl hx hT
  have hu := Tryd.underlying29
  have h0 := hid (heap_alloc_new w (.cells z32 29))
  have W0 := hid (ext_alloc w (.cells z32 29))
  have hN := TNone_any (w.alloc (.cells z32 29)) (hT.bel W0.out hT.low)
  obtain ⟨rd, hrd⟩ : ∃ d, rootR [] = d := ⟨_, rfl⟩
  rw [hrd]
  have e1 : sha256 [0] = rd.1 := by rw [← hrd]; rfl
  rw [e1] at hN
  replace hN := hid hN
  have js := hid (sizeDgR rd)
  have zs := hid (zDgR rd)
  have os := hid (oneDgR rd)
  clear hrd e1 hT
  generalize (rd.1.map bv) = dk at *
  go_enter Tryd.func25, Tryd.ntmps25
  go_wp2_with (first
    | (with_reducible refine wpList_alloc_row rfl 29 rfl z32 info32 ?_))
  refine hN.out.mono ?_
  rintro e w1 ⟨rfl, hb⟩
  have R1 := hid ((hb.block _ (block_lt h0.out)).trans h0.out)
  have W1 := hid (W0.out.trans (hb.mono W0.out.size))
  clear hb
  go_wp2_with (first
    | ((with_reducible refine wpList_store_row rfl 29 (.tmp 2) (.tmp 10) rfl w.heap.size _ rfl rfl 29 z32 ?_ ?_ ?_ ?_ ?_); exact R1.out; exact js.out; exact zs.out; exact os.out; intro w4 hg4 hb4 hs4))
  exact bodyPost_ret (v := .agg dk.toArray) (results_cell_row Tryd.results25 _ _ w.heap.size 29 _ (0, 0) _ rfl hg4 hu rfl js.out) rfl ⟨rfl, W1.out.grown hb4 W1.out.size (fun g e => by injection e with e; omega)⟩
set_option maxHeartbeats 2000000 in
theorem root_one (x : List UInt8) : RootAt [x] := by
  intro A c w hr hc hm hl hx hT
  have hu := Tryd.underlying29
  have h0 := hid (heap_alloc_new w (.cells z32 29))
  have W0 := hid (ext_alloc w (.cells z32 29))
  have hr0 := hr.bel W0.out
  obtain ⟨rd, hrd⟩ : ∃ d, rootR [x] = d := ⟨_, rfl⟩
  rw [hrd]
  obtain ⟨b, o, rfl, hcc⟩ := hr0 (by simp)
  obtain ⟨A', c', e, hra, hl1, hl2⟩ := hcc 0 x rfl
  rw [Nat.add_zero] at e
  have hN := of_one_any 7 A' c' x (w.alloc (.cells z32 29)) hra ⟨hl1, hl2⟩ (Nat.le_trans (hx x (List.mem_singleton.2 rfl)) (by decide)) (hT.bel W0.out hT.low)
  have e1 : sha256 (tagB 7 [x]) = rd.1 := by rw [← hrd]; rfl
  rw [e1, show (((7 : UInt8).toNat : Nat) : Int) = 7 from rfl, World.size_alloc] at hN
  have hlt := hid (show w.heap.size < w.heap.size + 1 from Nat.lt_succ_self _)
  replace hN := hid hN
  have js := hid (sizeDgR rd)
  have zs := hid (zDgR rd)
  have os := hid (oneDgR rd)
  have q0 : (([x].length : Int) == 0) = false := rfl
  clear hrd hr hr0 hcc e1 hx hra hT
  generalize (rd.1.map bv) = dk at *
  go_enter Tryd.func25, Tryd.ntmps25
  go_wp2_with (first
    | (with_reducible refine wpList_alloc_row rfl 29 rfl z32 info32 ?_))
  refine hN.out.mono ?_
  rintro e w1 ⟨rfl, hb⟩
  have R1 := hid ((hb.block _ hlt.out).trans h0.out)
  have W1 := hid (W0.out.trans (hb.mono (Nat.le_succ _)))
  clear hb
  go_wp2_with (first
    | ((with_reducible refine wpList_store_row rfl 29 (.tmp 2) (.tmp 17) rfl w.heap.size _ rfl rfl 29 z32 ?_ ?_ ?_ ?_ ?_); exact R1.out; exact js.out; exact zs.out; exact os.out; intro w4 hg4 hb4 hs4))
  exact bodyPost_ret (v := .agg dk.toArray) (results_cell_row Tryd.results25 _ _ w.heap.size 29 _ (0, 0) _ rfl hg4 hu rfl js.out) rfl ⟨rfl, W1.out.grown hb4 W1.out.size (fun g e => by injection e with e; omega)⟩
theorem rep_sl {F : Nat → Prop} {w : World} {d : Nat} {l : List UInt8} (hl : l.length = 32) (h : Rd w (some ⟨d, 0, none⟩) l) (hF : F d) : Enc.rep F w l [.slice (some ⟨d, 0, none⟩) 32 32] :=
  ⟨some ⟨d, 0, none⟩, 32, by rw [hl], by rw [hl]; exact Nat.le_refl _, by decide, h.row fun a ha _ => by injection ha with ha; subst ha; exact hF⟩
theorem fork_lenR (a b : Dg) : (tagB 8 [a.1, b.1]).length ≤ 100000 := by simp [tagB, partB, be_length, a.2, b.2]
theorem roots_two {w : World} {ls : List (List UInt8)} {xs : List (HItems w ls)} {a b : List (List UInt8)} (h : xs.map (fun x => x.1.ls) = [a, b]) : xs.map (fun x => (rootR x.1.ls).1) = [(rootR a).1, (rootR b).1] := by
  have := congrArg (List.map fun l => (rootR l).1) h
  rw [List.map_map] at this
  exact this
set_option maxHeartbeats 4000000 in
theorem root_more (ls : List (List UInt8)) (h2 : 2 ≤ ls.length) (ih : ∀ ms : List (List UInt8), ms.length < ls.length → RootAt ms) : RootAt ls := by
  intro A c w hr hc hm hl hx hT
  have hu := Tryd.underlying29
  have hsl := run_all32P
  have b1 := heap_alloc_new w (.cells z32 29)
  have X1 := ext_alloc w (.cells z32 29)
  obtain ⟨rd, hrd⟩ : ∃ d, rootR ls = d := ⟨_, rfl⟩
  rw [hrd]
  have e1 : sha256 (tagB 8 [(rootR (ls.take (firstN ls.length))).1, (rootR (ls.drop (firstN ls.length))).1]) = rd.1 := by rw [← hrd, rootR_more h2]; rfl
  have q0 : ((ls.length : Int) == 0) = false := by rw [beq_eq_false_iff_ne]; omega
  have q1 : ((ls.length : Int) == 1) = false := by rw [beq_eq_false_iff_ne]; omega
  have js := hid (sizeDgR rd)
  have zs := hid (zDgR rd)
  have os := hid (oneDgR rd)
  have hlow := hT.low
  have hr1 := hr.bel X1
  have hT1 := hT.bel X1 hlow
  have hs1 : (w.alloc (.cells z32 29)).heap.size = w.heap.size + 1 := World.size_alloc _ _
  refine (callsIn_wide (n := 4)).1 ?_
  refine callsIn_of_wp_marks Tryd.func25 rfl trivial ?_ rfl
  simp only [Tryd.ntmps25, List.size_toArray, List.length_cons, List.length_nil, Nat.reduceAdd, Nat.reduceSub, Array.replicate_succ, Array.replicate_zero, List.push_toArray, List.append_toArray, List.nil_append, List.cons_append]
  gi_wp2_with (first
    | (with_reducible refine wpListIn_alloc_row rfl 29 rfl z32 info32 ?_))
  refine ⟨trivial, callsIn_wide.2 ((PRwHalves_any A ls.length c _).mono ?_)⟩
  generalize w.alloc (.cells z32 29) = w1 at *
  rintro e W0 ⟨rfl, hW0⟩
  have hs0 : W0.heap.size = w1.heap.size + 1 + 1 := by rw [hW0]; simp
  have bo : Boxed W0 w1.heap.size 26 (.slice none 0 0) := by rw [hW0]; exact (Boxed.new w1 26 (.slice none 0 0)).alloc _
  have bt : W0.heap[w1.heap.size + 1]? = some (.cells #[.slice A ls.length c] 26 (0, 0)) := by
    rw [hW0]
    have := heap_alloc_new (w1.alloc (.cells #[.slice none 0 0] 26)) (.cells #[.slice A ls.length c] 26)
    rw [World.size_alloc] at this
    exact this
  have Y0 : Below w1.heap.size w1 W0 := by rw [hW0]; exact (ext_alloc w1 _).alloc (by simp) _
  clear hW0
  simp only [World.size_alloc, hs1]
  rw [hs1] at bo bt hs0
  gi_wp2
  refine wpIn_rangeFunc_ownG (F := Fence.wide) rfl (by omega) (gf := 45) (lb := #[.pointer (some ⟨w.heap.size + 1 + 1, 0, none⟩)]) rfl trivial (enters_of Tryd.func45 (by kernel_rfl) rfl)
    (encs := fun x : HItems w1 ls => HItem.encs x.1) (Kp := KeepA w1.heap.size (ZR (w.heap.size + 1) W0.heap.size)) (S := fun xs => xs.map (fun x => x.1.ls) = [ls.take (firstN ls.length), ls.drop (firstN ls.length)]) (Sp := fun _ => True) (N := 2) (w0 := W0)
    (fun l J Jx W hW hJ hJx hY h0 => halves1_in 3 l w1.heap.size (w.heap.size + 1 + 1) (ZR (w.heap.size + 1) W0.heap.size) (by unfold ZR; omega) A c ls w1 W hr1 h2 hl hc hm ((hW.block _ (block_lt bt)).trans bt) J Jx
      (fun m pre x X hx hl => YieldAt.anyDepth rfl m (hY pre x X hx hl)) h0)
    (fun h k => h.trans k) (keepA_b Y0.size) (Below.refl _ _) (fun _ => rfl)
    (LoopR w1 ls (w.heap.size + 1) W0.heap.size) (fun _ _ _ => False) (loopR_from w1 ls _ _ Y0.size) (fun _ _ _ _ _ h _ _ => h)
    ⟨⟨none, 0, bo, OwnQ.nil _ _ _⟩, Y0, Nat.le_refl _⟩
    (fun x => { tmps := #[.slice A ls.length c, undef, .pointer (some ⟨w.heap.size, 0, none⟩), .pointer (some ⟨w.heap.size + 1, 0, none⟩), .slice x.1.A x.1.ls.length x.1.c, undef, .slice A ls.length c,
      .int .i64 (ls.length : Int), .bool false, .bool false, undef, .bool false, .bool false, undef, undef, undef, undef, undef, .slice A ls.length c, .func (.func 45) #[] #[.pointer (some ⟨w.heap.size + 1 + 1, 0, none⟩)], .slice x.1.A x.1.ls.length x.1.c, undef, undef, undef, undef, undef, undef, undef, undef], defers := [] }) ?assign ?body ?done ?stop
  case stop => exact fun D cd pre W hD hS h => h.elim
  case assign =>
    rintro l ⟨⟨A2, c2, y⟩, hx⟩ W K hK
    dsimp only [HItem.encs]
    gi_wp2
    exact hK
  case body =>
    rintro l pre ⟨⟨A2, c2, y⟩, ⟨hx1, hx2, hx3⟩, hx4, hx5⟩ W ⟨⟨A', c', hv, ho⟩, hB, hB0⟩ hlt
    simp only at hx1 hx2 hx3 hx4 hx5 ⊢
    have hR := hid (ih y hx4 A2 c2 W (hx1.bel hB) hx2 hx3 (by omega) (fun z hz => hx z (hx5 z hz)) (hT1.bel hB hT1.low))
    have hlm : (pre.map fun x => (rootR x.1.ls).1).length ≤ 2 := by rw [List.length_map]; omega
    have hfin : ∀ q : HGood w1 ⟨A2, c2, y⟩ ∧ y.length < ls.length ∧ ∀ z ∈ y, z ∈ ls, Hid ((pre ++ [⟨⟨A2, c2, y⟩, q⟩] : List (HItems w1 ls)).map (fun x => (rootR x.1.ls).1) = (pre.map fun x => (rootR x.1.ls).1) ++ [(rootR y).1]) := fun _ => hid (by rw [List.map_append]; rfl)
    generalize (pre.map fun x => (rootR x.1.ls).1) = ps at *
    have hsy := hid (sizeDgR (rootR y))
    have hzy := hid (zDgR (rootR y))
    have hoy := hid (oneDgR (rootR y))
    gi_wp2_with fail
    refine ⟨trivial, CallsIn.inRound l (callsIn_wide.2 (hR.out.mono ?_))⟩
    rintro e v2 ⟨rfl, hb2⟩
    have h3 := heap_alloc_new v2 (.cells z32 29)
    gi_wp2_with (first
      | (with_reducible refine wpListIn_alloc_row rfl 29 rfl z32 info32 ?_)
      | (refine wpListIn_store_row rfl 29 (.tmp 5) (.tmp 22) rfl v2.heap.size ((rootR y).1.map bv).toArray rfl rfl 29 z32 ?_ ?_ ?_ ?_ ?_; exact h3; exact hsy.out; exact hzy.out; exact hoy.out; intro w4 g4 hg4 hs4))
    have X4 : Below W.heap.size W w4 := hb2.trans ((xnewP rfl hg4).mono hb2.size)
    have hcv := hv.cell
    have hfv := hv.frozen
    have FIN : ∀ (w6 : World) (X6 : Below W.heap.size W w6) (A7 : Option Addr) (c7 : Nat) (w7 : World) (ho7 : OwnR 33 w7 W0.heap.size A7 c7 (ps ++ [(rootR y).1])) (hb7 : Below W0.heap.size w6 w7) (hg7 : w6.grownBy w7 (A'.map (·.block)))
        (hv7 : Boxed w7 (w.heap.size + 1) 26 (.slice A' ps.length c')),
        KeepsFrom W0.heap.size W (w7.setCell ⟨w.heap.size + 1, 0, none⟩ (.slice A7 (ps ++ [(rootR y).1]).length c7)) ∧ KeepA w1.heap.size (ZR (w.heap.size + 1) W0.heap.size) W (w7.setCell ⟨w.heap.size + 1, 0, none⟩ (.slice A7 (ps ++ [(rootR y).1]).length c7)) ∧
          LoopR w1 ls (w.heap.size + 1) W0.heap.size (pre ++ [⟨⟨A2, c2, y⟩, ⟨hx1, hx2, hx3⟩, hx4, hx5⟩]) (w7.setCell ⟨w.heap.size + 1, 0, none⟩ (.slice A7 (ps ++ [(rootR y).1]).length c7)) := by
      intro w6 X6 A7 c7 w7 ho7 hb7 hg7 hv7
      have hcel : ∀ k, some k = A'.map (·.block) → W0.heap.size ≤ k ∧ ∃ cur, W.heap[k]? = some (.cells cur 33 (0, 0)) := fun k hk => by
        obtain ⟨G, k1, k2⟩ := ho
        rcases A' with _ | a
        · cases hk
        · obtain ⟨cur, e, hc⟩ := k1.form a rfl
          have := (k1.blk a rfl).1
          simp only [Option.map_some, Option.some.injEq] at hk
          exact ⟨by omega, cur, hk ▸ hc⟩
      have hsame : ∀ (k : Nat) (ob : Obj), W.heap[k]? = some ob → some k ≠ A'.map (·.block) → w7.heap[k]? = some ob := fun k ob hk hne => by
        have hkl := (Array.getElem?_eq_some_iff.1 hk).1
        exact (hg7.block k (Nat.lt_of_lt_of_le hkl X6.size) hne).trans ((X6.block k hkl).trans hk)
      have hW7 : Below w1.heap.size W w7 := (X6.mono hB.size).trans (hb7.mono Y0.size)
      have hon : w1.heap.size ≤ w.heap.size + 1 := by omega
      refine ⟨⟨Nat.le_trans hW7.size (by simp [World.setCell]), fun k ob _ hk hc => ?_⟩, ⟨hW7.setCell (p := ⟨w.heap.size + 1, 0, none⟩) hon _, fun b cs t fr hb ht => ?_⟩, ⟨A7, c7, ?_, ?_⟩, ?_, ?_⟩
      · refine (Below.heap_setCell _ _ _ _ (fun e => ?_)).trans (hsame k ob hk fun e => ?_)
        · simp only at e
          subst e
          rw [hv] at hk
          injection hk with hk
          subst hk
          cases hc
        · obtain ⟨-, cur, h⟩ := hcel k e
          rw [h] at hk
          injection hk with hk
          subst hk
          cases hc
      · refine ((Below.heap_setCell _ _ _ _ (fun e => ?_)).trans (hsame b _ hb fun e => ?_)).trans hb.symm
        · exact ht (.inl e)
        · exact ht (.inr (hcel b e).1)
      · rw [(hfin _).out]
        exact hv7.set _
      · rw [(hfin _).out]
        exact ho7.setG (by omega) (by omega) _
      · exact (hB.trans hW7).setCell (p := ⟨w.heap.size + 1, 0, none⟩) hon _
      · exact Nat.le_trans hB0 (Nat.le_trans X6.size (Nat.le_trans hb7.size (by simp [World.setCell])))
    have R4 : Rd w4 (some ⟨v2.heap.size, 0, none⟩) (rootR y).1 := rd_blockP g4
    have PF : ∀ (w6 : World) (hb : Below w4.drew.heap.size w4.drew w6), ∀ b, b = v2.heap.size → W0.heap.size ≤ b ∧ Soft w6 b ∧ ∀ a, A' = some a → b ≠ a.block := by
      rintro w6 hb b rfl
      have g5 : w4.drew.heap[v2.heap.size]? = some (.cells ((rootR y).1.map bv).toArray 29 (0, 0)) := g4
      exact ⟨Nat.le_trans hB0 hb2.size, ⟨_, _, (hb.block _ (block_lt g5)).trans g5⟩, fun a ha e => by have := (ho.blk a ha).2; have := hb2.size; omega⟩
    have X5 := X4.trans ((bel_drew w4).mono X4.size)
    have R5 := R4.bel (bel_drew w4)
    have hc5 := (X5.cell (p := ⟨w.heap.size + 1, 0, none⟩) (World.block_lt_of_cell? _ _ hcv)).trans hcv
    replace hv := hid hv
    replace FIN := hid FIN
    replace PF := hid PF
    replace R5 := hid R5
    clear h3 hg4 hs4 hR R4 X4 g4
    gi_wp2
    refine wpIn_region_any (by kernel_rfl) ?_
    change wpAnyIn _ _ _ _ _ _ _ _ _ (World.drew _)
    generalize w4.drew = w5 at *
    replace X5 := hid X5
    -- REGION root
    refine wpAnyIn_ready (rs := [0, 1]) (by kernel_rfl) (by simp) ?_
    refine AllReadyIn.cons rfl (fun K hK => ?_) ?_
    · skip
      go_simp
      refine hK _ _ ?_
      clear hK K
      try simp only [Act.put, sQa, sQb, sQc, gQa, gQb, gQc]
      refine wpAnyIn_ready (rs := [1]) (by kernel_rfl) (by simp) ?_
      refine AllReadyIn.cons rfl (fun K hK => ?_) AllReadyIn.nil
      go_simp
      refine hK _ _ ?_
      clear hK K
      try simp only [Act.put, sQa, sQb, sQc, gQa, gQb, gQc]
      refine wpAnyIn_ready (rs := [2]) (by kernel_rfl) (by simp) ?_
      refine AllReadyIn.cons rfl (fun K hK => ?_) AllReadyIn.nil
      refine stepIn_buildOne slotSlX (by decide) (by rfl) (.tmp 24) rfl [.slice (some ⟨v2.heap.size, 0, none⟩) 32 32] rfl rfl ?_
      intro w6 hw6
      have X6 : Below W.heap.size W w6 := hw6 ▸ X5.out.trans ((ext_alloc w5 _).mono X5.out.size)
      have src6 : Hid (Src (fun b => b = v2.heap.size) w6 (some ⟨w5.heap.size, 0, none⟩) [(rootR y).1]) := hid (hw6 ▸ src_alloc (rep_sl (rootR y).2 R5.out rfl))
      have hF6 : Hid (∀ b, b = v2.heap.size → W0.heap.size ≤ b ∧ Soft w6 b ∧ ∀ a, A' = some a → b ≠ a.block) := hid (PF.out w6 (hw6 ▸ ext_alloc w5 _))
      have hc6 := (X6.cell (p := ⟨w.heap.size + 1, 0, none⟩) (World.block_lt_of_cell? _ _ hcv)).trans hcv
      clear hw6
      refine hK _ _ ?_
      clear hK K
      try simp only [Act.put, sQa, sQb, sQc, gQa, gQb, gQc]
      refine wpAnyIn_ready (rs := [3]) (by kernel_rfl) (by simp) ?_
      refine AllReadyIn.cons rfl (fun K hK => ?_) AllReadyIn.nil
      refine stepIn_appOwnG slotSlX (by rfl) (.tmp 23) (.tmp 25) rfl W0.heap.size W0.heap.size A' (some ⟨w5.heap.size, 0, none⟩) ps.length 1 c' 1 ps [(rootR y).1] _ rfl rfl rfl rfl (ho.bel X6) src6.out hF6.out (by simp; omega) (Nat.le_trans hB0 X6.size) ?_
      intro A7 c7 w7 ho7 hb7 hg7
      have hv7 : Boxed w7 (w.heap.size + 1) 26 (.slice A' ps.length c') := boxed_bel (boxed_bel hv.out X6 hv.out.lt) hb7 (by omega)
      have hc7 := hv7.cell
      have hf7 := hv7.frozen
      replace ho7 := hid ho7
      refine hK _ _ ?_
      clear hK K
      try simp only [Act.put, sQa, sQb, sQc, gQa, gQb, gQc]
      refine wpAnyIn_ready (rs := [4]) (by kernel_rfl) (by simp) ?_
      refine AllReadyIn.cons rfl (fun K hK => ?_) AllReadyIn.nil
      go_simp
      refine hK _ _ ?_
      clear hK K
      try simp only [Act.put, sQa, sQb, sQc, gQa, gQb, gQc]
      refine wpAnyIn_done (by kernel_rfl) ?_ _
      gi_wp2
      have F := FIN.out w6 X6 A7 c7 w7 ho7.out hb7 hg7 hv7
      rw [show (ps ++ [(rootR y).1]).length = ps.length + 1 by simp] at F
      exact F
    refine AllReadyIn.cons rfl (fun K hK => ?_) AllReadyIn.nil
    go_simp
    refine hK _ _ ?_
    clear hK K
    try simp only [Act.put, sQa, sQb, sQc, gQa, gQb, gQc]
    refine wpAnyIn_ready (rs := [0, 2]) (by kernel_rfl) (by simp) ?_
    refine AllReadyIn.cons rfl (fun K hK => ?_) ?_
    · skip
      go_simp
      refine hK _ _ ?_
      clear hK K
      try simp only [Act.put, sQa, sQb, sQc, gQa, gQb, gQc]
      refine wpAnyIn_ready (rs := [2]) (by kernel_rfl) (by simp) ?_
      refine AllReadyIn.cons rfl (fun K hK => ?_) AllReadyIn.nil
      refine stepIn_buildOne slotSlX (by decide) (by rfl) (.tmp 24) rfl [.slice (some ⟨v2.heap.size, 0, none⟩) 32 32] rfl rfl ?_
      intro w6 hw6
      have X6 : Below W.heap.size W w6 := hw6 ▸ X5.out.trans ((ext_alloc w5 _).mono X5.out.size)
      have src6 : Hid (Src (fun b => b = v2.heap.size) w6 (some ⟨w5.heap.size, 0, none⟩) [(rootR y).1]) := hid (hw6 ▸ src_alloc (rep_sl (rootR y).2 R5.out rfl))
      have hF6 : Hid (∀ b, b = v2.heap.size → W0.heap.size ≤ b ∧ Soft w6 b ∧ ∀ a, A' = some a → b ≠ a.block) := hid (PF.out w6 (hw6 ▸ ext_alloc w5 _))
      have hc6 := (X6.cell (p := ⟨w.heap.size + 1, 0, none⟩) (World.block_lt_of_cell? _ _ hcv)).trans hcv
      clear hw6
      refine hK _ _ ?_
      clear hK K
      try simp only [Act.put, sQa, sQb, sQc, gQa, gQb, gQc]
      refine wpAnyIn_ready (rs := [3]) (by kernel_rfl) (by simp) ?_
      refine AllReadyIn.cons rfl (fun K hK => ?_) AllReadyIn.nil
      refine stepIn_appOwnG slotSlX (by rfl) (.tmp 23) (.tmp 25) rfl W0.heap.size W0.heap.size A' (some ⟨w5.heap.size, 0, none⟩) ps.length 1 c' 1 ps [(rootR y).1] _ rfl rfl rfl rfl (ho.bel X6) src6.out hF6.out (by simp; omega) (Nat.le_trans hB0 X6.size) ?_
      intro A7 c7 w7 ho7 hb7 hg7
      have hv7 : Boxed w7 (w.heap.size + 1) 26 (.slice A' ps.length c') := boxed_bel (boxed_bel hv.out X6 hv.out.lt) hb7 (by omega)
      have hc7 := hv7.cell
      have hf7 := hv7.frozen
      replace ho7 := hid ho7
      refine hK _ _ ?_
      clear hK K
      try simp only [Act.put, sQa, sQb, sQc, gQa, gQb, gQc]
      refine wpAnyIn_ready (rs := [4]) (by kernel_rfl) (by simp) ?_
      refine AllReadyIn.cons rfl (fun K hK => ?_) AllReadyIn.nil
      go_simp
      refine hK _ _ ?_
      clear hK K
      try simp only [Act.put, sQa, sQb, sQc, gQa, gQb, gQc]
      refine wpAnyIn_done (by kernel_rfl) ?_ _
      gi_wp2
      have F := FIN.out w6 X6 A7 c7 w7 ho7.out hb7 hg7 hv7
      rw [show (ps ++ [(rootR y).1]).length = ps.length + 1 by simp] at F
      exact F
    refine AllReadyIn.cons rfl (fun K hK => ?_) AllReadyIn.nil
    refine stepIn_buildOne slotSlX (by decide) (by rfl) (.tmp 24) rfl [.slice (some ⟨v2.heap.size, 0, none⟩) 32 32] rfl rfl ?_
    intro w6 hw6
    have X6 : Below W.heap.size W w6 := hw6 ▸ X5.out.trans ((ext_alloc w5 _).mono X5.out.size)
    have src6 : Hid (Src (fun b => b = v2.heap.size) w6 (some ⟨w5.heap.size, 0, none⟩) [(rootR y).1]) := hid (hw6 ▸ src_alloc (rep_sl (rootR y).2 R5.out rfl))
    have hF6 : Hid (∀ b, b = v2.heap.size → W0.heap.size ≤ b ∧ Soft w6 b ∧ ∀ a, A' = some a → b ≠ a.block) := hid (PF.out w6 (hw6 ▸ ext_alloc w5 _))
    have hc6 := (X6.cell (p := ⟨w.heap.size + 1, 0, none⟩) (World.block_lt_of_cell? _ _ hcv)).trans hcv
    clear hw6
    refine hK _ _ ?_
    clear hK K
    try simp only [Act.put, sQa, sQb, sQc, gQa, gQb, gQc]
    refine wpAnyIn_ready (rs := [0]) (by kernel_rfl) (by simp) ?_
    refine AllReadyIn.cons rfl (fun K hK => ?_) AllReadyIn.nil
    go_simp
    refine hK _ _ ?_
    clear hK K
    try simp only [Act.put, sQa, sQb, sQc, gQa, gQb, gQc]
    refine wpAnyIn_ready (rs := [3]) (by kernel_rfl) (by simp) ?_
    refine AllReadyIn.cons rfl (fun K hK => ?_) AllReadyIn.nil
    refine stepIn_appOwnG slotSlX (by rfl) (.tmp 23) (.tmp 25) rfl W0.heap.size W0.heap.size A' (some ⟨w5.heap.size, 0, none⟩) ps.length 1 c' 1 ps [(rootR y).1] _ rfl rfl rfl rfl (ho.bel X6) src6.out hF6.out (by simp; omega) (Nat.le_trans hB0 X6.size) ?_
    intro A7 c7 w7 ho7 hb7 hg7
    have hv7 : Boxed w7 (w.heap.size + 1) 26 (.slice A' ps.length c') := boxed_bel (boxed_bel hv.out X6 hv.out.lt) hb7 (by omega)
    have hc7 := hv7.cell
    have hf7 := hv7.frozen
    replace ho7 := hid ho7
    refine hK _ _ ?_
    clear hK K
    try simp only [Act.put, sQa, sQb, sQc, gQa, gQb, gQc]
    refine wpAnyIn_ready (rs := [4]) (by kernel_rfl) (by simp) ?_
    refine AllReadyIn.cons rfl (fun K hK => ?_) AllReadyIn.nil
    go_simp
    refine hK _ _ ?_
    clear hK K
    try simp only [Act.put, sQa, sQb, sQc, gQa, gQb, gQc]
    refine wpAnyIn_done (by kernel_rfl) ?_ _
    gi_wp2
    have F := FIN.out w6 X6 A7 c7 w7 ho7.out hb7 hg7 hv7
    rw [show (ps ++ [(rootR y).1]).length = ps.length + 1 by simp] at F
    exact F
    -- END root
  case done =>
    rintro D xs W hD hS ⟨⟨A', c', hv, ho⟩, hB, hB0⟩ hK
    rw [roots_two hS] at hv ho
    have hO := TOf_any 8 A' c' 2 _ W ho.row.rds rfl (by simp) (fork_lenR _ _) (hT1.bel hB hT1.low)
    rw [e1] at hO
    replace hO := hid hO
    have hg0 := hid ((hB.block _ (block_lt b1)).trans b1)
    have hcv := hv.cell
    have hfv := hv.frozen
    have Z0 := X1.trans (hB.mono X1.size)
    clear hS e1 ih ho hx hT hr hT1 hr1 hv bt bo
    gi_wp2_with fail
    refine ⟨trivial, callsIn_wide.2 (hO.out.mono ?_)⟩
    rintro e w8 ⟨rfl, hb8⟩
    have Z8 := Z0.trans (hb8.mono Z0.size)
    have G8 := (hb8.block _ (block_lt hg0.out)).trans hg0.out
    have D8 := (hb8.block _ (Array.getElem?_eq_some_iff.1 hK).1).trans hK
    gi_wp2_with (first
      | (refine wpListIn_store_row rfl 29 (.tmp 2) (.tmp 28) rfl w.heap.size (rd.1.map bv).toArray rfl rfl 29 z32 ?_ ?_ ?_ ?_ ?_; exact G8; exact js.out; exact zs.out; exact os.out; intro w9 g9 hg9 hs9))
    have Z9 : Below w.heap.size w w9 := Z8.grown hg9 Z8.size (fun k e => by injection e with e; omega)
    have D9 : w9.heap[D]? = some (.deferred (some [])) := (hg9.block _ (Array.getElem?_eq_some_iff.1 D8).1 (fun e => by injection e with e; omega)).trans D8
    refine ⟨by simp, .inl ⟨_, _, rfl, run_takeDeferred D9, ?_⟩⟩
    exact ⟨_, results_cell_row Tryd.results25 _ _ w.heap.size 29 _ (0, 0) _ rfl ((World.putObj_heap_other (by omega)).trans g9) hu rfl js.out, rfl, Z9.trans (belowK_b (w := w) (Nat.le_refl _) w9 D _ _ (by omega) D9 rfl rfl)⟩
/-- rootOf tells the root of any list. -/
theorem PRwRootOf_at : ∀ (k : Nat) (ls : List (List UInt8)), ls.length ≤ k → RootAt ls := by
  intro k
  induction k with
  | zero => intro ls h; obtain rfl : ls = [] := List.eq_nil_of_length_eq_zero (by omega); exact root_none
  | succ k ih =>
    intro ls h
    match ls, h with
    | [], _ => exact root_none
    | [x], _ => exact root_one x
    | x :: y :: m, h => exact root_more (x :: y :: m) (by simp) fun ms hm => ih ms (by omega)
theorem PRwRootOf_any (ls : List (List UInt8)) : RootAt ls := PRwRootOf_at _ ls (Nat.le_refl _)
end Go.Proofs.YtgmlmkhiflnhdaaDoor
