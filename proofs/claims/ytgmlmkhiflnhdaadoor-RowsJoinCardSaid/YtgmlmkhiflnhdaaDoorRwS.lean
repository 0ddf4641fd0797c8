/-
  Contracts of the landed package rows over the table sha.k: Sides.
-/
import Derived.Test.YtgmlmkhiflnhdaaDoorRwG
namespace Go.Proofs.YtgmlmkhiflnhdaaDoor
open Go.RowKit
set_option linter.unusedVariables false
set_option linter.unusedSimpArgs false
set_option maxRecDepth 100000

theorem fk_cells {w : World} {g : Nat} {x : Fk} {t : TypeId} (h : w.heap[g]? = some (.cells (fkC x).toArray t (0, 0))) : w.cell? ⟨g, 0, none⟩ = some (.int .i64 (x.f : Int)) ∧ w.cell? ⟨g, 1, none⟩ = some (.int .i64 (x.t : Int)) := ⟨block_cell h 0, block_cell h 1⟩
theorem rds_cutR {w : World} {A : Option Addr} {ls : List (List UInt8)} {c f t : Nat} (h : Rds w A ls) (hf : f ≤ ls.length) (hc : ls.length ≤ c) : Rds w (cutA A c f 1) (cutR ls f t) := (h.cutA f c hf hc).take _
theorem take_map_succ {α β : Type} (f : α → β) {l : List α} {j : Nat} (h : j < l.length) : (l.map f).take (j + 1) = (l.map f).take j ++ [f l[j]] := by
  rw [List.take_succ_eq_append_getElem (by rw [List.length_map]; exact h), List.getElem_map]
set_option maxHeartbeats 4000000 in
theorem PRwSides_any (A : Option Addr) (c : Nat) (ls : List (List UInt8)) (i : Int) (w : World) (hr : Rds w A ls) (hc : ls.length ≤ c) (hm : c ≤ maxLen) (hl : ls.length ≤ 1000000) (hT : Tab w) :
    Calls Tryd.prog 8 #[.slice A ls.length c, .int .i64 i] w fun e w' => ∃ A' c', e = .returned (.tuple #[.slice A' (sidesL ls i).length c', .int .i64 (sidesE ls i)]) ∧ OwnR 29 w' w.heap.size A' c' (sidesL ls i) ∧ Below w.heap.size w w' := by
  have hM := PRwList_any A c ls w hr hl
  obtain ⟨m, hmm⟩ : ∃ m, listR ls = m := ⟨_, rfl⟩
  rw [hmm] at hM
  cases m with
  | false =>
    have eE : sidesE ls i = 8 := by unfold sidesE; rw [hmm]; rfl
    have eL : sidesL ls i = [] := by unfold sidesL; rw [eE]; rfl
    rw [eE, eL]
    replace hM := hid hM
    clear eE eL hr hT
    go_enter Tryd.func8, Tryd.ntmps8
    go_wp2_with fail
    refine hM.out.mono ?_
    rintro e w1 ⟨rfl, rfl⟩
    go_wp2
    go_ret2
    exact ⟨none, 0, rfl, OwnR.nil _ _, Below.refl _ _⟩
  | true =>
    obtain ⟨l1, l2⟩ := listR_iff2 hmm
    have hP := fun W => PRwPlace_any i (ls.length : Int) W
    by_cases hi : 0 ≤ i ∧ i < (ls.length : Int)
    case neg =>
      have e2 : (decide (0 ≤ i) && decide (i < (ls.length : Int))) = false := by rw [Bool.and_eq_false_iff, decide_eq_false_iff_not, decide_eq_false_iff_not]; omega
      rw [e2] at hP
      have eE : sidesE ls i = 2 := by unfold sidesE; rw [hmm, if_pos rfl, if_pos (by omega)]
      have eL : sidesL ls i = [] := by unfold sidesL; rw [eE]; rfl
      rw [eE, eL]
      replace hM := hid hM
      replace hP := hid hP
      clear eE eL hr hT e2
      go_enter Tryd.func8, Tryd.ntmps8
      go_wp2_with fail
      refine hM.out.mono ?_
      rintro e w1 ⟨rfl, rfl⟩
      go_wp2_with fail
      refine (hP.out _).mono ?_
      rintro e w1 ⟨rfl, rfl⟩
      go_wp2
      go_ret2
      exact ⟨none, 0, rfl, OwnR.nil _ _, Below.refl _ _⟩
    have e2 : (decide (0 ≤ i) && decide (i < (ls.length : Int))) = true := by rw [decide_eq_true hi.1, decide_eq_true hi.2]; rfl
    rw [e2] at hP
    obtain ⟨n, rfl⟩ := Int.eq_ofNat_of_zero_le hi.1
    have hin : n < ls.length := by omega
    have eE : sidesE ls (n : Int) = 0 := by unfold sidesE; rw [hmm, if_pos rfl, if_neg (by omega)]
    have eL : sidesL ls (n : Int) = (forksP 0 ls.length n).map fun x => rootR (cutR ls x.f x.t) := by unfold sidesL; rw [eE, if_pos rfl, Int.toNat_natCast, sides_all hin]
    rw [eE, eL]
    have hF := PRwForks_any ls.length n w hin l1
    have hfl := forksP_len _ 0 ls.length n (Nat.lt_succ_self _)
    have hfi := hid (forksP_in _ 0 ls.length n (Nat.lt_succ_self _))
    generalize forksP 0 ls.length n = fs at *
    obtain ⟨L, hL⟩ : ∃ L, (fs.map fun x => rootR (cutR ls x.f x.t)) = L := ⟨_, rfl⟩
    have hLl : L.length = fs.length := by rw [← hL, List.length_map]
    have hLs : ∀ j (h : j < fs.length), L.take (j + 1) = L.take j ++ [rootR (cutR ls fs[j].f fs[j].t)] := fun j h => by rw [← hL, take_map_succ _ h]
    rw [hL]
    replace hLs := hid hLs
    replace hLl := hid hLl
    clear hL
    have hu := Tryd.underlying29
    have huf := Tryd.underlying50
    have hfn : fs.length ≤ 256 := by omega
    have hO := hid (fun (f t : Nat) W (h1 : f < t) (h2 : t ≤ ls.length) (hW : Rds W A ls) (hTW : Tab W) => PRwRootOf_any (cutR ls f t) (cutA A c f 1) (c - f) W (rds_cutR hW (by omega) hc) (by rw [cutR_len h2]; omega) (by omega) (by rw [cutR_len h2]; omega) (fun x hx => l2 x (cutR_mem x hx)) hTW)
    have hsl := hid (fun f t (h1 : f < t) (h2 : t ≤ ls.length) W => run_within slotSlsR A ls.length c f t (by omega) (by omega) W)
    replace hM := hid hM
    replace hP := hid hP
    replace hF := hid hF
    replace hr := hid hr
    replace hT := hid hT
    clear eE eL e2 hfl l2
    go_enter Tryd.func8, Tryd.ntmps8
    go_wp2_with fail
    refine hM.out.mono ?_
    rintro e w1 ⟨rfl, rfl⟩
    go_wp2_with fail
    refine (hP.out _).mono ?_
    rintro e w1 ⟨rfl, hw1⟩
    rw [hw1]
    clear hw1
    go_wp2_with fail
    refine hF.out.mono ?_
    rintro e w2 ⟨A2, c2, rfl, o2, hb⟩
    have W2 := hid hb
    have F2 := hid o2.row
    clear hb o2
    go_wp2
    go_loopw [6, 22] (fun v i wr => ∃ (j : Nat) (A6 : Option Addr) (c6 : Nat), j ≤ fs.length ∧ i = .int .i64 j ∧ v = .slice A6 (L.take j).length c6 ∧ OwnR 29 wr w2.heap.size A6 c6 (L.take j) ∧ Below w2.heap.size w2 wr) (fun _ i _ => fs.length - (intOf i).toNat)
    case atStart => exact ⟨0, none, 0, Nat.zero_le _, rfl, rfl, OwnR.nil _ _, Below.refl _ _⟩
    case round =>
      obtain ⟨j, A6, c6, hj, rfl, rfl, ho, hB⟩ := hrel
      have Wr := hid (W2.out.trans (hB.mono W2.out.size))
      have Br := hid hB
      by_cases hlt : j < fs.length
      · have hlt2 : (j : Int) < (fs.length : Int) := by omega
        obtain ⟨b, o, rfl, hr0⟩ := row_fkA (F2.out.bel hB) hlt
        have hk := hLs.out j hlt
        have hq := hfi.out _ (List.getElem_mem hlt)
        replace hr0 := hid hr0
        generalize fs[j] = q at *
        have su := fun W => hsl.out q.f q.t hq.2.1 hq.2.2 W
        rw [show Enc.size Nat = 1 from rfl] at su
        have hO1 := fun W (hW : Rds W A ls) (hTW : Tab W) => hO.out q.f q.t W hq.2.1 hq.2.2 hW hTW
        rw [cutR_len hq.2.2] at hO1
        obtain ⟨d, hd⟩ : ∃ d, rootR (cutR ls q.f q.t) = d := ⟨_, rfl⟩
        rw [hd] at hO1 hk
        replace hO1 := hid hO1
        have hjl : (L.take j).length ≤ 256 := by rw [List.length_take]; omega
        obtain ⟨Lj, hLj⟩ : ∃ l, L.take j = l := ⟨_, rfl⟩
        rw [hLj] at hk ho hjl ⊢
        obtain ⟨Lk, hLk⟩ : ∃ l, L.take (j + 1) = l := ⟨_, rfl⟩
        rw [hLk] at hk
        replace hLk := hid hLk
        replace hk := hid hk
        have k1 := hid (sizeFk q)
        have k2 := hid (sizeFkA q)
        have k4 := hid (oneFk q)
        have e0 := hid (heap_alloc_new wr (.cells zFkC 50))
        have ld := hid (show (d.1.map bv).length = Enc.size Dg from by rw [List.length_map, d.2]; rfl)
        replace hB := hid hB
        replace ho := hid ho
        clear hd hLj hq
        go_wp2_with (first
          | ((with_reducible refine wpList_load_rng rfl 50 (.tmp 24) rfl b (o + j * 3) rfl (fkC q) _ ?_ huf rfl k1.out ?_); exact hr0.out)
          | (with_reducible refine wpList_alloc_row rfl 50 rfl zFkC infoFk ?_)
          | ((with_reducible refine wpList_store_row rfl 50 (.tmp 8) (.tmp 25) rfl wr.heap.size _ rfl rfl 50 zFkC ?_ ?_ ?_ ?_ ?_); exact e0.out; exact k2.out; rfl; exact k4.out; intro w4 hgS hbS hsS; have X4 := hid (xnewP rfl hbS); have c4 := (fk_cells hgS).1; have c5 := (fk_cells hgS).2; clear hgS hbS hsS))
        refine (hO1.out _ (hr.out.bel (Wr.out.trans (X4.out.mono Wr.out.size))) (hT.out.bel (Wr.out.trans (X4.out.mono Wr.out.size)) hT.out.low)).mono ?_
        rintro e w5 ⟨rfl, hb5⟩
        have X5 := hid (X4.out.trans (hb5.mono X4.out.size))
        have o5 := hid (ho.out.bel X5.out)
        have B5 := hid (hB.out.trans (X5.out.mono hB.out.size))
        clear hb5 c4 c5 su X4
        go_wp2_with (first
          | (with_reducible refine wpList_buildOne slotDg13 (by decide) rfl (.tmp 33) rfl (d.1.map bv) rfl ld.out ?_)
          | (at_builtin; refine wpList_appOwnG slotDg13 rfl (.tmp 26) (.tmp 34) rfl w2.heap.size w2.heap.size A6 _ Lj.length 1 c6 1 Lj [d] (fun _ => False) rfl rfl rfl rfl (o5.out.alloc _) (src_alloc rfl) (fun b hb => hb.elim) (by simp; omega) (by have := B5.out.size; rw [World.size_alloc]; omega) ?_; intro A7 c7 w7 ho7 hB7 hG7; have ho7 := hid ho7; have hB7 := hid hB7; clear hG7))
        go_round
        case rel => exact ⟨j + 1, A7, c7, by omega, by go_num, by rw [hLk.out, hk.out, List.length_append, List.length_singleton], by rw [hLk.out, hk.out]; exact ho7.out, (B5.out.alloc B5.out.size _).trans hB7.out⟩
        case measure => simp [intOf]; omega
      · obtain rfl : j = fs.length := by omega
        have hLe : L.take fs.length = L := List.take_of_length_le (by have := hLl.out; omega)
        rw [hLe] at ho
        simp only [hLe]
        have hE := hid (ho.base W2.out.size)
        clear ho hLe
        replace hB := hid hB
        go_wp2
        go_ret2
        exact ⟨A6, c6, rfl, hE.out, Wr.out⟩
end Go.Proofs.YtgmlmkhiflnhdaaDoor
