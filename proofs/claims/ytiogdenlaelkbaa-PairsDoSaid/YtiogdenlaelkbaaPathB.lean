/-
  Contracts of the landed package path: inStep and its iterator.
-/
import Derived.Test.YtiogdenlaelkbaaRange
import Derived.Test.YtiogdenlaelkbaaPathA
namespace Go.Proofs.Ytiogdenlaelkbaa
open Go.RowKit Go.Shelf
set_option linter.unusedVariables false
set_option linter.unusedSimpArgs false

theorem undrew2 {W W' : World} (h : Below W.drew.heap.size W.drew W') : Below W.heap.size W W' := ⟨h.os, h.tape, h.output, h.size, h.block⟩

theorem inStep_any (ds es : Array Value) (w : World) :
    Calls Try.prog 43 #[.agg ds, .agg es] w fun r w' => r = .returned (.func (.func 44) #[] #[.pointer (some ⟨w.heap.size, 0, none⟩), .pointer (some ⟨w.heap.size + 1, 0, none⟩)]) ∧
      w' = (w.alloc (.cells ds 24)).alloc (.cells es 24) := by
  go_enter Try.func43, Try.ntmps43
  go_wp2
  go_ret
  exact ⟨rfl, rfl⟩

/-- What the iterator yields: a bit of each. -/
def Two.encs (x : Nat × Nat) : Array Value := #[.int .u8 (x.1 : Int), .int .u8 (x.2 : Int)]
def two (l m : List UInt8) (i : Nat) : Nat × Nat := (kb l i, kb m i)
def twos (l m : List UInt8) (j : Nat) : List (Nat × Nat) := (List.range j).map (two l m)
theorem twos_succ (l m : List UInt8) (j : Nat) : twos l m (j + 1) = twos l m j ++ [two l m j] := by unfold twos; rw [List.range_succ, List.map_append]; rfl
theorem twos_length (l m : List UInt8) (j : Nat) : (twos l m j).length = j := by simp [twos]

set_option maxRecDepth 100000 in
set_option maxHeartbeats 2000000 in
theorem inStep1_in (n : Nat) (hn : 2 ≤ n) (p q n₀ lp : Nat) (l m : List UInt8) (hl : l.length = 32) (hm : m.length = 32) (W : World) (hnW : n₀ ≤ W.heap.size)
    (hcp : W.heap[p]? = some (.cells (l.map bv).toArray 24 (0, 0))) (hcq : W.heap[q]? = some (.cells (m.map bv).toArray 24 (0, 0)))
    (J Jx : List (Nat × Nat) → World → Prop) (hJ : AbidesFrom W.heap.size J)
    (hY : ∀ pre x W1, J pre W1 → pre.length < 256 → YieldAt Fence.wide (n - 1) Try.prog lp (Two.encs x) W1 fun e W' =>
      (e = .returned (.bool true) ∧ J (pre ++ [x]) W' ∧ Keep2 n₀ p q W1 W') ∨ (e = .returned (.bool false) ∧ Jx (pre ++ [x]) W'))
    (h0 : J [] W) :
    CallsIn Fence.wide n Try.prog 44 #[.func (.yield lp) #[] #[], .pointer (some ⟨p, 0, none⟩), .pointer (some ⟨q, 0, none⟩)] W fun e W' => (∃ v, e = .returned v) ∧
      ((∃ xs, xs = twos l m 256 ∧ J xs W') ∨ (∃ pre, (∃ j, j ≤ 256 ∧ pre = twos l m j) ∧ Jx pre W')) := by
  have hpW := block_lt hcp
  have hqW := block_lt hcq
  obtain ⟨ds, hds⟩ : ∃ ds, ds = (l.map bv).toArray := ⟨_, rfl⟩
  have hsz : ds.size = 32 := by rw [hds]; simp [hl]
  obtain ⟨es, hes⟩ : ∃ es, es = (m.map bv).toArray := ⟨_, rfl⟩
  have hsy : es.size = 32 := by rw [hes]; simp [hm]
  rw [← hds] at hcp
  rw [← hes] at hcq
  replace hds := hid hds
  replace hes := hid hes
  replace hcp := hid hcp
  replace hcq := hid hcq
  refine callsIn_of_wp Try.func44 rfl trivial ?_ rfl
  simp only [Try.ntmps44, List.size_toArray, List.length_cons, List.length_nil, Nat.reduceAdd, Nat.reduceSub, Array.replicate_succ, Array.replicate_zero, List.push_toArray, List.append_toArray, List.nil_append, List.cons_append]
  gi_wp2
  gi_loopw [5] (fun i wr => ∃ j : Nat, i = .int .i64 (j : Int) ∧ j ≤ 256 ∧ J (twos l m j) wr ∧ Keep2 n₀ p q W wr) (fun i _ => 256 - (intOf i).toNat)
  case atStart => exact ⟨0, rfl, by omega, h0, Keep2.refl _ _ _ _⟩
  case round =>
    obtain ⟨i, rfl, hi0, hj, hk⟩ := hrel
    have hdp := hid (hk.2.1.trans hcp.out)
    have hdq := hid (hk.2.2.trans hcq.out)
    have hsn := hk.1.size
    by_cases hi : i < 256
    · have hi2 : (i : Int) < 256 := by omega
      have hY6 : Hid (∀ w6, Below wr.heap.size wr w6 → YieldAt Fence.wide (n - 1) Try.prog lp (Two.encs (two l m i)) w6 fun e W' => (e = .returned (.bool true) ∧ J (twos l m i ++ [two l m i]) W' ∧ Keep2 n₀ p q w6 W') ∨ (e = .returned (.bool false) ∧ Jx (twos l m i ++ [two l m i]) W')) :=
        fun w6 hb => hY _ _ _ (hJ _ wr w6 none hj (grown_of_below hb) (by intro r e; cases e)) (by rw [twos_length]; exact hi)
      gi_wp2
      · replace hdp := hdp.out
        replace hdq := hdq.out
        refine wpIn_region_any (by kernel_rfl) ?_
        change wpAnyIn _ _ _ _ _ _ _ _ _ (World.drew _)
        refine wpAnyIn_take (i := 0) (v := ?_) rfl rfl (by kernel_rfl) (by kernel_rfl) (by kernel_rfl) (fun _ _ _ h => h) ⟨Or.inl ⟨by rfl, ?_⟩, fun _ => rfl⟩ ?_
        rotate_left
        · intro w
          go_simp
          first | done | (with_reducible rfl)
        try simp only [Act.put, List.setIfInBounds_toArray, List.set_cons_zero, List.set_cons_succ, List.getElem_toArray, List.getElem_cons_succ, List.getElem_cons_zero]
        refine wpAnyIn_take (i := 2) (v := ?_) rfl rfl (by kernel_rfl) (by kernel_rfl) (by kernel_rfl) (fun _ _ _ h => h) ⟨Or.inl ⟨by rfl, ?_⟩, fun _ => rfl⟩ ?_
        rotate_left
        · intro w
          go_simp
          first | done | (with_reducible rfl)
        try simp only [Act.put, List.setIfInBounds_toArray, List.set_cons_zero, List.set_cons_succ, List.getElem_toArray, List.getElem_cons_succ, List.getElem_cons_zero]
        refine wpAnyIn_take (i := 5) (v := ?_) rfl rfl (by kernel_rfl) (by kernel_rfl) (by kernel_rfl) (fun _ _ _ h => h) ⟨Or.inl ⟨by rfl, ?_⟩, fun _ => rfl⟩ ?_
        rotate_left
        · intro w
          go_simp
          first | done | (with_reducible rfl)
        try simp only [Act.put, List.setIfInBounds_toArray, List.set_cons_zero, List.set_cons_succ, List.getElem_toArray, List.getElem_cons_succ, List.getElem_cons_zero]
        refine wpAnyIn_ready (rs := [1, 4]) (by kernel_rfl) (by simp) ?_
        refine AllReadyIn.cons rfl (fun K hK => ?_) ?_
        · skip
          refine stepIn_load_row (by rfl) 24 (.tmp 1) rfl p rfl 24 ds (0, 0) _ (hdp) Try.underlying24 rfl (by rw [hsz]; exact size32) ?_
          refine hK _ _ ?_
          clear hK K
          try simp only [Act.put, List.setIfInBounds_toArray, List.set_cons_zero, List.set_cons_succ, List.getElem_toArray, List.getElem_cons_succ, List.getElem_cons_zero]
          refine wpAnyIn_ready (rs := [3, 4]) (by kernel_rfl) (by simp) ?_
          refine AllReadyIn.cons rfl (fun K hK => ?_) ?_
          · skip
            go_simp
            refine ⟨trivial, fun _ => by omega, callsIn_wide.2 ((bit_is l i _ _ wr.drew (by rw [hds.out]) hl hi rfl).mono ?_)⟩
            rintro e w3 ⟨rfl, hb3⟩
            have hdq3 : w3.heap[q]? = some (.cells es 24 (0, 0)) := (hb3.block _ (block_lt (w := wr) hdq)).trans hdq
            simp only []
            refine hK _ _ ?_
            clear hK K
            try simp only [Act.put, List.setIfInBounds_toArray, List.set_cons_zero, List.set_cons_succ, List.getElem_toArray, List.getElem_cons_succ, List.getElem_cons_zero]
            refine wpAnyIn_ready (rs := [4]) (by kernel_rfl) (by simp) ?_
            refine AllReadyIn.cons rfl (fun K hK => ?_) AllReadyIn.nil
            refine stepIn_load_row (by rfl) 24 (.tmp 2) rfl q rfl 24 es (0, 0) _ (hdq3) Try.underlying24 rfl (by rw [hsy]; exact size32) ?_
            refine hK _ _ ?_
            clear hK K
            try simp only [Act.put, List.setIfInBounds_toArray, List.set_cons_zero, List.set_cons_succ, List.getElem_toArray, List.getElem_cons_succ, List.getElem_cons_zero]
            refine wpAnyIn_ready (rs := [6]) (by kernel_rfl) (by simp) ?_
            refine AllReadyIn.cons rfl (fun K hK => ?_) AllReadyIn.nil
            go_simp
            refine ⟨trivial, fun _ => by omega, callsIn_wide.2 ((bit_is m i _ _ w3 (by rw [hes.out]) hm hi rfl).mono ?_)⟩
            rintro e w6 ⟨rfl, hb6⟩
            simp only []
            have hb36 : Below wr.heap.size wr w6 := undrew2 (ext_trans hb3 hb6)
            obtain ⟨fn, tmps, assign, body, hy, hR⟩ := hY6.out w6 hb36
            dsimp only [Two.encs, two] at hy
            refine hK _ _ ?_
            clear hK K
            try simp only [Act.put, List.setIfInBounds_toArray, List.set_cons_zero, List.set_cons_succ, List.getElem_toArray, List.getElem_cons_succ, List.getElem_cons_zero]
            refine wpAnyIn_ready (rs := [7]) (by kernel_rfl) (by simp) ?_
            refine AllReadyIn.cons rfl (fun K hK => ?_) AllReadyIn.nil
            go_simp
            refine ⟨fun _ => by omega, hR.mono ?_⟩
            rintro e w7 (⟨rfl, hJ7, hk7⟩ | ⟨rfl, hJx7⟩)
            · simp only []
              refine hK _ _ ?_
              clear hK K
              try simp only [Act.put, List.setIfInBounds_toArray, List.set_cons_zero, List.set_cons_succ, List.getElem_toArray, List.getElem_cons_succ, List.getElem_cons_zero]
              refine wpAnyIn_ready (rs := [8]) (by kernel_rfl) (by simp) ?_
              refine AllReadyIn.cons rfl (fun K hK => ?_) AllReadyIn.nil
              go_simp
              refine hK _ _ ?_
              clear hK K
              try simp only [Act.put, List.setIfInBounds_toArray, List.set_cons_zero, List.set_cons_succ, List.getElem_toArray, List.getElem_cons_succ, List.getElem_cons_zero]
              refine wpAnyIn_done (by kernel_rfl) ?_ _
              gi_wp2
              go_roundw
              case rel => exact ⟨i + 1, by go_num, by omega, by rw [twos_succ]; exact hJ7, hk.trans ((Keep2.bel hb36 (by omega) (block_lt hdp) (block_lt hdq)).trans hk7)⟩
              case measure => simp [intOf]; omega
            · simp only []
              refine hK _ _ ?_
              clear hK K
              try simp only [Act.put, List.setIfInBounds_toArray, List.set_cons_zero, List.set_cons_succ, List.getElem_toArray, List.getElem_cons_succ, List.getElem_cons_zero]
              refine wpAnyIn_ready (rs := [8]) (by kernel_rfl) (by simp) ?_
              refine AllReadyIn.cons rfl (fun K hK => ?_) AllReadyIn.nil
              go_simp
              refine hK _ _ ?_
              clear hK K
              try simp only [Act.put, List.setIfInBounds_toArray, List.set_cons_zero, List.set_cons_succ, List.getElem_toArray, List.getElem_cons_succ, List.getElem_cons_zero]
              refine wpAnyIn_done (by kernel_rfl) ?_ _
              gi_wp2
              refine bodyPost_ret (results_none rfl _ _ _) rfl ?_
              exact ⟨⟨_, rfl⟩, .inr ⟨_, ⟨i + 1, by omega, rfl⟩, by rw [twos_succ]; exact hJx7⟩⟩
          refine AllReadyIn.cons rfl (fun K hK => ?_) AllReadyIn.nil
          refine stepIn_load_row (by rfl) 24 (.tmp 2) rfl q rfl 24 es (0, 0) _ (hdq) Try.underlying24 rfl (by rw [hsy]; exact size32) ?_
          refine hK _ _ ?_
          clear hK K
          try simp only [Act.put, List.setIfInBounds_toArray, List.set_cons_zero, List.set_cons_succ, List.getElem_toArray, List.getElem_cons_succ, List.getElem_cons_zero]
          refine wpAnyIn_ready (rs := [3]) (by kernel_rfl) (by simp) ?_
          refine AllReadyIn.cons rfl (fun K hK => ?_) AllReadyIn.nil
          go_simp
          refine ⟨trivial, fun _ => by omega, callsIn_wide.2 ((bit_is l i _ _ wr.drew (by rw [hds.out]) hl hi rfl).mono ?_)⟩
          rintro e w3 ⟨rfl, hb3⟩
          have hdq3 : w3.heap[q]? = some (.cells es 24 (0, 0)) := (hb3.block _ (block_lt (w := wr) hdq)).trans hdq
          simp only []
          refine hK _ _ ?_
          clear hK K
          try simp only [Act.put, List.setIfInBounds_toArray, List.set_cons_zero, List.set_cons_succ, List.getElem_toArray, List.getElem_cons_succ, List.getElem_cons_zero]
          refine wpAnyIn_ready (rs := [6]) (by kernel_rfl) (by simp) ?_
          refine AllReadyIn.cons rfl (fun K hK => ?_) AllReadyIn.nil
          go_simp
          refine ⟨trivial, fun _ => by omega, callsIn_wide.2 ((bit_is m i _ _ w3 (by rw [hes.out]) hm hi rfl).mono ?_)⟩
          rintro e w6 ⟨rfl, hb6⟩
          simp only []
          have hb36 : Below wr.heap.size wr w6 := undrew2 (ext_trans hb3 hb6)
          obtain ⟨fn, tmps, assign, body, hy, hR⟩ := hY6.out w6 hb36
          dsimp only [Two.encs, two] at hy
          refine hK _ _ ?_
          clear hK K
          try simp only [Act.put, List.setIfInBounds_toArray, List.set_cons_zero, List.set_cons_succ, List.getElem_toArray, List.getElem_cons_succ, List.getElem_cons_zero]
          refine wpAnyIn_ready (rs := [7]) (by kernel_rfl) (by simp) ?_
          refine AllReadyIn.cons rfl (fun K hK => ?_) AllReadyIn.nil
          go_simp
          refine ⟨fun _ => by omega, hR.mono ?_⟩
          rintro e w7 (⟨rfl, hJ7, hk7⟩ | ⟨rfl, hJx7⟩)
          · simp only []
            refine hK _ _ ?_
            clear hK K
            try simp only [Act.put, List.setIfInBounds_toArray, List.set_cons_zero, List.set_cons_succ, List.getElem_toArray, List.getElem_cons_succ, List.getElem_cons_zero]
            refine wpAnyIn_ready (rs := [8]) (by kernel_rfl) (by simp) ?_
            refine AllReadyIn.cons rfl (fun K hK => ?_) AllReadyIn.nil
            go_simp
            refine hK _ _ ?_
            clear hK K
            try simp only [Act.put, List.setIfInBounds_toArray, List.set_cons_zero, List.set_cons_succ, List.getElem_toArray, List.getElem_cons_succ, List.getElem_cons_zero]
            refine wpAnyIn_done (by kernel_rfl) ?_ _
            gi_wp2
            go_roundw
            case rel => exact ⟨i + 1, by go_num, by omega, by rw [twos_succ]; exact hJ7, hk.trans ((Keep2.bel hb36 (by omega) (block_lt hdp) (block_lt hdq)).trans hk7)⟩
            case measure => simp [intOf]; omega
          · simp only []
            refine hK _ _ ?_
            clear hK K
            try simp only [Act.put, List.setIfInBounds_toArray, List.set_cons_zero, List.set_cons_succ, List.getElem_toArray, List.getElem_cons_succ, List.getElem_cons_zero]
            refine wpAnyIn_ready (rs := [8]) (by kernel_rfl) (by simp) ?_
            refine AllReadyIn.cons rfl (fun K hK => ?_) AllReadyIn.nil
            go_simp
            refine hK _ _ ?_
            clear hK K
            try simp only [Act.put, List.setIfInBounds_toArray, List.set_cons_zero, List.set_cons_succ, List.getElem_toArray, List.getElem_cons_succ, List.getElem_cons_zero]
            refine wpAnyIn_done (by kernel_rfl) ?_ _
            gi_wp2
            refine bodyPost_ret (results_none rfl _ _ _) rfl ?_
            exact ⟨⟨_, rfl⟩, .inr ⟨_, ⟨i + 1, by omega, rfl⟩, by rw [twos_succ]; exact hJx7⟩⟩
        refine AllReadyIn.cons rfl (fun K hK => ?_) AllReadyIn.nil
        refine stepIn_load_row (by rfl) 24 (.tmp 2) rfl q rfl 24 es (0, 0) _ (hdq) Try.underlying24 rfl (by rw [hsy]; exact size32) ?_
        refine hK _ _ ?_
        clear hK K
        try simp only [Act.put, List.setIfInBounds_toArray, List.set_cons_zero, List.set_cons_succ, List.getElem_toArray, List.getElem_cons_succ, List.getElem_cons_zero]
        refine wpAnyIn_ready (rs := [1]) (by kernel_rfl) (by simp) ?_
        refine AllReadyIn.cons rfl (fun K hK => ?_) AllReadyIn.nil
        refine stepIn_load_row (by rfl) 24 (.tmp 1) rfl p rfl 24 ds (0, 0) _ (hdp) Try.underlying24 rfl (by rw [hsz]; exact size32) ?_
        refine hK _ _ ?_
        clear hK K
        try simp only [Act.put, List.setIfInBounds_toArray, List.set_cons_zero, List.set_cons_succ, List.getElem_toArray, List.getElem_cons_succ, List.getElem_cons_zero]
        refine wpAnyIn_ready (rs := [3]) (by kernel_rfl) (by simp) ?_
        refine AllReadyIn.cons rfl (fun K hK => ?_) AllReadyIn.nil
        go_simp
        refine ⟨trivial, fun _ => by omega, callsIn_wide.2 ((bit_is l i _ _ wr.drew (by rw [hds.out]) hl hi rfl).mono ?_)⟩
        rintro e w3 ⟨rfl, hb3⟩
        have hdq3 : w3.heap[q]? = some (.cells es 24 (0, 0)) := (hb3.block _ (block_lt (w := wr) hdq)).trans hdq
        simp only []
        refine hK _ _ ?_
        clear hK K
        try simp only [Act.put, List.setIfInBounds_toArray, List.set_cons_zero, List.set_cons_succ, List.getElem_toArray, List.getElem_cons_succ, List.getElem_cons_zero]
        refine wpAnyIn_ready (rs := [6]) (by kernel_rfl) (by simp) ?_
        refine AllReadyIn.cons rfl (fun K hK => ?_) AllReadyIn.nil
        go_simp
        refine ⟨trivial, fun _ => by omega, callsIn_wide.2 ((bit_is m i _ _ w3 (by rw [hes.out]) hm hi rfl).mono ?_)⟩
        rintro e w6 ⟨rfl, hb6⟩
        simp only []
        have hb36 : Below wr.heap.size wr w6 := undrew2 (ext_trans hb3 hb6)
        obtain ⟨fn, tmps, assign, body, hy, hR⟩ := hY6.out w6 hb36
        dsimp only [Two.encs, two] at hy
        refine hK _ _ ?_
        clear hK K
        try simp only [Act.put, List.setIfInBounds_toArray, List.set_cons_zero, List.set_cons_succ, List.getElem_toArray, List.getElem_cons_succ, List.getElem_cons_zero]
        refine wpAnyIn_ready (rs := [7]) (by kernel_rfl) (by simp) ?_
        refine AllReadyIn.cons rfl (fun K hK => ?_) AllReadyIn.nil
        go_simp
        refine ⟨fun _ => by omega, hR.mono ?_⟩
        rintro e w7 (⟨rfl, hJ7, hk7⟩ | ⟨rfl, hJx7⟩)
        · simp only []
          refine hK _ _ ?_
          clear hK K
          try simp only [Act.put, List.setIfInBounds_toArray, List.set_cons_zero, List.set_cons_succ, List.getElem_toArray, List.getElem_cons_succ, List.getElem_cons_zero]
          refine wpAnyIn_ready (rs := [8]) (by kernel_rfl) (by simp) ?_
          refine AllReadyIn.cons rfl (fun K hK => ?_) AllReadyIn.nil
          go_simp
          refine hK _ _ ?_
          clear hK K
          try simp only [Act.put, List.setIfInBounds_toArray, List.set_cons_zero, List.set_cons_succ, List.getElem_toArray, List.getElem_cons_succ, List.getElem_cons_zero]
          refine wpAnyIn_done (by kernel_rfl) ?_ _
          gi_wp2
          go_roundw
          case rel => exact ⟨i + 1, by go_num, by omega, by rw [twos_succ]; exact hJ7, hk.trans ((Keep2.bel hb36 (by omega) (block_lt hdp) (block_lt hdq)).trans hk7)⟩
          case measure => simp [intOf]; omega
        · simp only []
          refine hK _ _ ?_
          clear hK K
          try simp only [Act.put, List.setIfInBounds_toArray, List.set_cons_zero, List.set_cons_succ, List.getElem_toArray, List.getElem_cons_succ, List.getElem_cons_zero]
          refine wpAnyIn_ready (rs := [8]) (by kernel_rfl) (by simp) ?_
          refine AllReadyIn.cons rfl (fun K hK => ?_) AllReadyIn.nil
          go_simp
          refine hK _ _ ?_
          clear hK K
          try simp only [Act.put, List.setIfInBounds_toArray, List.set_cons_zero, List.set_cons_succ, List.getElem_toArray, List.getElem_cons_succ, List.getElem_cons_zero]
          refine wpAnyIn_done (by kernel_rfl) ?_ _
          gi_wp2
          refine bodyPost_ret (results_none rfl _ _ _) rfl ?_
          exact ⟨⟨_, rfl⟩, .inr ⟨_, ⟨i + 1, by omega, rfl⟩, by rw [twos_succ]; exact hJx7⟩⟩
    · obtain rfl : i = 256 := by omega
      gi_wp2
      go_end0
      exact ⟨⟨_, rfl⟩, .inl ⟨_, rfl, hj⟩⟩
end Go.Proofs.Ytiogdenlaelkbaa
