/-
  Contracts of the landed package header: digestsIn, Read.
-/
import Derived.Test.YtpfglincdlmfhaaDoorHdF
import Derived.Test.YtpfglincdlmfhaaDoorNumTake
import Derived.Test.YtpfglincdlmfhaaDoorNumEnd
import Derived.Test.YtpfglincdlmfhaaDoorCutsB
import Derived.Test.YtpfglincdlmfhaaDoorRef14b
import Derived.Laws.CopyOwn
namespace Go.Proofs.YtpfglincdlmfhaaDoor
open Go.RowKit
set_option linter.unusedVariables false
set_option linter.unusedSimpArgs false
set_option maxRecDepth 100000

/-- Bytes of three digests, so far as they are taken. -/
def dgF96 (l : List UInt8) (j : Nat) : List UInt8 := l.take (j * 32) ++ List.replicate (96 - j * 32) 0
theorem dgF96_zero (l : List UInt8) : dgF96 l 0 = List.replicate 96 0 := by simp [dgF96]
theorem dgF96_all {l : List UInt8} (h : l.length = 96) : dgF96 l 3 = l := by simp [dgF96, List.take_of_length_le (Nat.le_of_eq h)]
theorem dgF96_len {l : List UInt8} (h : l.length = 96) {j : Nat} (hj : j ≤ 3) : (dgF96 l j).length = 96 := by simp [dgF96, h]; omega
theorem dgF96_step {l : List UInt8} (h : l.length = 96) {j : Nat} (hj : j < 3) : splice ((dgF96 l j).map bv) (j * 32) (((l.drop (j * 32)).take 32).map bv) = (dgF96 l (j + 1)).map bv := by
  have l1 : (l.take (j * 32)).length = j * 32 := by rw [List.length_take]; omega
  have l2 : (((l.drop (j * 32)).take 32).map bv).length = 32 := by simp; omega
  unfold splice
  rw [l2, ← List.map_take, ← List.map_drop, ← List.map_append, ← List.map_append]
  congr 1
  unfold dgF96
  rw [List.take_left' l1]
  have e : (l.take (j * 32) ++ List.replicate (96 - j * 32) (0 : UInt8)).drop (j * 32 + 32) = List.replicate (96 - (j + 1) * 32) 0 := by
    rw [List.drop_append, l1, List.drop_of_length_le (by rw [l1]; omega), List.nil_append, List.drop_replicate]
    congr 1
    omega
  rw [e, ← List.append_assoc, Nat.add_mul, Nat.one_mul, List.take_add]
theorem dgs_map {l : List UInt8} (h : l.length = 96) : l.map bv = dgsC [dgAt l 0, dgAt l 32, dgAt l 64] := by
  have d1 : (dgAt l 0).1 = (l.drop 0).take 32 := dgAt_val (by omega)
  have d2 : (dgAt l 32).1 = (l.drop 32).take 32 := dgAt_val (by omega)
  have d3 : (dgAt l 64).1 = (l.drop 64).take 32 := dgAt_val (by omega)
  unfold dgsC
  simp only [List.map_cons, List.map_nil, List.flatten_cons, List.flatten_nil, List.append_nil]
  rw [d1, d2, d3, ← List.map_append, ← List.map_append]
  congr 1
  have s2 : l.drop 32 = (l.drop 32).take 32 ++ l.drop 64 := by rw [show l.drop 64 = (l.drop 32).drop 32 by rw [List.drop_drop], List.take_append_drop]
  rw [List.take_of_length_le (l := l.drop 64) (by rw [List.length_drop]; omega), ← s2]
  exact (List.take_append_drop 32 l).symm
set_option maxHeartbeats 2000000 in
theorem PHdDigestsIn_any (A : Option Addr) (n c : Nat) (l : List UInt8) (w : World) (hr : Rd w A l) (hn : n = 96) (hl : l.length = 96) (hc : 96 ≤ c) (hm : c ≤ maxLen) :
    Calls Tryd.prog 23 #[.slice A n c] w fun e w' => e = .returned (.agg (l.map bv).toArray) ∧ Below w.heap.size w w' := by
  subst hn
  have hug := Tryd.underlying53
  have hsl := run_all32P
  have hsz : (Tryd.prog.info? 5).map (·.size) = some 1 := by kernel_rfl
  have b0 := ext_alloc w (.cells z96 53)
  have h0 := heap_alloc_new w (.cells z96 53)
  have h1 := heap_alloc_new (w.alloc (.cells z96 53)) (.cells z96 53)
  have b1 := ext_alloc (w.alloc (.cells z96 53)) (.cells z96 53)
  rw [World.size_alloc] at h1
  replace h0 := hid ((b1.block _ (block_lt h0)).trans h0)
  have W1 := hid (b0.trans (b1.mono b0.size))
  replace h1 := hid h1
  have hz96 := hid (show z96 = ((dgF96 l 0).map bv).toArray by rw [dgF96_zero]; rfl)
  have js := hid (show (Tryd.prog.info? 53).map (·.size) = some (l.map bv).length by rw [List.length_map, hl]; exact size96)
  have jz := hid (show z96.size = (l.map bv).toArray.size from z96_size.trans (by rw [List.size_toArray, List.length_map, hl]))
  have oz := hid (bvs_all l)
  obtain ⟨b, o, rfl, hcl⟩ := rd_cell hr (by omega)
  have hr2 := hid hr
  clear b0 b1 hcl
  go_enter Tryd.func23, Tryd.ntmps23
  go_wp2_with (first
    | (with_reducible refine wpList_alloc_row rfl 53 rfl z96 infoDgs ?_))
  generalize (w.alloc (.cells z96 53)).alloc (.cells z96 53) = w1 at *
  rw [hz96.out] at h1
  go_loopw [5] (fun i wr => ∃ j : Nat, j ≤ 3 ∧ i = .int .i64 j ∧ wr.heap[w.heap.size + 1]? = some (.cells ((dgF96 l j).map bv).toArray 53 (0, 0)) ∧ Below (w.heap.size + 1) w1 wr) (fun i _ => 3 - (intOf i).toNat)
  case atStart => exact ⟨0, Nat.zero_le _, rfl, h1.out, Below.refl _ _⟩
  case round =>
    obtain ⟨j, hj, rfl, hg, hb⟩ := hrel
    by_cases hlt : j < 3
    · have hlt2 : (j : Int) < 3 := by omega
      have hrw := hr.bel (W1.out.trans (hb.mono (Nat.le_succ _)))
      have hcp : Rd wr (cutA (some ⟨b, o, none⟩) c (j * 32) 1) ((l.drop (j * 32)).take 32) := (((hrw.row (F := fun _ => True) fun _ _ _ => trivial).cut (j * 32) c (by omega) (by omega)).rd).take 32
      have ac : cutA (some ⟨b, o, none⟩) c (j * 32) 1 = some ⟨b, o + j * 32, none⟩ := by unfold cutA; rw [if_neg (by omega)]; simp [add_mid']
      rw [ac] at hcp
      have sl := fun W => run_from slotU8k (some ⟨b, o, none⟩) 96 c (j * 32) (by omega) W
      rw [show (Enc.size UInt8) = 1 from rfl, ac] at sl
      replace sl := hid sl
      have hwr : IntKind.i64.wrap ((j : Int) * 32) = ((j * 32 : Nat) : Int) := by rw [IntKind.wrap_i64]; omega
      have sp := hid (dgF96_step hl hlt)
      have lF := dgF96_len hl hj
      have hcl : Hid ((((l.drop (j * 32)).take 32).map bv).length = Nat.min (96 - j * 32) 32) := hid (by rw [List.length_map, List.length_take, List.length_drop, hl]; exact Nat.min_comm _ _)
      have hcl2 : Hid (j * 32 + (((l.drop (j * 32)).take 32).map bv).length ≤ ((dgF96 l j).map bv).length) := hid (by rw [List.length_map, List.length_map, lF, List.length_take, List.length_drop, hl]; omega)
      have hone := hid (bvs_one ((l.drop (j * 32)).take 32))
      have D1 := bel_drew wr
      have hg1 := hid ((D1.block _ (block_lt hg)).trans hg)
      have r1 := hid (fun hp => (hcp.bel D1).src hp)
      have B1 := hid (hb.trans (D1.mono (by have := hb.size; have := block_lt h1.out; omega)))
      clear hg hb D1 hcp ac hrw lF
      generalize ((l.drop (j * 32)).take 32).map bv = cs at *
      generalize (dgF96 l j).map bv = cur at *
      go_wp2
      refine wp_region_noPanic ?_
      refine wp_region_held_drew (S := fun _ => True) (by kernel_rfl) ?_ (fun hHeld => ?_)
      · exact trivial
      refine' wpAnyH_take (i := 0) (oi := _) (v := ?_) rfl (by kernel_rfl) (by kernel_rfl) (by kernel_rfl) (fun _ _ _ h => h) (Or.inl ⟨by rfl, ?_⟩) (by assumption) ?_
      rotate_left
      · intro W hSw
        go_simp
        first | done | (with_reducible rfl)
      try simp only [Act.put, sQa, sQb, sQc, gQa, gQb, gQc]
      refine' wpAnyH_take (i := 1) (oi := _) (v := ?_) rfl (by kernel_rfl) (by kernel_rfl) (by kernel_rfl) (fun _ _ _ h => h) (Or.inl ⟨by rfl, ?_⟩) (by assumption) ?_
      rotate_left
      · intro W hSw
        go_simp
        first | done | (with_reducible rfl)
      try simp only [Act.put, sQa, sQb, sQc, gQa, gQb, gQc]
      refine' wpAnyH_take (i := 2) (oi := _) (v := _) rfl (by kernel_rfl) (by kernel_rfl) (by kernel_rfl) (fun _ _ _ h => h) (yieldsIf_slice (by rfl) _ _ _ _ _ rfl _ _ _ _ _ (hsl ⟨w.heap.size + 1, j * 32, none⟩) rfl rfl rfl rfl) (by assumption) ?_
      try simp only [Act.put, sQa, sQb, sQc, gQa, gQb, gQc]
      refine' wpAnyH_take (i := 3) (oi := _) (v := ?_) rfl (by kernel_rfl) (by kernel_rfl) (by kernel_rfl) (fun _ _ _ h => h) (Or.inl ⟨by rfl, ?_⟩) (by assumption) ?_
      rotate_left
      · intro W hSw
        go_simp
        first | done | (with_reducible rfl)
      try simp only [Act.put, sQa, sQb, sQc, gQa, gQb, gQc]
      refine' wpAnyH_take (i := 4) (oi := _) (v := ?_) rfl (by kernel_rfl) (by kernel_rfl) (by kernel_rfl) (fun _ _ _ h => h) (Or.inl ⟨by rfl, ?_⟩) (by assumption) ?_
      rotate_left
      · intro W hSw
        go_simp
        first | done | (with_reducible rfl)
      try simp only [Act.put, sQa, sQb, sQc, gQa, gQb, gQc]
      refine' wpAnyH_take (i := 5) (oi := _) (v := ?_) rfl (by kernel_rfl) (by kernel_rfl) (by kernel_rfl) (fun _ _ _ h => h) (Or.inl ⟨by rfl, ?_⟩) (by assumption) ?_
      rotate_left
      · intro W hSw
        go_simp
        first | done | (with_reducible rfl)
      try simp only [Act.put, sQa, sQb, sQc, gQa, gQb, gQc]
      refine' wpAnyH_take (i := 6) (oi := _) (v := _) rfl (by kernel_rfl) (by kernel_rfl) (by kernel_rfl) (fun _ _ _ h => h) (yieldsIf_slice (by rfl) _ _ _ _ _ rfl _ _ _ _ _ (sl.out) rfl rfl rfl rfl) (by assumption) ?_
      try simp only [Act.put, sQa, sQb, sQc, gQa, gQb, gQc]
      refine wpAnyH_ready (rs := [7]) (by kernel_rfl) (by simp) ?_
      refine AllReadyH.cons (o := _) rfl (fun K hK => ?_) AllReadyH.nil
      refine step_copy_splice rfl (.tmp 10) (.tmp 14) 29 29 rfl 5 Tryd.underlying29 hsz _ _ _ _ _ _ rfl rfl (w.heap.size + 1) (j * 32) cur 53 hg1.out cs hcl.out (fun hp => ⟨rfl, r1.out hp⟩) hcl2.out hone.out (w.heap.size + 1) _ B1.out (Nat.le_refl _) ?_
      intro w4 hg4 hb4
      refine hK.out _ _ ?_ (fun hHeld => ?_)
      · exact trivial
      clear hK K
      try simp only [Act.put, sQa, sQb, sQc, gQa, gQb, gQc]
      refine wpAnyH_done (by kernel_rfl) ?_ _
      refine NoPanic.normal ?_
      rw [sp.out] at hg4
      go_wp2
      go_roundw
      case rel => exact ⟨j + 1, by omega, by go_num, hg4.out, hb4⟩
      case measure => simp [intOf]; omega
    · obtain rfl : j = 3 := by omega
      rw [dgF96_all hl] at hg
      have h9 := hid ((hb.block _ (Nat.lt_succ_self _)).trans h0.out)
      have W9 := hid (W1.out.trans (hb.mono (Nat.le_succ _)))
      have Y9 := hid (rangeOf hg)
      clear hg hb h0 h1 hz96
      go_wp2_with (first
        | ((with_reducible refine wpList_load_rng rfl 53 (.tmp 3) rfl (w.heap.size + 1) 0 rfl (l.map bv) _ ?_ hug rfl js.out ?_); exact Y9.out)
        | ((with_reducible refine wpList_store_row rfl 53 (.tmp 2) (.tmp 17) rfl w.heap.size _ rfl rfl 53 z96 ?_ ?_ ?_ ?_ ?_); exact h9.out; exact js.out; exact jz.out; exact oz.out; intro w6 hg6 hb6 hs6))
      refine bodyPost_ret (v := .agg (l.map bv).toArray) ?_ rfl ⟨rfl, ?_⟩
      · exact results_cell_row Tryd.results23 _ _ w.heap.size 53 _ (0, 0) _ rfl hg6 hug rfl js.out
      · exact W9.out.grown hb6 W9.out.size (fun g e => by injection e with e; omega)
set_option maxHeartbeats 4000000 in
theorem PHdRead_any (A : Option Addr) (c : Nat) (l : List UInt8) (w : World) (hr : Rd w A l) (hc : l.length ≤ c) (hm : c ≤ maxLen) (hl47 : l.length ≤ 1000000) :
    Calls Tryd.prog 6 #[.slice A l.length c] w fun e w' => e = .returned (.tuple #[.agg (hdC (readH l)).toArray, .int .i64 (readHE l)]) ∧ Below w.heap.size w w' := by
  have hux := Tryd.underlying25
  have hu := Tryd.underlying23
  have h0 := hid (heap_alloc_new w (.cells zHdC 25))
  have b0 := hid (ext_alloc w (.cells zHdC 25))
  by_cases h1 : l.length < 108
  · have e1 : readHE l = 10 := by unfold readHE; rw [if_pos h1]
    have e2 : readH l = zH := by unfold readH; rw [if_neg (by rw [e1]; decide)]
    rw [e1, e2]
    have q1 : decide ((l.length : Int) < 108) = true := decide_eq_true (by omega)
    clear e1 e2
    go_enter Tryd.func6, Tryd.ntmps6
    go_wp2_with (first
      | (with_reducible refine wpList_alloc_row rfl 25 rfl zHdC zInfoHd ?_)
      | ((with_reducible refine wpList_built rfl 25 _ rfl zHdC [] ?_ ?_ ?_); exact built_hd0; rfl)
      | ((with_reducible refine wpList_store_row rfl 25 (.tmp 2) (.tmp 15) rfl w.heap.size _ rfl rfl 25 zHdC ?_ ?_ ?_ ?_ ?_); exact h0.out; exact sizeHdA zH; rfl; exact one_hd zH; intro w5 hg5 hb5 hs5))
    exact bodyPost_ret (res_hd rfl _ _ w.heap.size zH rfl hg5) rfl ⟨rfl, b0.out.grown hb5 b0.out.size (fun g e => by injection e with e; omega)⟩
  have q1 : decide ((l.length : Int) < 108) = false := decide_eq_false (by omega)
  have sl1 := fun W => run_from slotU8k A l.length c 108 (by omega) W
  have E3 := hid (fun A' n' c' W (hn : n' = l.length - 108) => End_is A' n' c' (l.drop 108) (endE (l.drop 108)) W (by rw [List.length_drop, hn]) rfl)
  have hee : endE (l.drop 108) = if 108 < l.length then 11 else 0 := by unfold endE; rw [List.length_drop]; split <;> split <;> omega
  by_cases h2 : 108 < l.length
  · have e1 : readHE l = 11 := by unfold readHE; rw [if_neg h1, if_pos h2]
    have e2 : readH l = zH := by unfold readH; rw [if_neg (by rw [e1]; decide)]
    rw [e1, e2]
    rw [hee, if_pos h2] at E3
    clear e1 e2 hee
    go_enter Tryd.func6, Tryd.ntmps6
    go_wp2_with (first
      | (with_reducible refine wpList_alloc_row rfl 25 rfl zHdC zInfoHd ?_))
    refine (E3.out _ _ _ _ rfl).mono ?_
    rintro e w1 ⟨rfl, rfl⟩
    go_wp2_with (first
      | ((with_reducible refine wpList_built rfl 25 _ rfl zHdC [] ?_ ?_ ?_); exact built_hd0; rfl)
      | ((with_reducible refine wpList_store_row rfl 25 (.tmp 2) (.tmp 21) rfl w.heap.size _ rfl rfl 25 zHdC ?_ ?_ ?_ ?_ ?_); exact h0.out; exact sizeHdA zH; rfl; exact one_hd zH; intro w5 hg5 hb5 hs5))
    exact bodyPost_ret (res_hd rfl _ _ w.heap.size zH rfl hg5) rfl ⟨rfl, b0.out.grown hb5 b0.out.size (fun g e => by injection e with e; omega)⟩
  rw [hee, if_neg h2] at E3
  have hl9 : l.length = 108 := by omega
  obtain ⟨x, hx⟩ : ∃ x, takenH l = x := ⟨_, rfl⟩
  obtain ⟨nh, hnh⟩ : ∃ n, num (l.take 8) = n := ⟨_, rfl⟩
  obtain ⟨nm, hnm⟩ : ∃ n, num (l.drop 104) = n := ⟨_, rfl⟩
  have xh : x.h = (nh : Int) := by rw [← hx, ← hnh]; rfl
  have xm : x.m = (nm : Int) := by rw [← hx, ← hnm]; rfl
  obtain ⟨p, hp⟩ : ∃ b, decide ((nh : Int) ≤ 1073741824) = b := ⟨_, rfl⟩
  obtain ⟨q, hq⟩ : ∃ b, decide ((nm : Int) ≤ 256) = b := ⟨_, rfl⟩
  obtain ⟨m, hpq⟩ : ∃ m, (p && q) = m := ⟨_, rfl⟩
  have hmay : mayH x = m := by
    rw [← hpq, Bool.eq_iff_iff, mayH_iff, xh, xm, Bool.and_eq_true, ← hp, ← hq, decide_eq_true_eq, decide_eq_true_eq]
    omega
  have E1 : readHE l = if m = true then 0 else 8 := by
    unfold readHE hdE
    rw [if_neg h1, if_neg h2, hx, hmay]
  have E2 : readH l = if m = true then x else zH := by
    unfold readH
    rw [E1, hx]
    cases m <;> rfl
  rw [E1, E2]
  have hM := hid (fun W => PHdMay_is (nh : Int) (nm : Int) p q hp hq W)
  rw [hpq] at hM
  have w1 : m = true → IntKind.i64.wrap (nh : Int) = (nh : Int) := fun h => by
    rw [h] at hpq
    rw [(Bool.and_eq_true_iff.1 hpq).1] at hp
    have := of_decide_eq_true hp
    rw [IntKind.wrap_i64]; omega
  have w2 : m = true → IntKind.i64.wrap (nm : Int) = (nm : Int) := fun h => by
    rw [h] at hpq
    rw [(Bool.and_eq_true_iff.1 hpq).2] at hq
    have := of_decide_eq_true hq
    rw [IntKind.wrap_i64]; omega
  obtain ⟨b, o, rfl, hcl⟩ := rd_cell hr (by omega)
  have a104 : cutA (some ⟨b, o, none⟩) c 104 1 = some ⟨b, o + 104, none⟩ := by unfold cutA; rw [if_neg (by omega)]; rfl
  have a8 : cutA (some ⟨b, o, none⟩) c 8 1 = some ⟨b, o + 8, none⟩ := by unfold cutA; rw [if_neg (by omega)]; rfl
  have sl2 := fun W => run_upto slotU8k (some ⟨b, o, none⟩) l.length c 8 (by omega) W
  have sl3 := fun W => run_from slotU8k (some ⟨b, o, none⟩) l.length c 104 (by omega) W
  have sl4 := fun W => run_within slotU8k (some ⟨b, o, none⟩) l.length c 8 104 (by omega) (by omega) W
  have rt : Rd w (some ⟨b, o, none⟩) (l.take 8) := hr.take 8
  have rd : Rd w (some ⟨b, o + 104, none⟩) (l.drop 104) := a104 ▸ ((hr.row (F := fun _ => True) fun _ _ _ => trivial).cut 104 c (by omega) hc).rd
  have rg : Rd w (some ⟨b, o + 8, none⟩) ((l.drop 8).take 96) := a8 ▸ (((hr.row (F := fun _ => True) fun _ _ _ => trivial).cut 8 c (by omega) hc).rd).take 96
  have n1 : (l.take 8).length = 8 := by rw [List.length_take]; omega
  have n2 : (l.drop 104).length = 4 := by rw [List.length_drop]; omega
  have n3 : ((l.drop 8).take 96).length = 96 := by rw [List.length_take, List.length_drop]; omega
  have hm2 : c ≤ 9223372036854775807 := by unfold maxLen at hm; omega
  have tk1 : takeE (l.take 8) 8 = 0 := by unfold takeE; rw [if_pos (by decide), if_neg (by omega)]
  have tk2 : takeE (l.drop 104) 4 = 0 := by unfold takeE; rw [if_pos (by decide), if_neg (by omega)]
  have T1 := hid (fun W (h : Below w.heap.size w W) => Take_is (some ⟨b, o, none⟩) 8 c (l.take 8) 8 (nh : Int) (takeR (l.take 8) 8) 0 W (rt.bel h) n1.symm (by omega) hm2 (by omega) (by unfold takeN; rw [tk1, if_pos rfl, List.take_of_length_le (by rw [n1]; decide), hnh]) rfl tk1)
  have T2 := hid (fun n' c' W (hn : n' = l.length - 104) (hc' : c' = c - 104) (h : Below w.heap.size w W) => Take_is (some ⟨b, o + 104, none⟩) n' c' (l.drop 104) 4 (nm : Int) (takeR (l.drop 104) 4) 0 W (rd.bel h) (by rw [List.length_drop, hn]) (by omega) (by omega) (by omega) (by unfold takeN; rw [tk2, if_pos rfl, List.take_of_length_le (by rw [n2]; decide), hnm]) rfl tk2)
  have T3 := hid (fun n' c' W (hn : n' = 96) (hc' : c' = c - 8) (h : Below w.heap.size w W) => PHdDigestsIn_any (some ⟨b, o + 8, none⟩) n' c' ((l.drop 8).take 96) W (rg.bel h) hn n3 (by omega) (by omega))
  have es : ((l.drop 8).take 96).map bv = dgsC [dgAt l 8, dgAt l 40, dgAt l 72] := by
    rw [dgs_map n3]
    have hh : ∀ k, k + 32 ≤ 96 → dgAt ((l.drop 8).take 96) k = dgAt l (8 + k) := fun k hk => by
      apply Subtype.ext
      rw [dgAt_val (by omega), dgAt_val (by omega), List.drop_take, List.drop_drop, List.take_take, Nat.min_eq_left (by omega)]
    rw [hh 0 (by decide), hh 32 (by decide), hh 64 (by decide)]
  rw [es] at T3
  have bl := built_hd x
  rw [xh, xm, ← hx] at bl
  have bl2 : Tryd.prog.built 25 [(0, .int .i64 (nh : Int)), (1, .agg ((dgAt l 8).1.map bv).toArray), (2, .agg ((dgAt l 40).1.map bv).toArray), (3, .agg ((dgAt l 72).1.map bv).toArray), (4, .int .i64 (nm : Int))] = some (hdC x).toArray := by rw [← hx]; exact bl
  replace bl2 := hid bl2
  have jx : ∀ d : Dg, (Tryd.prog.info? 23).map (·.size) = some (d.1.map bv).length := fun d => by rw [List.length_map, d.2]; exact size32
  have j1 := hid (jx (dgAt l 8))
  have j2 := hid (jx (dgAt l 40))
  have j3 := hid (jx (dgAt l 72))
  have zs := hid (show (Tryd.prog.info? 53).map (·.size) = some (dgsC [dgAt l 8, dgAt l 40, dgAt l 72]).toArray.size by rw [List.size_toArray, dgsC_len]; exact size96)
  have zz := hid (show z96.size = (dgsC [dgAt l 8, dgAt l 40, dgAt l 72]).toArray.size from z96_size.trans (by rw [List.size_toArray, dgsC_len]; rfl))
  have zo := hid (dgsC_one [dgAt l 8, dgAt l 40, dgAt l 72])
  have rs := hid (fun (W : World) (g : Nat) (h : W.heap[g]? = some (.cells (dgsC [dgAt l 8, dgAt l 40, dgAt l 72]).toArray 53 (0, 0))) => (show W.rangeAt g 0 ((dgAt l 8).1.map bv) ∧ W.rangeAt g 32 ((dgAt l 40).1.map bv) ∧ W.rangeAt g 64 ((dgAt l 72).1.map bv) from ⟨range_dgs (rangeOf h) (j := 0) (by simp), range_dgs (rangeOf h) (j := 1) (by simp), range_dgs (rangeOf h) (j := 2) (by simp)⟩))
  have xa := hid (sizeHdA x)
  have xz := hid (zSizeHd x)
  have xo := hid (one_hd x)
  replace hx := hid hx
  have w1' := hid w1
  have w2' := hid w2
  clear w1 w2
  have i108 : 108 ≤ l.length := by omega
  have c104 : ¬ c = 104 := by omega
  have c8 : ¬ c = 8 := by omega
  have hc8 : 8 ≤ c := by omega
  have hc104 : 104 ≤ c := by omega
  have i0 : (0 : Int) < (l.length : Int) := by omega
  clear hl9 a104 a8 hcl bl jx E1 E2 h1 h2 hmay xh xm hnh hnm rt rd rg tk1 tk2 es hpq hp hq hr hee n1 n2 n3 hl47
  generalize dgsC [dgAt l 8, dgAt l 40, dgAt l 72] = dc at *
  generalize (dgAt l 8).1.map bv = d1 at *
  generalize (dgAt l 40).1.map bv = d2 at *
  generalize (dgAt l 72).1.map bv = d3 at *
  generalize takeR (l.take 8) 8 = t1 at *
  generalize takeR (l.drop 104) 4 = t2 at *
  go_enter Tryd.func6, Tryd.ntmps6
  go_wp2_with (first
    | (with_reducible refine wpList_alloc_row rfl 25 rfl zHdC zInfoHd ?_))
  all_goals
    refine (E3.out _ _ _ _ rfl).mono ?_
    rintro e w1 ⟨rfl, rfl⟩
    go_wp2_with fail
    try subst h
    refine (T1.out _ b0.out).mono ?_
    rintro e w2 ⟨A2, c2, rfl, -, hb⟩
    have h2 := hid ((hb.block _ (block_lt h0.out)).trans h0.out)
    have W2 := hid (b0.out.trans (hb.mono b0.out.size))
    clear hb
    go_wp2_with fail
    refine (T2.out _ _ _ rfl rfl W2.out).mono ?_
    rintro e w3 ⟨A3, c3, rfl, -, hb⟩
    have h3 := hid ((hb.block _ (block_lt h2.out)).trans h2.out)
    have W3 := hid (W2.out.trans (hb.mono W2.out.size))
    clear hb
    go_wp2_with fail
    refine (hM.out _).mono ?_
    rintro e w4 ⟨rfl, rfl⟩
    cases m
    · go_wp2_with (first
        | ((with_reducible refine wpList_built rfl 25 _ rfl zHdC [] ?_ ?_ ?_); exact built_hd0; rfl)
        | ((with_reducible refine wpList_store_row rfl 25 (.tmp 2) (.tmp 41) rfl w.heap.size _ rfl rfl 25 zHdC ?_ ?_ ?_ ?_ ?_); exact h3.out; exact sizeHdA zH; rfl; exact one_hd zH; intro w5 hg5 hb5 hs5))
      exact bodyPost_ret (res_hd rfl _ _ w.heap.size zH rfl hg5) rfl ⟨rfl, W3.out.grown hb5 W3.out.size (fun g e => by injection e with e; omega)⟩
    · have v1 := w1'.out rfl
      have v2 := w2'.out rfl
      go_wp2_with fail
      refine (T3.out _ _ _ rfl rfl W3.out).mono ?_
      rintro e w5 ⟨rfl, hb⟩
      have h5 := hid ((hb.block _ (block_lt h3.out)).trans h3.out)
      have W5 := hid (W3.out.trans (hb.mono W3.out.size))
      clear hb
      have e5 := hid (heap_alloc_new w5 (.cells z96 53))
      go_wp2_with (first
        | (with_reducible refine wpList_alloc_row rfl 53 rfl z96 infoDgs ?_)
        | ((with_reducible refine wpList_store_row rfl 53 (.tmp 11) (.tmp 44) rfl w5.heap.size _ rfl rfl 53 z96 ?_ ?_ ?_ ?_ ?_); exact e5.out; exact zs.out; exact zz.out; exact zo.out; intro w6 hgS hbS hsS; have X6 := hid (xnewP rfl hbS); have q6 := hid (rs.out _ _ hgS); have h6 := hid ((X6.out.block _ (block_lt h5.out)).trans h5.out); have W6 := hid (W5.out.trans (X6.out.mono W5.out.size)); clear hgS hbS hsS)
        | ((with_reducible refine wpList_load_rng rfl 23 (.tmp 47) rfl w5.heap.size 0 rfl d1 _ ?_ hu rfl j1.out ?_); exact q6.out.1)
        | ((with_reducible refine wpList_load_rng rfl 23 (.tmp 49) rfl w5.heap.size 32 rfl d2 _ ?_ hu rfl j2.out ?_); exact q6.out.2.1)
        | ((with_reducible refine wpList_load_rng rfl 23 (.tmp 51) rfl w5.heap.size 64 rfl d3 _ ?_ hu rfl j3.out ?_); exact q6.out.2.2)
        | ((with_reducible refine wpList_built rfl 25 _ rfl (hdC x).toArray [(0, .int .i64 (nh : Int)), (1, .agg d1.toArray), (2, .agg d2.toArray), (3, .agg d3.toArray), (4, .int .i64 (nm : Int))] ?_ ?_ ?_); exact bl2.out; rfl)
        | ((with_reducible refine wpList_store_row rfl 25 (.tmp 2) (.tmp 55) rfl w.heap.size _ rfl rfl 25 zHdC ?_ ?_ ?_ ?_ ?_); exact h6.out; exact xa.out; exact xz.out; exact xo.out; intro w7 hg7 hb7 hs7))
      exact bodyPost_ret (res_hd rfl _ _ w.heap.size x rfl hg7) rfl ⟨rfl, W6.out.grown hb7 W6.out.size (fun g e => by injection e with e; omega)⟩
end Go.Proofs.YtpfglincdlmfhaaDoor
