/-
  Texts laid together: PairsA, PairsD, PairsE, GrowPr, PairsG.
-/
import Derived.Test.YtcifncmfjlbhjaaDoorRoad
import Derived.Test.YtcifncmfjlbhjaaDoorPlain
import Derived.Test.YtcifncmfjlbhjaaDoorBits
import Derived.Shelf.Spec.SlicesGrow
import Derived.Test.YtcifncmfjlbhjaaDoorMem
set_option maxRecDepth 100000
/- (PairsA)
  Contracts of the landed package pairs: isValue, Check.
-/
namespace Go.Proofs.YtcifncmfjlbhjaaDoor
open Go.RowKit
set_option linter.unusedVariables false
set_option linter.unusedSimpArgs false

theorem sizeDgP (k : Dg) : (Tryd.prog.info? 35).map (·.size) = some (k.1.map bv).length := by rw [List.length_map, k.2]; exact size32
theorem sizePrP (k : Dg) (x : Value) : (Tryd.prog.info? 90).map (·.size) = some (k.1.map bv ++ [x]).length := by
  have h := slotPr.info
  rw [len_pr]
  cases hi : Tryd.prog.info? 90 with
  | none => rw [hi] at h; cases h
  | some i =>
    rw [hi] at h
    simp at h
    simp [h.2.1]
theorem ret_bP {a b : Bool} (h : a = b) : Ending.returned (.bool a) = .returned (.bool b) := by rw [h]
theorem ret_iP {k : IntKind} {a b : Int} (h : a = b) : Ending.returned (.int k a) = .returned (.int k b) := by rw [h]
theorem zInfoPr : (Tryd.prog.info? 90).map (fun i => (i.zero, i.size)) = some (some (.agg zPrC), zPrC.size) := by kernel_rfl
theorem zSizePr : zPrC.size = 33 := by decide +kernel

theorem PIsValue_is (v : List UInt8) (A : Option Addr) (c : Nat) (b : Bool) (w : World) (hc : v.length ≤ 9223372036854775807) (hb : valB v = b) :
    Calls Tryd.prog 73 #[.slice A v.length c] w fun e w' => e = .returned (.bool b) ∧ w = w' := by
  subst hb
  have e : valB v = decide (1 ≤ v.length ∧ v.length ≤ 64) := rfl
  rw [e]
  clear e
  generalize v.length = n at *
  go_enter Tryd.func73, Tryd.ntmps73
  by_cases h1 : 1 ≤ n
  · by_cases h2 : n ≤ 64
    · go_wp2
      go_ret
      exact ⟨ret_bP (by simp [h1, h2]; omega), rfl⟩
    · go_wp2
      go_ret
      exact ⟨ret_bP (by simp [h1, h2]; omega), rfl⟩
  · go_wp2
    go_ret
    exact ⟨ret_bP (by simp), rfl⟩
theorem PAhead_of (a b : Dg) (u v : Value) (ans : Bool) (w : World) (hu : u = .agg (a.1.map bv).toArray) (hv : v = .agg (b.1.map bv).toArray) (ha : ahead a.1 b.1 = ans) :
    Calls Tryd.prog 74 #[u, v] w fun r w' => r = .returned (.bool ans) ∧ Below w.heap.size w w' := by
  subst hu hv ha
  exact PAhead_any a.1 b.1 w a.2 b.2

/-- A pair laid in a block of its own: what is read there. -/
theorem block_pr {w : World} {g : Nat} {k : Dg} {x : Value} {t : TypeId} (h : w.heap[g]? = some (.cells (k.1.map bv ++ [x]).toArray t (0, 0))) :
    w.cell? ⟨g, 32, none⟩ = some x ∧ w.rangeAt g 0 (k.1.map bv) ∧ w.rangeAt g 0 (k.1.map bv ++ [x]) := by
  have hk : (k.1.map bv).length = 32 := by rw [List.length_map]; exact k.2
  have h2 := rangeOf h
  refine ⟨?_, fun j v hv => h2 j v ?_, h2⟩
  · have := h2 32 x (by rw [List.getElem?_append_right (by omega), hk]; rfl)
    rwa [Nat.zero_add] at this
  · rw [List.getElem?_append_left (List.getElem?_eq_some_iff.1 hv).1]; exact hv

set_option maxRecDepth 100000 in
set_option maxHeartbeats 1600000 in
theorem PCheck_any (F : Nat → Prop) (A : Option Addr) (c n : Nat) (ps : List Pr) (w : World) (hr : Row F w A ps) (hn : n = ps.length) (hc : ps.length ≤ 9223372036854775807) :
    Calls Tryd.prog 57 #[.slice A n c] w fun e w' => e = .returned (.int .i64 (if mayP ps = true then 0 else 8)) ∧ Below w.heap.size w w' := by
  subst hn
  obtain ⟨ans, ha⟩ : ∃ z : Int, (if mayP ps = true then 0 else 8) = z := ⟨_, rfl⟩
  have hM : mayP ps = (decide (ps.length ≤ 512) && chain ps) := rfl
  rw [ha]
  by_cases h0 : 512 < ps.length
  · rw [hM, decide_eq_false (by omega), Bool.false_and, if_neg (by decide)] at ha
    subst ha
    go_enter Tryd.func57, Tryd.ntmps57
    go_wp2
    go_ret
    exact ⟨rfl, Below.refl _ _⟩
  · rw [hM, decide_eq_true (by omega), Bool.true_and] at ha
    replace ha := hid ha
    clear hM
    go_enter Tryd.func57, Tryd.ntmps57
    go_wp2
    go_loopw [10] (fun i wr => ∃ k : Nat, k ≤ ps.length ∧ i = .int .i64 k ∧ (∀ i, i < k → Good ps i) ∧ Below w.heap.size w wr) (fun i _ => ps.length - (intOf i).toNat)
    case atStart => exact ⟨0, Nat.zero_le _, rfl, fun i hi => absurd hi (by omega), Below.refl _ _⟩
    case round =>
      obtain ⟨k, hk, rfl, hrel, hbw⟩ := hrel
      replace hrel := hid hrel
      by_cases hlt : k < ps.length
      · have hu := Tryd.underlying35
        have hu2 := Tryd.underlying90
        have hG : Hid (Good ps k ↔ (valB ps[k].v = true ∧ (0 < k → ahead (ps[k - 1]'(by omega)).k.1 ps[k].k.1 = true))) := ⟨fun h => h hlt, fun h _ => h⟩
        obtain ⟨b, o, hA, -, A', c', -, r2, h1, h2, h3⟩ := row_pr (hr.bel hbw) hlt
        have hj := fun j (hj : j < ps.length) => row_pr hr hj
        replace hj := hid hj
        subst hA
        have hs := hid (sizePrP ps[k].k (.slice A' ps[k].v.length c'))
        have hi1 := hid (sizeDgP ps[k].k)
        obtain ⟨vb, hvb⟩ : ∃ vb, valB ps[k].v = vb := ⟨_, rfl⟩
        have hvl : ps[k].v.length ≤ 9223372036854775807 := by unfold maxLen at h2; omega
        have hbs := hbw.size
        have z1 := ps[k].k.2
        have hlen : Hid ((ps[k].k.1.map bv ++ [Value.slice A' ps[k].v.length c']).length = 33) := len_pr _ _
        have hone : Hid ((ps[k].k.1.map bv ++ [Value.slice A' ps[k].v.length c']).toArray.all (·.oneCell') = true) := all_oneCell_toArray (Enc.one (rep_pr_mk (F := F) (w := wr) ps[k].k ps[k].v A' c' h1 h2 h3))
        generalize hkq : ps[k].k = kq at *
        generalize hvq : ps[k].v = v at *
        go_wp2_with (first
          | ((with_reducible refine wpList_load_rng rfl 90 (.tmp 13) rfl b (o + k * 33) rfl (kq.1.map bv ++ [.slice A' v.length c']) _ ?_ hu2 rfl hs.out ?_); exact r2)
          | (with_reducible refine wpList_alloc_row rfl 90 rfl zPrC zInfoPr ?_)
          | ((with_reducible refine wpList_store_row rfl 90 (.tmp 4) (.tmp 14) rfl wr.heap.size (kq.1.map bv ++ [Value.slice A' v.length c'] : List Value).toArray rfl ?_ 90 zPrC ?_ ?_ ?_ ?_ ?_); rfl; exact heap_alloc_new wr _; exact hs.out; exact zSizePr.trans hlen.out.symm; exact hone.out; intro w4 hg4 hb4 hs4; have hcell4 := (block_pr hg4).1))
        have B4 := below_var hb4
        have B04 := hbw.trans (B4.mono hbs)
        have hkey := (block_pr hg4).2.1
        replace hvb := hid hvb
        replace hkq := hid hkq
        clear hvq hg4 hb4 r2 hone hlen hs hu2 h3
        refine (PIsValue_is v A' c' vb _ hvl hvb.out).mono ?_
        rintro e w5 ⟨rfl, rfl⟩
        cases vb
        · have hbad : ans = 8 := by
            rw [← ha.out, if_neg]
            rw [chain_iff]
            intro h
            have := (hG.out.1 (h k)).1
            rw [hvb.out] at this; cases this
          replace hbad := hid hbad
          clear hG
          go_wp2
          go_ret
          exact ⟨ret_iP hbad.out.symm, B04⟩
        · rcases Nat.eq_zero_or_pos k with h00 | h00
          · subst h00
            have hnext : ∀ i, i < 0 + 1 → Good ps i := fun i hi => by
              obtain rfl : i = 0 := by omega
              exact hG.out.2 ⟨hvb.out, fun h => absurd h (by omega)⟩
            replace hnext := hid hnext
            clear hG
            go_wp2
            refine wp_region_noPanic ?_
            refine wp_region_held_drew (S := fun w' => Below w.heap.size w w') (by kernel_rfl) ?_ (fun hHeld => ?_)
            · exact below_drewN B04 1
            refine' wpAnyH_take (i := 0) (oi := _) (v := ?_) rfl (by kernel_rfl) (by kernel_rfl) (by kernel_rfl) (fun _ _ _ h => h) (Or.inl ⟨by rfl, ?_⟩) (by assumption) ?_
            rotate_left
            · intro W hSw
              go_simp
              first | done | (with_reducible rfl)
            try simp only [Act.put, sQa, sQb, sQc, gQa, gQb, gQc]
            refine' wpAnyH_take (i := 1) (oi := _) (v := ?_) rfl (by kernel_rfl) (by kernel_rfl) (by kernel_rfl) (fun _ _ _ h => h) (Or.inl ⟨by rfl, ?_⟩) (by assumption) ?_
            rotate_left
            · intro W hSw
              go_simp
              first | done | (with_reducible rfl)
            try simp only [Act.put, sQa, sQb, sQc, gQa, gQb, gQc]
            refine' wpAnyH_take (i := 2) (oi := _) (v := ?_) rfl (by kernel_rfl) (by kernel_rfl) (by kernel_rfl) (fun _ _ _ h => h) (Or.inl ⟨by rfl, ?_⟩) (by assumption) ?_
            rotate_left
            · intro W hSw
              go_simp
              first | done | (with_reducible rfl)
            try simp only [Act.put, sQa, sQb, sQc, gQa, gQb, gQc]
            refine' wpAnyH_take (i := 3) (oi := _) (v := _) rfl (by kernel_rfl) (by kernel_rfl) (by kernel_rfl) (fun _ _ _ h => h) (Or.inr ⟨by rfl, rfl⟩) (by assumption) ?_
            try simp only [Act.put, sQa, sQb, sQc, gQa, gQb, gQc]
            refine' wpAnyH_take (i := 4) (oi := _) (v := _) rfl (by kernel_rfl) (by kernel_rfl) (by kernel_rfl) (fun _ _ _ h => h) (Or.inr ⟨by rfl, rfl⟩) (by assumption) ?_
            try simp only [Act.put, sQa, sQb, sQc, gQa, gQb, gQc]
            refine' wpAnyH_take (i := 5) (oi := _) (v := _) rfl (by kernel_rfl) (by kernel_rfl) (by kernel_rfl) (fun _ _ _ h => h) (Or.inr ⟨by rfl, rfl⟩) (by assumption) ?_
            try simp only [Act.put, sQa, sQb, sQc, gQa, gQb, gQc]
            refine' wpAnyH_take (i := 6) (oi := _) (v := _) rfl (by kernel_rfl) (by kernel_rfl) (by kernel_rfl) (fun _ _ _ h => h) (Or.inr ⟨by rfl, rfl⟩) (by assumption) ?_
            try simp only [Act.put, sQa, sQb, sQc, gQa, gQb, gQc]
            refine' wpAnyH_take (i := 7) (oi := _) (v := _) rfl (by kernel_rfl) (by kernel_rfl) (by kernel_rfl) (fun _ _ _ h => h) (Or.inr ⟨by rfl, rfl⟩) (by assumption) ?_
            try simp only [Act.put, sQa, sQb, sQc, gQa, gQb, gQc]
            refine' wpAnyH_take (i := 8) (oi := _) (v := _) rfl (by kernel_rfl) (by kernel_rfl) (by kernel_rfl) (fun _ _ _ h => h) (Or.inr ⟨by rfl, rfl⟩) (by assumption) ?_
            try simp only [Act.put, sQa, sQb, sQc, gQa, gQb, gQc]
            refine' wpAnyH_take (i := 9) (oi := _) (v := _) rfl (by kernel_rfl) (by kernel_rfl) (by kernel_rfl) (fun _ _ _ h => h) (Or.inr ⟨by rfl, rfl⟩) (by assumption) ?_
            try simp only [Act.put, sQa, sQb, sQc, gQa, gQb, gQc]
            refine' wpAnyH_take (i := 10) (oi := _) (v := _) rfl (by kernel_rfl) (by kernel_rfl) (by kernel_rfl) (fun _ _ _ h => h) (Or.inr ⟨by rfl, rfl⟩) (by assumption) ?_
            try simp only [Act.put, sQa, sQb, sQc, gQa, gQb, gQc]
            refine' wpAnyH_take (i := 11) (oi := _) (v := _) rfl (by kernel_rfl) (by kernel_rfl) (by kernel_rfl) (fun _ _ _ h => h) (Or.inr ⟨by rfl, rfl⟩) (by assumption) ?_
            try simp only [Act.put, sQa, sQb, sQc, gQa, gQb, gQc]
            refine' wpAnyH_take (i := 12) (oi := _) (v := _) rfl (by kernel_rfl) (by kernel_rfl) (by kernel_rfl) (fun _ _ _ h => h) (Or.inr ⟨by rfl, rfl⟩) (by assumption) ?_
            try simp only [Act.put, sQa, sQb, sQc, gQa, gQb, gQc]
            refine' wpAnyH_take (i := 13) (oi := _) (v := ?_) rfl (by kernel_rfl) (by kernel_rfl) (by kernel_rfl) (fun _ _ _ h => h) (Or.inl ⟨by rfl, ?_⟩) (by assumption) ?_
            rotate_left
            · intro W hSw
              go_simp
              first | done | (with_reducible rfl)
            try simp only [Act.put, sQa, sQb, sQc, gQa, gQb, gQc]
            refine wpAnyH_done (by kernel_rfl) ?_ _
            refine NoPanic.normal ?_
            go_wp2
            go_roundw
            case rel => exact ⟨1, by omega, by go_num, hnext.out, hHeld⟩
            case measure => simp [intOf]; omega
          · obtain ⟨j, rfl⟩ : ∃ j, k = j + 1 := ⟨k - 1, by omega⟩
            obtain ⟨b', o', hA', r0, -⟩ := hj.out j (by omega)
            injection hA' with hA'
            injection hA' with hb' ho' _
            subst hb' ho'
            have hsub : IntKind.i64.wrap (j : Int) = j := by rw [IntKind.wrap_i64]; omega
            have hj2 : j < ps.length := by omega
            obtain ⟨ab, hab⟩ : ∃ ab, ahead ps[j].k.1 kq.1 = ab := ⟨_, rfl⟩
            have hbad : ab = false → ans = 8 := by
              intro hf
              rw [← ha.out, if_neg]
              rw [chain_iff]
              intro h
              have := (hG.out.1 (h (j + 1))).2 (by omega)
              rw [show ps[j + 1 - 1] = ps[j] from rfl, hab, hf] at this; cases this
            have hnext : ab = true → ∀ i, i < j + 1 + 1 → Good ps i := fun ht i hi => by
              rcases Nat.lt_or_ge i (j + 1) with hi2 | hi2
              · exact hrel.out i hi2
              · obtain rfl : i = j + 1 := by omega
                exact hG.out.2 ⟨hvb.out, fun _ => hab.trans ht⟩
            replace hnext := hid hnext
            replace hbad := hid hbad
            replace hab := hid hab
            have hi2 := hid (sizeDgP ps[j].k)
            generalize ps[j].k = kp at *
            have z2 := kp.2
            have hj0 : (0 : Int) ≤ (j : Int) + 1 := by omega
            have R0 := rangeBel2 (hbw.trans (B4.mono hbs)) r0
            clear hG hj
            go_wp2
            refine wp_region_noPanic ?_
            refine wp_region_held_drew (S := fun w' => Below w4.heap.size w4 w') (by kernel_rfl) ?_ (fun hHeld => ?_)
            · exact bel_drew w4
            refine' wpAnyH_take (i := 0) (oi := _) (v := ?_) rfl (by kernel_rfl) (by kernel_rfl) (by kernel_rfl) (fun _ _ _ h => h) (Or.inl ⟨by rfl, ?_⟩) (by assumption) ?_
            rotate_left
            · intro W hSw
              go_simp
              first | done | (with_reducible rfl)
            try simp only [Act.put, sQa, sQb, sQc, gQa, gQb, gQc]
            refine' wpAnyH_take (i := 1) (oi := _) (v := ?_) rfl (by kernel_rfl) (by kernel_rfl) (by kernel_rfl) (fun _ _ _ h => h) (Or.inl ⟨by rfl, ?_⟩) (by assumption) ?_
            rotate_left
            · intro W hSw
              go_simp
              first | done | (with_reducible rfl)
            try simp only [Act.put, sQa, sQb, sQc, gQa, gQb, gQc]
            refine' wpAnyH_take (i := 2) (oi := _) (v := ?_) rfl (by kernel_rfl) (by kernel_rfl) (by kernel_rfl) (fun _ _ _ h => h) (Or.inl ⟨by rfl, ?_⟩) (by assumption) ?_
            rotate_left
            · intro W hSw
              go_simp
              first | done | (with_reducible rfl)
            try simp only [Act.put, sQa, sQb, sQc, gQa, gQb, gQc]
            refine' wpAnyH_take (i := 3) (oi := _) (v := ?_) rfl (by kernel_rfl) (by kernel_rfl) (by kernel_rfl) (fun _ _ _ h => h) (Or.inl ⟨by rfl, ?_⟩) (by assumption) ?_
            rotate_left
            · intro W hSw
              go_simp
              first | done | (with_reducible rfl)
            try simp only [Act.put, sQa, sQb, sQc, gQa, gQb, gQc]
            refine' wpAnyH_take (i := 4) (oi := _) (v := ?_) rfl (by kernel_rfl) (by kernel_rfl) (by kernel_rfl) (fun _ _ _ h => h) (Or.inl ⟨by rfl, ?_⟩) (by assumption) ?_
            rotate_left
            · intro W hSw
              go_simp
              first | done | (with_reducible rfl)
            try simp only [Act.put, sQa, sQb, sQc, gQa, gQb, gQc]
            refine' wpAnyH_take (i := 5) (oi := _) (v := ?_) rfl (by kernel_rfl) (by kernel_rfl) (by kernel_rfl) (fun _ _ _ h => h) (Or.inl ⟨by rfl, ?_⟩) (by assumption) ?_
            rotate_left
            · intro W hSw
              go_simp
              first | done | (with_reducible rfl)
            try simp only [Act.put, sQa, sQb, sQc, gQa, gQb, gQc]
            refine' wpAnyH_take (i := 6) (oi := _) (v := ?_) rfl (by kernel_rfl) (by kernel_rfl) (by kernel_rfl) (fun _ _ _ h => h) (Or.inl ⟨by rfl, ?_⟩) (by assumption) ?_
            rotate_left
            · intro W hSw
              go_simp
              first | done | (with_reducible rfl)
            try simp only [Act.put, sQa, sQb, sQc, gQa, gQb, gQc]
            refine' wpAnyH_take (i := 7) (oi := _) (v := ?_) rfl (by kernel_rfl) (by kernel_rfl) (by kernel_rfl) (fun _ _ _ h => h) (Or.inl ⟨by rfl, ?_⟩) (by assumption) ?_
            rotate_left
            · intro W hSw
              go_simp
              first | done | (with_reducible rfl)
            try simp only [Act.put, sQa, sQb, sQc, gQa, gQb, gQc]
            refine' wpAnyH_take (i := 8) (oi := _) (v := _) rfl (by kernel_rfl) (by kernel_rfl) (by kernel_rfl) (fun _ _ _ h => h) (yieldsIf_load_mid (by rfl) _ _ rfl _ _ rfl _ _ (fun _ h => rangeBel2 h R0) hu rfl hi2.out) (by assumption) ?_
            try simp only [Act.put, sQa, sQb, sQc, gQa, gQb, gQc]
            refine' wpAnyH_take (i := 9) (oi := _) (v := ?_) rfl (by kernel_rfl) (by kernel_rfl) (by kernel_rfl) (fun _ _ _ h => h) (Or.inl ⟨by rfl, ?_⟩) (by assumption) ?_
            rotate_left
            · intro W hSw
              go_simp
              first | done | (with_reducible rfl)
            try simp only [Act.put, sQa, sQb, sQc, gQa, gQb, gQc]
            refine' wpAnyH_take (i := 10) (oi := _) (v := _) rfl (by kernel_rfl) (by kernel_rfl) (by kernel_rfl) (fun _ _ _ h => h) (yieldsIf_load_mid (by rfl) _ _ rfl _ _ rfl _ _ (fun _ h => rangeBel2 h hkey) hu rfl hi1.out) (by assumption) ?_
            try simp only [Act.put, sQa, sQb, sQc, gQa, gQb, gQc]
            refine wpAnyH_ready (rs := [11]) (by kernel_rfl) (by simp) ?_
            refine AllReadyH.cons (o := _) rfl (fun K hK => ?_) AllReadyH.nil
            go_simp
            refine (PAhead_of kp kq _ _ ab _ rfl rfl hab.out).mono ?_
            rintro e7 w7 ⟨rfl, hB⟩
            go_wp2_with fail
            refine hK.out _ _ ?_ (fun hHeld => ?_)
            · exact hHeld.trans (hB.mono hHeld.size)
            clear hK K
            try simp only [Act.put, sQa, sQb, sQc, gQa, gQb, gQc]
            refine' wpAnyH_take (i := 12) (oi := _) (v := ?_) rfl (by kernel_rfl) (by kernel_rfl) (by kernel_rfl) (fun _ _ _ h => h) (Or.inl ⟨by rfl, ?_⟩) (by assumption) ?_
            rotate_left
            · intro W hSw
              go_simp
              first | done | (with_reducible rfl)
            try simp only [Act.put, sQa, sQb, sQc, gQa, gQb, gQc]
            refine' wpAnyH_take (i := 13) (oi := _) (v := ?_) rfl (by kernel_rfl) (by kernel_rfl) (by kernel_rfl) (fun _ _ _ h => h) (Or.inl ⟨by rfl, ?_⟩) (by assumption) ?_
            rotate_left
            · intro W hSw
              go_simp
              first | done | (with_reducible rfl)
            try simp only [Act.put, sQa, sQb, sQc, gQa, gQb, gQc]
            refine wpAnyH_done (by kernel_rfl) ?_ _
            refine NoPanic.normal ?_
            have B07 := B04.trans (hHeld.mono B04.size)
            cases ab
            · replace hbad := hid (hbad.out rfl)
              go_wp2
              go_ret
              exact ⟨ret_iP hbad.out.symm, B07⟩
            · replace hnext := hid (hnext.out rfl)
              go_wp2
              go_roundw
              case rel => exact ⟨j + 1 + 1, by omega, by go_num, hnext.out, B07⟩
              case measure => simp [intOf]; omega
      · obtain rfl : k = ps.length := by omega
        have hgood : ans = 0 := by
          rw [← ha.out, if_pos]
          rw [chain_iff]
          intro i h
          exact hrel.out i h h
        replace hgood := hid hgood
        go_wp2
        go_ret
        exact ⟨ret_iP hgood.out.symm, hbw⟩
end Go.Proofs.YtcifncmfjlbhjaaDoor

/- (PairsD)
  Contracts of the landed package pairs: firstOf, by whatever closure; find, Get.
-/
namespace Go.Proofs.YtcifncmfjlbhjaaDoor
open Go.RowKit
set_option linter.unusedVariables false
set_option linter.unusedSimpArgs false

/-- m is the first place from which on all are so. -/
def Parts (ps : List Pr) (so : Pr → Bool) (m : Nat) : Prop := m ≤ ps.length ∧ (∀ i (h : i < ps.length), i < m → so ps[i] = false) ∧ ∀ i (h : i < ps.length), m ≤ i → so ps[i] = true



theorem parts_cnt {ps : List Pr} (h : Srt ps) (k : Dg) : Parts ps (fun p => !ahead p.k.1 k.1) (cnt ps k) := by
  refine ⟨cnt_le ps k, fun i hi hlt => ?_, fun i hi hge => ?_⟩
  · have : ps[i] ∈ ps.take (cnt ps k) := by
      rw [List.mem_take_iff_getElem]
      exact ⟨i, by omega, rfl⟩
    simp [cnt_take k _ this]
  · have : ps[i] ∈ ps.drop (cnt ps k) := by
      rw [List.mem_drop_iff_getElem]
      exact ⟨i - cnt ps k, by omega, by congr 1; omega⟩
    simp [cnt_drop h k _ this]


theorem may_srtP {ps : List Pr} (h : mayP ps = true) : Srt ps ∧ ps.length ≤ 512 ∧ ∀ p ∈ ps, p.v.length ≤ 64 := by
  unfold mayP at h
  simp at h
  have h2 := chain_srt ps h.2
  refine ⟨h2.1, h.1, fun p hp => ?_⟩
  have := h2.2 p hp
  unfold valB at this
  simp at this
  exact this.2
end Go.Proofs.YtcifncmfjlbhjaaDoor

/- (PairsE)
  Contracts of the landed package pairs: Get.
-/
namespace Go.Proofs.YtcifncmfjlbhjaaDoor
open Go.RowKit
set_option linter.unusedVariables false
set_option linter.unusedSimpArgs false

theorem mGet_noP {ps : List Pr} {k : Dg} (h : mayP ps = false ∨ hasP ps k = false) : mGetB ps k = false ∧ mGetL ps k = [] := by
  have : mGetB ps k = false := by
    unfold mGetB
    rcases h with h | h <;> rw [h]
    · rfl
    · exact Bool.and_false _
  exact ⟨this, by unfold mGetL; rw [this]; rfl⟩
theorem mGet_yesP {ps : List Pr} {k : Dg} (h : mayP ps = true) {j : Nat} (hj : j < ps.length) (hk : ps[j].k = k) : mGetB ps k = true ∧ mGetL ps k = ps[j].v := by
  have h2 : hasP ps k = true := hasP_mem.2 ⟨_, List.getElem_mem hj, hk⟩
  have : mGetB ps k = true := by unfold mGetB; rw [h, h2]; rfl
  refine ⟨this, ?_⟩
  unfold mGetL
  rw [if_pos this, ← hk, getV_mem (may_srtP h).1 (List.getElem_mem hj)]

end Go.Proofs.YtcifncmfjlbhjaaDoor

/- (GrowPr)
  The library's slices.Grow at rows of pairs: the kit's contract over its closure; slices.Concat of such rows.
-/
namespace Go.Proofs.YtcifncmfjlbhjaaDoor
open Go.RowKit Go.Shelf
set_option linter.unusedVariables false
set_option linter.unusedSimpArgs false



/-- Slices of pairs, each with its address and capacity. -/
abbrev Pcs : Type := List ((Option Addr × Nat) × List Pr)
def allP (l : Pcs) : List Pr := (l.map (·.2)).flatten
theorem allP_take {l : Pcs} {j : Nat} (h : j < l.length) : allP (l.take (j + 1)) = allP (l.take j) ++ l[j].2 := by
  unfold allP
  rw [List.take_succ_eq_append_getElem h, List.map_append, List.flatten_append]
  simp
theorem allP_take_le (l : Pcs) (j : Nat) : (allP (l.take j)).length ≤ (allP l).length := by
  have h : allP l = allP (l.take j) ++ allP (l.drop j) := by
    unfold allP
    rw [← List.flatten_append, ← List.map_append, List.take_append_drop]
  rw [h, List.length_append]; omega

end Go.Proofs.YtcifncmfjlbhjaaDoor

/- (PairsG)
  Contracts of the landed package pairs: Put.
-/
namespace Go.Proofs.YtcifncmfjlbhjaaDoor
open Go.RowKit
set_option linter.unusedVariables false
set_option linter.unusedSimpArgs false

theorem Rd.row_lt {w : World} {A : Option Addr} {l : List UInt8} (h : Rd w A l) : Row (fun b => b < w.heap.size) w A l := h.row fun a ha hn => by
  obtain ⟨b, o, hA, hc⟩ := h hn
  rw [ha] at hA
  injection hA with hA
  subst hA
  exact World.block_lt_of_cell? _ _ (hc 0 _ (List.getElem?_eq_getElem hn))

end Go.Proofs.YtcifncmfjlbhjaaDoor
