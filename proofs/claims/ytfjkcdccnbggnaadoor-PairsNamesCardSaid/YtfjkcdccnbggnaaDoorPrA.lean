/-
  Texts laid together: PairsA, PairsD, PairsE, PairsB, GrowPr, PairsF, PairsG.
-/
import Derived.Test.YtfjkcdccnbggnaaDoorRoad
import Derived.Test.YtfjkcdccnbggnaaDoorPlain
import Derived.Test.YtfjkcdccnbggnaaDoorBits
import Derived.Shelf.Spec.SlicesGrow
import Derived.Test.YtfjkcdccnbggnaaDoorMem
set_option maxRecDepth 100000
/- (PairsA)
  Contracts of the landed package pairs: isValue, Check.
-/
namespace Go.Proofs.YtfjkcdccnbggnaaDoor
open Go.RowKit
set_option linter.unusedVariables false
set_option linter.unusedSimpArgs false

theorem sizeDgP (k : Dg) : (Tryd.prog.info? 23).map (·.size) = some (k.1.map bv).length := by rw [List.length_map, k.2]; exact size32
theorem sizePrP (k : Dg) (x : Value) : (Tryd.prog.info? 26).map (·.size) = some (k.1.map bv ++ [x]).length := by
  have h := slotPr.info
  rw [len_pr]
  cases hi : Tryd.prog.info? 26 with
  | none => rw [hi] at h; cases h
  | some i =>
    rw [hi] at h
    simp at h
    simp [h.2.1]
theorem ret_bP {a b : Bool} (h : a = b) : Ending.returned (.bool a) = .returned (.bool b) := by rw [h]
theorem ret_iP {k : IntKind} {a b : Int} (h : a = b) : Ending.returned (.int k a) = .returned (.int k b) := by rw [h]
theorem zInfoPr : (Tryd.prog.info? 26).map (fun i => (i.zero, i.size)) = some (some (.agg zPrC), zPrC.size) := by kernel_rfl
theorem zSizePr : zPrC.size = 33 := by decide +kernel

theorem PIsValue_is (v : List UInt8) (A : Option Addr) (c : Nat) (b : Bool) (w : World) (hc : v.length ≤ 9223372036854775807) (hb : valB v = b) :
    Calls Tryd.prog 40 #[.slice A v.length c] w fun e w' => e = .returned (.bool b) ∧ w = w' := by
  subst hb
  have e : valB v = decide (1 ≤ v.length ∧ v.length ≤ 64) := rfl
  rw [e]
  clear e
  generalize v.length = n at *
  go_enter Tryd.func40, Tryd.ntmps40
  by_cases h1 : 1 ≤ n
  · by_cases h2 : n ≤ 64
    · go_wp2
      go_ret
      exact ⟨ret_bP (by simp [h1, h2]; omega), rfl⟩
    · go_wp2
      go_ret
      exact ⟨ret_bP (by simp [h1, h2]; omega), rfl⟩
  · go_wp2
    go_ret
    exact ⟨ret_bP (by simp), rfl⟩
theorem PAhead_of (a b : Dg) (u v : Value) (ans : Bool) (w : World) (hu : u = .agg (a.1.map bv).toArray) (hv : v = .agg (b.1.map bv).toArray) (ha : ahead a.1 b.1 = ans) :
    Calls Tryd.prog 48 #[u, v] w fun r w' => r = .returned (.bool ans) ∧ Below w.heap.size w w' := by
  subst hu hv ha
  exact PAhead_any a.1 b.1 w a.2 b.2

/-- A pair laid in a block of its own: what is read there. -/
theorem block_pr {w : World} {g : Nat} {k : Dg} {x : Value} {t : TypeId} (h : w.heap[g]? = some (.cells (k.1.map bv ++ [x]).toArray t (0, 0))) :
    w.cell? ⟨g, 32, none⟩ = some x ∧ w.rangeAt g 0 (k.1.map bv) ∧ w.rangeAt g 0 (k.1.map bv ++ [x]) := by
  have hk : (k.1.map bv).length = 32 := by rw [List.length_map]; exact k.2
  have h2 := rangeOf h
  refine ⟨?_, fun j v hv => h2 j v ?_, h2⟩
  · have := h2 32 x (by rw [List.getElem?_append_right (by omega), hk]; rfl)
    rwa [Nat.zero_add] at this
  · rw [List.getElem?_append_left (List.getElem?_eq_some_iff.1 hv).1]; exact hv

set_option maxRecDepth 100000 in
set_option maxHeartbeats 1600000 in
theorem PCheck_any (F : Nat → Prop) (A : Option Addr) (c n : Nat) (ps : List Pr) (w : World) (hr : Row F w A ps) (hn : n = ps.length) (hc : ps.length ≤ 9223372036854775807) :
    Calls Tryd.prog 16 #[.slice A n c] w fun e w' => e = .returned (.int .i64 (if mayP ps = true then 0 else 8)) ∧ Below w.heap.size w w' := by
  subst hn
  obtain ⟨ans, ha⟩ : ∃ z : Int, (if mayP ps = true then 0 else 8) = z := ⟨_, rfl⟩
  have hM : mayP ps = (decide (ps.length ≤ 512) && chain ps) := rfl
  rw [ha]
  by_cases h0 : 512 < ps.length
  · rw [hM, decide_eq_false (by omega), Bool.false_and, if_neg (by decide)] at ha
    subst ha
    go_enter Tryd.func16, Tryd.ntmps16
    go_wp2
    go_ret
    exact ⟨rfl, Below.refl _ _⟩
  · rw [hM, decide_eq_true (by omega), Bool.true_and] at ha
    replace ha := hid ha
    clear hM
    go_enter Tryd.func16, Tryd.ntmps16
    go_wp2
    go_loopw [10] (fun i wr => ∃ k : Nat, k ≤ ps.length ∧ i = .int .i64 k ∧ (∀ i, i < k → Good ps i) ∧ Below w.heap.size w wr) (fun i _ => ps.length - (intOf i).toNat)
    case atStart => exact ⟨0, Nat.zero_le _, rfl, fun i hi => absurd hi (by omega), Below.refl _ _⟩
    case round =>
      obtain ⟨k, hk, rfl, hrel, hbw⟩ := hrel
      replace hrel := hid hrel
      by_cases hlt : k < ps.length
      · have hu := Tryd.underlying23
        have hu2 := Tryd.underlying26
        have hG : Hid (Good ps k ↔ (valB ps[k].v = true ∧ (0 < k → ahead (ps[k - 1]'(by omega)).k.1 ps[k].k.1 = true))) := ⟨fun h => h hlt, fun h _ => h⟩
        obtain ⟨b, o, hA, -, A', c', -, r2, h1, h2, h3⟩ := row_pr (hr.bel hbw) hlt
        have hj := fun j (hj : j < ps.length) => row_pr hr hj
        replace hj := hid hj
        subst hA
        have hs := hid (sizePrP ps[k].k (.slice A' ps[k].v.length c'))
        have hi1 := hid (sizeDgP ps[k].k)
        obtain ⟨vb, hvb⟩ : ∃ vb, valB ps[k].v = vb := ⟨_, rfl⟩
        have hvl : ps[k].v.length ≤ 9223372036854775807 := by unfold maxLen at h2; omega
        have hbs := hbw.size
        have z1 := ps[k].k.2
        have hlen : Hid ((ps[k].k.1.map bv ++ [Value.slice A' ps[k].v.length c']).length = 33) := len_pr _ _
        have hone : Hid ((ps[k].k.1.map bv ++ [Value.slice A' ps[k].v.length c']).toArray.all (·.oneCell') = true) := all_oneCell_toArray (Enc.one (rep_pr_mk (F := F) (w := wr) ps[k].k ps[k].v A' c' h1 h2 h3))
        generalize hkq : ps[k].k = kq at *
        generalize hvq : ps[k].v = v at *
        go_wp2_with (first
          | ((with_reducible refine wpList_load_rng rfl 26 (.tmp 13) rfl b (o + k * 33) rfl (kq.1.map bv ++ [.slice A' v.length c']) _ ?_ hu2 rfl hs.out ?_); exact r2)
          | (with_reducible refine wpList_alloc_row rfl 26 rfl zPrC zInfoPr ?_)
          | ((with_reducible refine wpList_store_row rfl 26 (.tmp 4) (.tmp 14) rfl wr.heap.size (kq.1.map bv ++ [Value.slice A' v.length c'] : List Value).toArray rfl ?_ 26 zPrC ?_ ?_ ?_ ?_ ?_); rfl; exact heap_alloc_new wr _; exact hs.out; exact zSizePr.trans hlen.out.symm; exact hone.out; intro w4 hg4 hb4 hs4; have hcell4 := (block_pr hg4).1))
        have B4 := below_var hb4
        have B04 := hbw.trans (B4.mono hbs)
        have hkey := (block_pr hg4).2.1
        replace hvb := hid hvb
        replace hkq := hid hkq
        clear hvq hg4 hb4 r2 hone hlen hs hu2 h3
        refine (PIsValue_is v A' c' vb _ hvl hvb.out).mono ?_
        rintro e w5 ⟨rfl, rfl⟩
        cases vb
        · have hbad : ans = 8 := by
            rw [← ha.out, if_neg]
            rw [chain_iff]
            intro h
            have := (hG.out.1 (h k)).1
            rw [hvb.out] at this; cases this
          replace hbad := hid hbad
          clear hG
          go_wp2
          go_ret
          exact ⟨ret_iP hbad.out.symm, B04⟩
        · rcases Nat.eq_zero_or_pos k with h00 | h00
          · subst h00
            have hnext : ∀ i, i < 0 + 1 → Good ps i := fun i hi => by
              obtain rfl : i = 0 := by omega
              exact hG.out.2 ⟨hvb.out, fun h => absurd h (by omega)⟩
            replace hnext := hid hnext
            clear hG
            go_wp2
            refine wp_region_noPanic ?_
            refine wp_region_held_drew (S := fun w' => Below w.heap.size w w') (by kernel_rfl) ?_ (fun hHeld => ?_)
            · exact below_drewN B04 1
            refine' wpAnyH_take (i := 0) (oi := _) (v := ?_) rfl (by kernel_rfl) (by kernel_rfl) (by kernel_rfl) (fun _ _ _ h => h) (Or.inl ⟨by rfl, ?_⟩) (by assumption) ?_
            rotate_left
            · intro W hSw
              go_simp
              first | done | (with_reducible rfl)
            try simp only [Act.put, sQa, sQb, sQc, gQa, gQb, gQc]
            refine' wpAnyH_take (i := 1) (oi := _) (v := ?_) rfl (by kernel_rfl) (by kernel_rfl) (by kernel_rfl) (fun _ _ _ h => h) (Or.inl ⟨by rfl, ?_⟩) (by assumption) ?_
            rotate_left
            · intro W hSw
              go_simp
              first | done | (with_reducible rfl)
            try simp only [Act.put, sQa, sQb, sQc, gQa, gQb, gQc]
            refine' wpAnyH_take (i := 2) (oi := _) (v := ?_) rfl (by kernel_rfl) (by kernel_rfl) (by kernel_rfl) (fun _ _ _ h => h) (Or.inl ⟨by rfl, ?_⟩) (by assumption) ?_
            rotate_left
            · intro W hSw
              go_simp
              first | done | (with_reducible rfl)
            try simp only [Act.put, sQa, sQb, sQc, gQa, gQb, gQc]
            refine' wpAnyH_take (i := 3) (oi := _) (v := _) rfl (by kernel_rfl) (by kernel_rfl) (by kernel_rfl) (fun _ _ _ h => h) (Or.inr ⟨by rfl, rfl⟩) (by assumption) ?_
            try simp only [Act.put, sQa, sQb, sQc, gQa, gQb, gQc]
            refine' wpAnyH_take (i := 4) (oi := _) (v := _) rfl (by kernel_rfl) (by kernel_rfl) (by kernel_rfl) (fun _ _ _ h => h) (Or.inr ⟨by rfl, rfl⟩) (by assumption) ?_
            try simp only [Act.put, sQa, sQb, sQc, gQa, gQb, gQc]
            refine' wpAnyH_take (i := 5) (oi := _) (v := _) rfl (by kernel_rfl) (by kernel_rfl) (by kernel_rfl) (fun _ _ _ h => h) (Or.inr ⟨by rfl, rfl⟩) (by assumption) ?_
            try simp only [Act.put, sQa, sQb, sQc, gQa, gQb, gQc]
            refine' wpAnyH_take (i := 6) (oi := _) (v := _) rfl (by kernel_rfl) (by kernel_rfl) (by kernel_rfl) (fun _ _ _ h => h) (Or.inr ⟨by rfl, rfl⟩) (by assumption) ?_
            try simp only [Act.put, sQa, sQb, sQc, gQa, gQb, gQc]
            refine' wpAnyH_take (i := 7) (oi := _) (v := _) rfl (by kernel_rfl) (by kernel_rfl) (by kernel_rfl) (fun _ _ _ h => h) (Or.inr ⟨by rfl, rfl⟩) (by assumption) ?_
            try simp only [Act.put, sQa, sQb, sQc, gQa, gQb, gQc]
            refine' wpAnyH_take (i := 8) (oi := _) (v := _) rfl (by kernel_rfl) (by kernel_rfl) (by kernel_rfl) (fun _ _ _ h => h) (Or.inr ⟨by rfl, rfl⟩) (by assumption) ?_
            try simp only [Act.put, sQa, sQb, sQc, gQa, gQb, gQc]
            refine' wpAnyH_take (i := 9) (oi := _) (v := _) rfl (by kernel_rfl) (by kernel_rfl) (by kernel_rfl) (fun _ _ _ h => h) (Or.inr ⟨by rfl, rfl⟩) (by assumption) ?_
            try simp only [Act.put, sQa, sQb, sQc, gQa, gQb, gQc]
            refine' wpAnyH_take (i := 10) (oi := _) (v := _) rfl (by kernel_rfl) (by kernel_rfl) (by kernel_rfl) (fun _ _ _ h => h) (Or.inr ⟨by rfl, rfl⟩) (by assumption) ?_
            try simp only [Act.put, sQa, sQb, sQc, gQa, gQb, gQc]
            refine' wpAnyH_take (i := 11) (oi := _) (v := _) rfl (by kernel_rfl) (by kernel_rfl) (by kernel_rfl) (fun _ _ _ h => h) (Or.inr ⟨by rfl, rfl⟩) (by assumption) ?_
            try simp only [Act.put, sQa, sQb, sQc, gQa, gQb, gQc]
            refine' wpAnyH_take (i := 12) (oi := _) (v := _) rfl (by kernel_rfl) (by kernel_rfl) (by kernel_rfl) (fun _ _ _ h => h) (Or.inr ⟨by rfl, rfl⟩) (by assumption) ?_
            try simp only [Act.put, sQa, sQb, sQc, gQa, gQb, gQc]
            refine' wpAnyH_take (i := 13) (oi := _) (v := ?_) rfl (by kernel_rfl) (by kernel_rfl) (by kernel_rfl) (fun _ _ _ h => h) (Or.inl ⟨by rfl, ?_⟩) (by assumption) ?_
            rotate_left
            · intro W hSw
              go_simp
              first | done | (with_reducible rfl)
            try simp only [Act.put, sQa, sQb, sQc, gQa, gQb, gQc]
            refine wpAnyH_done (by kernel_rfl) ?_ _
            refine NoPanic.normal ?_
            go_wp2
            go_roundw
            case rel => exact ⟨1, by omega, by go_num, hnext.out, hHeld⟩
            case measure => simp [intOf]; omega
          · obtain ⟨j, rfl⟩ : ∃ j, k = j + 1 := ⟨k - 1, by omega⟩
            obtain ⟨b', o', hA', r0, -⟩ := hj.out j (by omega)
            injection hA' with hA'
            injection hA' with hb' ho' _
            subst hb' ho'
            have hsub : IntKind.i64.wrap (j : Int) = j := by rw [IntKind.wrap_i64]; omega
            have hj2 : j < ps.length := by omega
            obtain ⟨ab, hab⟩ : ∃ ab, ahead ps[j].k.1 kq.1 = ab := ⟨_, rfl⟩
            have hbad : ab = false → ans = 8 := by
              intro hf
              rw [← ha.out, if_neg]
              rw [chain_iff]
              intro h
              have := (hG.out.1 (h (j + 1))).2 (by omega)
              rw [show ps[j + 1 - 1] = ps[j] from rfl, hab, hf] at this; cases this
            have hnext : ab = true → ∀ i, i < j + 1 + 1 → Good ps i := fun ht i hi => by
              rcases Nat.lt_or_ge i (j + 1) with hi2 | hi2
              · exact hrel.out i hi2
              · obtain rfl : i = j + 1 := by omega
                exact hG.out.2 ⟨hvb.out, fun _ => hab.trans ht⟩
            replace hnext := hid hnext
            replace hbad := hid hbad
            replace hab := hid hab
            have hi2 := hid (sizeDgP ps[j].k)
            generalize ps[j].k = kp at *
            have z2 := kp.2
            have hj0 : (0 : Int) ≤ (j : Int) + 1 := by omega
            have R0 := rangeBel2 (hbw.trans (B4.mono hbs)) r0
            clear hG hj
            go_wp2
            refine wp_region_noPanic ?_
            refine wp_region_held_drew (S := fun w' => Below w4.heap.size w4 w') (by kernel_rfl) ?_ (fun hHeld => ?_)
            · exact bel_drew w4
            refine' wpAnyH_take (i := 0) (oi := _) (v := ?_) rfl (by kernel_rfl) (by kernel_rfl) (by kernel_rfl) (fun _ _ _ h => h) (Or.inl ⟨by rfl, ?_⟩) (by assumption) ?_
            rotate_left
            · intro W hSw
              go_simp
              first | done | (with_reducible rfl)
            try simp only [Act.put, sQa, sQb, sQc, gQa, gQb, gQc]
            refine' wpAnyH_take (i := 1) (oi := _) (v := ?_) rfl (by kernel_rfl) (by kernel_rfl) (by kernel_rfl) (fun _ _ _ h => h) (Or.inl ⟨by rfl, ?_⟩) (by assumption) ?_
            rotate_left
            · intro W hSw
              go_simp
              first | done | (with_reducible rfl)
            try simp only [Act.put, sQa, sQb, sQc, gQa, gQb, gQc]
            refine' wpAnyH_take (i := 2) (oi := _) (v := ?_) rfl (by kernel_rfl) (by kernel_rfl) (by kernel_rfl) (fun _ _ _ h => h) (Or.inl ⟨by rfl, ?_⟩) (by assumption) ?_
            rotate_left
            · intro W hSw
              go_simp
              first | done | (with_reducible rfl)
            try simp only [Act.put, sQa, sQb, sQc, gQa, gQb, gQc]
            refine' wpAnyH_take (i := 3) (oi := _) (v := ?_) rfl (by kernel_rfl) (by kernel_rfl) (by kernel_rfl) (fun _ _ _ h => h) (Or.inl ⟨by rfl, ?_⟩) (by assumption) ?_
            rotate_left
            · intro W hSw
              go_simp
              first | done | (with_reducible rfl)
            try simp only [Act.put, sQa, sQb, sQc, gQa, gQb, gQc]
            refine' wpAnyH_take (i := 4) (oi := _) (v := ?_) rfl (by kernel_rfl) (by kernel_rfl) (by kernel_rfl) (fun _ _ _ h => h) (Or.inl ⟨by rfl, ?_⟩) (by assumption) ?_
            rotate_left
            · intro W hSw
              go_simp
              first | done | (with_reducible rfl)
            try simp only [Act.put, sQa, sQb, sQc, gQa, gQb, gQc]
            refine' wpAnyH_take (i := 5) (oi := _) (v := ?_) rfl (by kernel_rfl) (by kernel_rfl) (by kernel_rfl) (fun _ _ _ h => h) (Or.inl ⟨by rfl, ?_⟩) (by assumption) ?_
            rotate_left
            · intro W hSw
              go_simp
              first | done | (with_reducible rfl)
            try simp only [Act.put, sQa, sQb, sQc, gQa, gQb, gQc]
            refine' wpAnyH_take (i := 6) (oi := _) (v := ?_) rfl (by kernel_rfl) (by kernel_rfl) (by kernel_rfl) (fun _ _ _ h => h) (Or.inl ⟨by rfl, ?_⟩) (by assumption) ?_
            rotate_left
            · intro W hSw
              go_simp
              first | done | (with_reducible rfl)
            try simp only [Act.put, sQa, sQb, sQc, gQa, gQb, gQc]
            refine' wpAnyH_take (i := 7) (oi := _) (v := ?_) rfl (by kernel_rfl) (by kernel_rfl) (by kernel_rfl) (fun _ _ _ h => h) (Or.inl ⟨by rfl, ?_⟩) (by assumption) ?_
            rotate_left
            · intro W hSw
              go_simp
              first | done | (with_reducible rfl)
            try simp only [Act.put, sQa, sQb, sQc, gQa, gQb, gQc]
            refine' wpAnyH_take (i := 8) (oi := _) (v := _) rfl (by kernel_rfl) (by kernel_rfl) (by kernel_rfl) (fun _ _ _ h => h) (yieldsIf_load_mid (by rfl) _ _ rfl _ _ rfl _ _ (fun _ h => rangeBel2 h R0) hu rfl hi2.out) (by assumption) ?_
            try simp only [Act.put, sQa, sQb, sQc, gQa, gQb, gQc]
            refine' wpAnyH_take (i := 9) (oi := _) (v := ?_) rfl (by kernel_rfl) (by kernel_rfl) (by kernel_rfl) (fun _ _ _ h => h) (Or.inl ⟨by rfl, ?_⟩) (by assumption) ?_
            rotate_left
            · intro W hSw
              go_simp
              first | done | (with_reducible rfl)
            try simp only [Act.put, sQa, sQb, sQc, gQa, gQb, gQc]
            refine' wpAnyH_take (i := 10) (oi := _) (v := _) rfl (by kernel_rfl) (by kernel_rfl) (by kernel_rfl) (fun _ _ _ h => h) (yieldsIf_load_mid (by rfl) _ _ rfl _ _ rfl _ _ (fun _ h => rangeBel2 h hkey) hu rfl hi1.out) (by assumption) ?_
            try simp only [Act.put, sQa, sQb, sQc, gQa, gQb, gQc]
            refine wpAnyH_ready (rs := [11]) (by kernel_rfl) (by simp) ?_
            refine AllReadyH.cons (o := _) rfl (fun K hK => ?_) AllReadyH.nil
            go_simp
            refine (PAhead_of kp kq _ _ ab _ rfl rfl hab.out).mono ?_
            rintro e7 w7 ⟨rfl, hB⟩
            go_wp2_with fail
            refine hK.out _ _ ?_ (fun hHeld => ?_)
            · exact hHeld.trans (hB.mono hHeld.size)
            clear hK K
            try simp only [Act.put, sQa, sQb, sQc, gQa, gQb, gQc]
            refine' wpAnyH_take (i := 12) (oi := _) (v := ?_) rfl (by kernel_rfl) (by kernel_rfl) (by kernel_rfl) (fun _ _ _ h => h) (Or.inl ⟨by rfl, ?_⟩) (by assumption) ?_
            rotate_left
            · intro W hSw
              go_simp
              first | done | (with_reducible rfl)
            try simp only [Act.put, sQa, sQb, sQc, gQa, gQb, gQc]
            refine' wpAnyH_take (i := 13) (oi := _) (v := ?_) rfl (by kernel_rfl) (by kernel_rfl) (by kernel_rfl) (fun _ _ _ h => h) (Or.inl ⟨by rfl, ?_⟩) (by assumption) ?_
            rotate_left
            · intro W hSw
              go_simp
              first | done | (with_reducible rfl)
            try simp only [Act.put, sQa, sQb, sQc, gQa, gQb, gQc]
            refine wpAnyH_done (by kernel_rfl) ?_ _
            refine NoPanic.normal ?_
            have B07 := B04.trans (hHeld.mono B04.size)
            cases ab
            · replace hbad := hid (hbad.out rfl)
              go_wp2
              go_ret
              exact ⟨ret_iP hbad.out.symm, B07⟩
            · replace hnext := hid (hnext.out rfl)
              go_wp2
              go_roundw
              case rel => exact ⟨j + 1 + 1, by omega, by go_num, hnext.out, B07⟩
              case measure => simp [intOf]; omega
      · obtain rfl : k = ps.length := by omega
        have hgood : ans = 0 := by
          rw [← ha.out, if_pos]
          rw [chain_iff]
          intro i h
          exact hrel.out i h h
        replace hgood := hid hgood
        go_wp2
        go_ret
        exact ⟨ret_iP hgood.out.symm, hbw⟩
end Go.Proofs.YtfjkcdccnbggnaaDoor

/- (PairsD)
  Contracts of the landed package pairs: firstOf, by whatever closure; find, Get.
-/
namespace Go.Proofs.YtfjkcdccnbggnaaDoor
open Go.RowKit
set_option linter.unusedVariables false
set_option linter.unusedSimpArgs false

/-- m is the first place from which on all are so. -/
def Parts (ps : List Pr) (so : Pr → Bool) (m : Nat) : Prop := m ≤ ps.length ∧ (∀ i (h : i < ps.length), i < m → so ps[i] = false) ∧ ∀ i (h : i < ps.length), m ≤ i → so ps[i] = true

set_option maxRecDepth 100000 in
set_option maxHeartbeats 1600000 in
theorem PFirstOf_any (F : Nat → Prop) (A : Option Addr) (c m : Nat) (ps : List Pr) (fid : FuncId) (cap : Value) (so : Pr → Bool) (w : World) (hr : Row F w A ps) (hc : ps.length ≤ 1000000)
    (hcl : ∀ (W : World) (k : Dg) (v : List UInt8) (V : Option Addr) (d : Nat), Below w.heap.size w W → Calls Tryd.prog fid #[.agg (k.1.map bv ++ [Value.slice V v.length d]).toArray, cap] W fun e W' => e = .returned (.bool (so ⟨k, v⟩)) ∧ Below W.heap.size W W')
    (hfid : ∀ (args : Array Value) (W : World), (callFunc fid args).run Tryd.prog W = .ok (.enter fid args) W) (hp : Parts ps so m) :
    Calls Tryd.prog 66 #[.slice A ps.length c, .func (.func fid) #[] #[cap]] w fun e w' => e = .returned (.int .i64 (m : Int)) ∧ Below w.heap.size w w' := by
  have hu2 := Tryd.underlying26
  replace hp := hid hp
  replace hcl := hid hcl
  go_enter Tryd.func66, Tryd.ntmps66
  go_wp2
  go_loopw [5, 6] (fun x y wr => ∃ a b : Nat, a ≤ m ∧ m ≤ b ∧ b ≤ ps.length ∧ x = .int .i64 a ∧ y = .int .i64 b ∧ Below w.heap.size w wr) (fun x y _ => (intOf y).toNat - (intOf x).toNat)
  case atStart => exact ⟨0, ps.length, Nat.zero_le _, hp.out.1, Nat.le_refl _, rfl, rfl, Below.refl _ _⟩
  case round =>
    obtain ⟨a, b, ham, hmb, hbl, rfl, rfl, hb⟩ := hrel
    by_cases hlt : a < b
    · have hh : ∃ h : Nat, a + (b - a) / 2 = h ∧ a ≤ h ∧ h < b := ⟨_, rfl, by omega, by omega⟩
      obtain ⟨h, hh1, hh2, hh3⟩ := hh
      have hq : IntKind.i64.wrap ((b : Int) - a) = ((b - a : Nat) : Int) := by rw [IntKind.wrap_i64]; omega
      have hq2 : (a : Int) + ((b - a : Nat) : Int) / 2 = (h : Int) := by omega
      have hhl : h < ps.length := by omega
      obtain ⟨b0, o0, hA, -, V, d, -, r2, h1, h2, h3⟩ := row_pr (hr.bel hb) hhl
      subst hA
      have hs := hid (sizePrP ps[h].k (.slice V ps[h].v.length d))
      have hlo := hp.out.2.1 h hhl
      have hhi := hp.out.2.2 h hhl
      have hps : ps[h] = ⟨ps[h].k, ps[h].v⟩ := rfl
      rw [hps] at hlo hhi
      generalize ps[h].k = k at *
      generalize ps[h].v = v at *
      obtain ⟨sb, hsb⟩ : ∃ sb, so ⟨k, v⟩ = sb := ⟨_, rfl⟩
      rw [hsb] at hlo hhi
      have hC := fun W hW => hcl.out W k v V d hW
      rw [hsb] at hC
      replace hC := hid hC
      replace hlo := hid hlo
      replace hhi := hid hhi
      replace hh1 := hid hh1
      clear hps hsb hr hcl h3 hp
      go_wp2_with (first
        | ((with_reducible refine wpList_load_rng rfl 26 (.tmp 22) rfl b0 (o0 + h * 33) rfl (k.1.map bv ++ [.slice V v.length d]) _ ?_ hu2 rfl hs.out ?_); exact r2))
      refine (hC.out wr hb).mono ?_
      rintro e w1 ⟨rfl, hb1⟩
      have B1 := hb.trans (hb1.mono hb.size)
      cases sb
      · have hmh : Hid (h < m) := by
          rcases Nat.lt_or_ge h m with h1 | h1
          · exact h1
          · have := hhi.out h1; cases this
        clear hlo hhi hC
        go_wp2
        go_roundw
        case rel => exact ⟨h + 1, b, hmh.out, hmb, hbl, by go_num, rfl, B1⟩
        case measure => simp [intOf]; omega
      · have hmh : Hid (m ≤ h) := by
          rcases Nat.lt_or_ge h m with h1 | h1
          · have := hlo.out h1; cases this
          · exact h1
        clear hlo hhi hC
        go_wp2
        go_roundw
        case rel => exact ⟨a, h, ham, hmh.out, by omega, rfl, rfl, B1⟩
        case measure => simp [intOf]; omega
    · have hma : (a : Int) = m := by omega
      replace hma := hid hma
      go_wp2
      go_ret
      exact ⟨ret_iP hma.out, hb⟩

theorem fidFind : ∀ (args : Array Value) (W : World), (callFunc 67 args).run Tryd.prog W = .ok (.enter 67 args) W := fun _ _ => by kernel_rfl
set_option maxRecDepth 100000 in
set_option maxHeartbeats 1600000 in
theorem PFindC_any (k kq : Dg) (v : List UInt8) (V : Option Addr) (d g : Nat) (w : World) (hg : w.rangeAt g 0 (k.1.map bv)) :
    Calls Tryd.prog 67 #[.agg (kq.1.map bv ++ [Value.slice V v.length d]).toArray, .pointer (some ⟨g, 0, none⟩)] w fun e w' => e = .returned (.bool (!ahead kq.1 k.1)) ∧ Below w.heap.size w w' := by
  have hu := Tryd.underlying23
  have hi1 := hid (sizeDgP kq)
  have hi2 := hid (sizeDgP k)
  have d1 := heap_alloc_new w (.cells (kq.1.map bv ++ [Value.slice V v.length d]).toArray 26)
  have B1 := ext_alloc w (.cells (kq.1.map bv ++ [Value.slice V v.length d]).toArray 26)
  have r1 := hid (block_pr d1).2.1
  have r2 := hid (rangeBel2 B1 hg)
  obtain ⟨ab, hab⟩ : ∃ ab, ahead kq.1 k.1 = ab := ⟨_, rfl⟩
  rw [hab]
  replace hab := hid hab
  clear d1 hg
  generalize kq.1.map bv ++ [Value.slice V v.length d] = ds at *
  go_enter Tryd.func67, Tryd.ntmps67
  go_wp2_with (first
    | ((with_reducible refine wpList_load_rng rfl 23 (.tmp 4) rfl w.heap.size 0 rfl (kq.1.map bv) _ ?_ hu rfl hi1.out ?_); exact r1.out)
    | ((with_reducible refine wpList_load_rng rfl 23 (.tmp 1) rfl g 0 rfl (k.1.map bv) _ ?_ hu rfl hi2.out ?_); exact r2.out))
  refine (PAhead_of kq k _ _ ab _ rfl rfl hab.out).mono ?_
  rintro e w3 ⟨rfl, hb3⟩
  go_wp2
  go_ret
  exact ⟨rfl, B1.trans (hb3.mono B1.size)⟩

theorem parts_cnt {ps : List Pr} (h : Srt ps) (k : Dg) : Parts ps (fun p => !ahead p.k.1 k.1) (cnt ps k) := by
  refine ⟨cnt_le ps k, fun i hi hlt => ?_, fun i hi hge => ?_⟩
  · have : ps[i] ∈ ps.take (cnt ps k) := by
      rw [List.mem_take_iff_getElem]
      exact ⟨i, by omega, rfl⟩
    simp [cnt_take k _ this]
  · have : ps[i] ∈ ps.drop (cnt ps k) := by
      rw [List.mem_drop_iff_getElem]
      exact ⟨i - cnt ps k, by omega, by congr 1; omega⟩
    simp [cnt_drop h k _ this]

set_option maxRecDepth 100000 in
set_option maxHeartbeats 1600000 in
theorem PFind_any (F : Nat → Prop) (A : Option Addr) (c n : Nat) (ps : List Pr) (k : Dg) (w : World) (hr : Row F w A ps) (hn : n = ps.length) (hc : ps.length ≤ 1000000) (hS : Srt ps) :
    Calls Tryd.prog 41 #[.slice A n c, .agg (k.1.map bv).toArray] w fun e w' => e = .returned (.tuple #[.int .i64 (cnt ps k : Int), .bool (hasP ps k)]) ∧ Below w.heap.size w w' := by
  subst hn
  have hu := Tryd.underlying23
  have hbox : (w.alloc (.cells (k.1.map bv).toArray 23)).rangeAt w.heap.size 0 (k.1.map bv) := rangeOf (heap_alloc_new w _)
  have b0 := ext_alloc w (.cells (k.1.map bv).toArray 23)
  have hr0 := hr.bel b0
  have hi := hid (sizeDgP k)
  have hpc := parts_cnt hS k
  have hcl := fun W hW => PFirstOf_any F A c (cnt ps k) ps 67 (.pointer (some ⟨w.heap.size, 0, none⟩)) (fun p => !ahead p.k.1 k.1) W hW hc
  have hC := fun W hW hx => hcl W hW (fun W' kq v V d hW' => PFindC_any k kq v V d w.heap.size W' (rangeBel2 hW' hx)) fidFind hpc
  have hle := cnt_le ps k
  have hat := has_at hS k
  have z := k.2
  clear hcl hpc hS hr
  generalize hds : k.1.map bv = ds at *
  replace hds := hid hds
  generalize hm : cnt ps k = m at *
  replace hC := hid hC
  replace hat := hid hat
  clear hm
  generalize hasP ps k = hv at *
  go_enter Tryd.func41, Tryd.ntmps41
  go_wp2_with fail
  refine (hC.out _ hr0 hbox).mono ?_
  rintro e w1 ⟨rfl, hb1⟩
  have hbx := rangeBel2 hb1 hbox
  have hr1 := hr0.bel hb1
  have B1 := b0.trans (hb1.mono b0.size)
  by_cases hlt : m < ps.length
  · obtain ⟨b, o, hA, r1, -⟩ := row_pr hr1 hlt
    subst hA
    obtain ⟨eb, heb⟩ : ∃ eb, decide (ps[m].k = k) = eb := ⟨_, rfl⟩
    have hE : ∀ W, (Op.equalIn 10000 23 (.agg (ps[m].k.1.map bv).toArray) (.agg ds.toArray)).run Tryd.prog W = .ok eb W := fun W => by
      rw [← hds.out, eq_dig2 _ _ ps[m].k.2 k.2 W]
      congr 1
      rw [← heb]
      exact decide_eq_decide.2 ⟨fun e => Subtype.ext e, fun e => by rw [e]⟩
    have hh : hv = eb := by
      rw [← heb, Bool.eq_iff_iff, hat.out, decide_eq_true_eq]
      exact ⟨fun ⟨_, h⟩ => h, fun h => ⟨hlt, h⟩⟩
    have hi1 := hid (sizeDgP ps[m].k)
    subst hh
    clear heb hat hC hr0 hr1
    generalize ps[m].k = kq at *
    have z1 := kq.2
    go_wp2
    refine wp_region_noPanic ?_
    refine wp_region_held_drew (S := fun w' => Below w1.heap.size w1 w') (by kernel_rfl) ?_ (fun hHeld => ?_)
    · exact bel_drew w1
    refine' wpAnyH_take (i := 0) (oi := _) (v := ?_) rfl (by kernel_rfl) (by kernel_rfl) (by kernel_rfl) (fun _ _ _ h => h) (Or.inl ⟨by rfl, ?_⟩) (by assumption) ?_
    rotate_left
    · intro W hSw
      go_simp
      first | done | (with_reducible rfl)
    try simp only [Act.put, sQa, sQb, sQc, gQa, gQb, gQc]
    refine' wpAnyH_take (i := 1) (oi := _) (v := ?_) rfl (by kernel_rfl) (by kernel_rfl) (by kernel_rfl) (fun _ _ _ h => h) (Or.inl ⟨by rfl, ?_⟩) (by assumption) ?_
    rotate_left
    · intro W hSw
      go_simp
      first | done | (with_reducible rfl)
    try simp only [Act.put, sQa, sQb, sQc, gQa, gQb, gQc]
    refine' wpAnyH_take (i := 2) (oi := _) (v := ?_) rfl (by kernel_rfl) (by kernel_rfl) (by kernel_rfl) (fun _ _ _ h => h) (Or.inl ⟨by rfl, ?_⟩) (by assumption) ?_
    rotate_left
    · intro W hSw
      go_simp
      first | done | (with_reducible rfl)
    try simp only [Act.put, sQa, sQb, sQc, gQa, gQb, gQc]
    refine' wpAnyH_take (i := 3) (oi := _) (v := ?_) rfl (by kernel_rfl) (by kernel_rfl) (by kernel_rfl) (fun _ _ _ h => h) (Or.inl ⟨by rfl, ?_⟩) (by assumption) ?_
    rotate_left
    · intro W hSw
      go_simp
      first | done | (with_reducible rfl)
    try simp only [Act.put, sQa, sQb, sQc, gQa, gQb, gQc]
    refine' wpAnyH_take (i := 4) (oi := _) (v := ?_) rfl (by kernel_rfl) (by kernel_rfl) (by kernel_rfl) (fun _ _ _ h => h) (Or.inl ⟨by rfl, ?_⟩) (by assumption) ?_
    rotate_left
    · intro W hSw
      go_simp
      first | done | (with_reducible rfl)
    try simp only [Act.put, sQa, sQb, sQc, gQa, gQb, gQc]
    refine' wpAnyH_take (i := 5) (oi := _) (v := ?_) rfl (by kernel_rfl) (by kernel_rfl) (by kernel_rfl) (fun _ _ _ h => h) (Or.inl ⟨by rfl, ?_⟩) (by assumption) ?_
    rotate_left
    · intro W hSw
      go_simp
      first | done | (with_reducible rfl)
    try simp only [Act.put, sQa, sQb, sQc, gQa, gQb, gQc]
    refine' wpAnyH_take (i := 6) (oi := _) (v := ?_) rfl (by kernel_rfl) (by kernel_rfl) (by kernel_rfl) (fun _ _ _ h => h) (Or.inl ⟨by rfl, ?_⟩) (by assumption) ?_
    rotate_left
    · intro W hSw
      go_simp
      first | done | (with_reducible rfl)
    try simp only [Act.put, sQa, sQb, sQc, gQa, gQb, gQc]
    refine' wpAnyH_take (i := 7) (oi := _) (v := ?_) rfl (by kernel_rfl) (by kernel_rfl) (by kernel_rfl) (fun _ _ _ h => h) (Or.inl ⟨by rfl, ?_⟩) (by assumption) ?_
    rotate_left
    · intro W hSw
      go_simp
      first | done | (with_reducible rfl)
    try simp only [Act.put, sQa, sQb, sQc, gQa, gQb, gQc]
    refine' wpAnyH_take (i := 8) (oi := _) (v := ?_) rfl (by kernel_rfl) (by kernel_rfl) (by kernel_rfl) (fun _ _ _ h => h) (Or.inl ⟨by rfl, ?_⟩) (by assumption) ?_
    rotate_left
    · intro W hSw
      go_simp
      first | done | (with_reducible rfl)
    try simp only [Act.put, sQa, sQb, sQc, gQa, gQb, gQc]
    refine' wpAnyH_take (i := 9) (oi := _) (v := ?_) rfl (by kernel_rfl) (by kernel_rfl) (by kernel_rfl) (fun _ _ _ h => h) (Or.inl ⟨by rfl, ?_⟩) (by assumption) ?_
    rotate_left
    · intro W hSw
      go_simp
      first | done | (with_reducible rfl)
    try simp only [Act.put, sQa, sQb, sQc, gQa, gQb, gQc]
    refine' wpAnyH_take (i := 10) (oi := _) (v := _) rfl (by kernel_rfl) (by kernel_rfl) (by kernel_rfl) (fun _ _ _ h => h) (yieldsIf_load_mid (by rfl) _ _ rfl _ _ rfl _ _ (fun _ h => rangeBel2 h r1) hu rfl hi1.out) (by assumption) ?_
    try simp only [Act.put, sQa, sQb, sQc, gQa, gQb, gQc]
    refine' wpAnyH_take (i := 11) (oi := _) (v := _) rfl (by kernel_rfl) (by kernel_rfl) (by kernel_rfl) (fun _ _ _ h => h) (yieldsIf_load_mid (by rfl) _ _ rfl _ _ rfl _ _ (fun _ h => rangeBel2 h hbx) hu rfl hi.out) (by assumption) ?_
    try simp only [Act.put, sQa, sQb, sQc, gQa, gQb, gQc]
    refine' wpAnyH_take (i := 12) (oi := _) (v := ?_) rfl (by kernel_rfl) (by kernel_rfl) (by kernel_rfl) (fun _ _ _ h => h) (Or.inl ⟨by rfl, ?_⟩) (by assumption) ?_
    rotate_left
    · intro W hSw
      go_simp
      first | done | (with_reducible rfl)
    try simp only [Act.put, sQa, sQb, sQc, gQa, gQb, gQc]
    refine' wpAnyH_take (i := 13) (oi := _) (v := ?_) rfl (by kernel_rfl) (by kernel_rfl) (by kernel_rfl) (fun _ _ _ h => h) (Or.inl ⟨by rfl, ?_⟩) (by assumption) ?_
    rotate_left
    · intro W hSw
      go_simp
      first | done | (with_reducible rfl)
    try simp only [Act.put, sQa, sQb, sQc, gQa, gQb, gQc]
    refine' wpAnyH_take (i := 14) (oi := _) (v := ?_) rfl (by kernel_rfl) (by kernel_rfl) (by kernel_rfl) (fun _ _ _ h => h) (Or.inl ⟨by rfl, ?_⟩) (by assumption) ?_
    rotate_left
    · intro W hSw
      go_simp
      first | done | (with_reducible rfl)
    try simp only [Act.put, sQa, sQb, sQc, gQa, gQb, gQc]
    refine' wpAnyH_take (i := 15) (oi := _) (v := ?_) rfl (by kernel_rfl) (by kernel_rfl) (by kernel_rfl) (fun _ _ _ h => h) (Or.inl ⟨by rfl, ?_⟩) (by assumption) ?_
    rotate_left
    · intro W hSw
      go_simp
      first | done | (with_reducible rfl)
    try simp only [Act.put, sQa, sQb, sQc, gQa, gQb, gQc]
    refine wpAnyH_done (by kernel_rfl) ?_ _
    refine NoPanic.normal ?_
    go_wp2
    go_ret2
    exact ⟨rfl, B1.trans (hHeld.mono B1.size)⟩
  · have hh : hv = false := by
      rw [← Bool.not_eq_true, hat.out]
      rintro ⟨h, _⟩
      exact hlt h
    subst hh
    clear hat hC hr0 hr1
    go_wp2
    refine wp_region_noPanic ?_
    refine wp_region_held_drew (S := fun w' => Below w1.heap.size w1 w') (by kernel_rfl) ?_ (fun hHeld => ?_)
    · exact bel_drew w1
    refine' wpAnyH_take (i := 0) (oi := _) (v := ?_) rfl (by kernel_rfl) (by kernel_rfl) (by kernel_rfl) (fun _ _ _ h => h) (Or.inl ⟨by rfl, ?_⟩) (by assumption) ?_
    rotate_left
    · intro W hSw
      go_simp
      first | done | (with_reducible rfl)
    try simp only [Act.put, sQa, sQb, sQc, gQa, gQb, gQc]
    refine' wpAnyH_take (i := 1) (oi := _) (v := ?_) rfl (by kernel_rfl) (by kernel_rfl) (by kernel_rfl) (fun _ _ _ h => h) (Or.inl ⟨by rfl, ?_⟩) (by assumption) ?_
    rotate_left
    · intro W hSw
      go_simp
      first | done | (with_reducible rfl)
    try simp only [Act.put, sQa, sQb, sQc, gQa, gQb, gQc]
    refine' wpAnyH_take (i := 2) (oi := _) (v := ?_) rfl (by kernel_rfl) (by kernel_rfl) (by kernel_rfl) (fun _ _ _ h => h) (Or.inl ⟨by rfl, ?_⟩) (by assumption) ?_
    rotate_left
    · intro W hSw
      go_simp
      first | done | (with_reducible rfl)
    try simp only [Act.put, sQa, sQb, sQc, gQa, gQb, gQc]
    refine' wpAnyH_take (i := 3) (oi := _) (v := ?_) rfl (by kernel_rfl) (by kernel_rfl) (by kernel_rfl) (fun _ _ _ h => h) (Or.inl ⟨by rfl, ?_⟩) (by assumption) ?_
    rotate_left
    · intro W hSw
      go_simp
      first | done | (with_reducible rfl)
    try simp only [Act.put, sQa, sQb, sQc, gQa, gQb, gQc]
    refine' wpAnyH_take (i := 4) (oi := _) (v := ?_) rfl (by kernel_rfl) (by kernel_rfl) (by kernel_rfl) (fun _ _ _ h => h) (Or.inl ⟨by rfl, ?_⟩) (by assumption) ?_
    rotate_left
    · intro W hSw
      go_simp
      first | done | (with_reducible rfl)
    try simp only [Act.put, sQa, sQb, sQc, gQa, gQb, gQc]
    refine' wpAnyH_take (i := 5) (oi := _) (v := ?_) rfl (by kernel_rfl) (by kernel_rfl) (by kernel_rfl) (fun _ _ _ h => h) (Or.inl ⟨by rfl, ?_⟩) (by assumption) ?_
    rotate_left
    · intro W hSw
      go_simp
      first | done | (with_reducible rfl)
    try simp only [Act.put, sQa, sQb, sQc, gQa, gQb, gQc]
    refine' wpAnyH_take (i := 6) (oi := _) (v := _) rfl (by kernel_rfl) (by kernel_rfl) (by kernel_rfl) (fun _ _ _ h => h) (Or.inr ⟨by rfl, rfl⟩) (by assumption) ?_
    try simp only [Act.put, sQa, sQb, sQc, gQa, gQb, gQc]
    refine' wpAnyH_take (i := 7) (oi := _) (v := _) rfl (by kernel_rfl) (by kernel_rfl) (by kernel_rfl) (fun _ _ _ h => h) (Or.inr ⟨by rfl, rfl⟩) (by assumption) ?_
    try simp only [Act.put, sQa, sQb, sQc, gQa, gQb, gQc]
    refine' wpAnyH_take (i := 8) (oi := _) (v := _) rfl (by kernel_rfl) (by kernel_rfl) (by kernel_rfl) (fun _ _ _ h => h) (Or.inr ⟨by rfl, rfl⟩) (by assumption) ?_
    try simp only [Act.put, sQa, sQb, sQc, gQa, gQb, gQc]
    refine' wpAnyH_take (i := 9) (oi := _) (v := _) rfl (by kernel_rfl) (by kernel_rfl) (by kernel_rfl) (fun _ _ _ h => h) (Or.inr ⟨by rfl, rfl⟩) (by assumption) ?_
    try simp only [Act.put, sQa, sQb, sQc, gQa, gQb, gQc]
    refine' wpAnyH_take (i := 10) (oi := _) (v := _) rfl (by kernel_rfl) (by kernel_rfl) (by kernel_rfl) (fun _ _ _ h => h) (Or.inr ⟨by rfl, rfl⟩) (by assumption) ?_
    try simp only [Act.put, sQa, sQb, sQc, gQa, gQb, gQc]
    refine' wpAnyH_take (i := 11) (oi := _) (v := _) rfl (by kernel_rfl) (by kernel_rfl) (by kernel_rfl) (fun _ _ _ h => h) (Or.inr ⟨by rfl, rfl⟩) (by assumption) ?_
    try simp only [Act.put, sQa, sQb, sQc, gQa, gQb, gQc]
    refine' wpAnyH_take (i := 12) (oi := _) (v := _) rfl (by kernel_rfl) (by kernel_rfl) (by kernel_rfl) (fun _ _ _ h => h) (Or.inr ⟨by rfl, rfl⟩) (by assumption) ?_
    try simp only [Act.put, sQa, sQb, sQc, gQa, gQb, gQc]
    refine' wpAnyH_take (i := 13) (oi := _) (v := ?_) rfl (by kernel_rfl) (by kernel_rfl) (by kernel_rfl) (fun _ _ _ h => h) (Or.inl ⟨by rfl, ?_⟩) (by assumption) ?_
    rotate_left
    · intro W hSw
      go_simp
      first | done | (with_reducible rfl)
    try simp only [Act.put, sQa, sQb, sQc, gQa, gQb, gQc]
    refine' wpAnyH_take (i := 14) (oi := _) (v := ?_) rfl (by kernel_rfl) (by kernel_rfl) (by kernel_rfl) (fun _ _ _ h => h) (Or.inl ⟨by rfl, ?_⟩) (by assumption) ?_
    rotate_left
    · intro W hSw
      go_simp
      first | done | (with_reducible rfl)
    try simp only [Act.put, sQa, sQb, sQc, gQa, gQb, gQc]
    refine' wpAnyH_take (i := 15) (oi := _) (v := ?_) rfl (by kernel_rfl) (by kernel_rfl) (by kernel_rfl) (fun _ _ _ h => h) (Or.inl ⟨by rfl, ?_⟩) (by assumption) ?_
    rotate_left
    · intro W hSw
      go_simp
      first | done | (with_reducible rfl)
    try simp only [Act.put, sQa, sQb, sQc, gQa, gQb, gQc]
    refine wpAnyH_done (by kernel_rfl) ?_ _
    refine NoPanic.normal ?_
    go_wp2
    go_ret2
    exact ⟨rfl, B1.trans (hHeld.mono B1.size)⟩

theorem may_srtP {ps : List Pr} (h : mayP ps = true) : Srt ps ∧ ps.length ≤ 512 ∧ ∀ p ∈ ps, p.v.length ≤ 64 := by
  unfold mayP at h
  simp at h
  have h2 := chain_srt ps h.2
  refine ⟨h2.1, h.1, fun p hp => ?_⟩
  have := h2.2 p hp
  unfold valB at this
  simp at this
  exact this.2
end Go.Proofs.YtfjkcdccnbggnaaDoor

/- (PairsE)
  Contracts of the landed package pairs: Get.
-/
namespace Go.Proofs.YtfjkcdccnbggnaaDoor
open Go.RowKit
set_option linter.unusedVariables false
set_option linter.unusedSimpArgs false

theorem mGet_noP {ps : List Pr} {k : Dg} (h : mayP ps = false ∨ hasP ps k = false) : mGetB ps k = false ∧ mGetL ps k = [] := by
  have : mGetB ps k = false := by
    unfold mGetB
    rcases h with h | h <;> rw [h]
    · rfl
    · exact Bool.and_false _
  exact ⟨this, by unfold mGetL; rw [this]; rfl⟩
theorem mGet_yesP {ps : List Pr} {k : Dg} (h : mayP ps = true) {j : Nat} (hj : j < ps.length) (hk : ps[j].k = k) : mGetB ps k = true ∧ mGetL ps k = ps[j].v := by
  have h2 : hasP ps k = true := hasP_mem.2 ⟨_, List.getElem_mem hj, hk⟩
  have : mGetB ps k = true := by unfold mGetB; rw [h, h2]; rfl
  refine ⟨this, ?_⟩
  unfold mGetL
  rw [if_pos this, ← hk, getV_mem (may_srtP h).1 (List.getElem_mem hj)]

set_option maxRecDepth 100000 in
set_option maxHeartbeats 1600000 in
theorem PGet_any (F : Nat → Prop) (A : Option Addr) (c n : Nat) (ps : List Pr) (k : Dg) (w : World) (hr : Row F w A ps) (hn : n = ps.length) (hc : ps.length ≤ 1000000) :
    Calls Tryd.prog 12 #[.slice A n c, .agg (k.1.map bv).toArray] w fun e w' => ∃ A' c', e = .returned (.tuple #[.slice A' (mGetL ps k).length c', .bool (mGetB ps k)]) ∧ Own 5 w' w.heap.size A' c' (mGetL ps k) ∧ Below w.heap.size w w' := by
  subst hn
  have hbox : (w.alloc (.cells (k.1.map bv).toArray 23)).rangeAt w.heap.size 0 (k.1.map bv) := rangeOf (heap_alloc_new w _)
  have b0 := ext_alloc w (.cells (k.1.map bv).toArray 23)
  have hM := fun W hW => PCheck_any F A c ps.length ps W hW rfl (by omega)
  have hF := fun W hW hS => PFind_any F A c ps.length ps k W hW rfl hc hS
  have hu := Tryd.underlying23
  have hi := sizeDgP k
  have hr0 := hr.bel b0
  rcases hm : mayP ps with _ | _
  · rw [(mGet_noP (k := k) (.inl hm)).1, (mGet_noP (k := k) (.inl hm)).2]
    rw [hm, if_neg (by decide)] at hM
    replace hM := hid hM
    clear hF hm
    generalize (k.1.map bv) = ds at *
    go_enter Tryd.func12, Tryd.ntmps12
    go_wp2_with fail
    refine (hM.out _ hr0).mono ?_
    rintro e w1 ⟨rfl, hb1⟩
    go_wp2
    go_ret2
    exact ⟨none, 0, rfl, Own.nil _ _, b0.trans (hb1.mono b0.size)⟩
  · rw [hm, if_pos rfl] at hM
    have hS := (may_srtP hm).1
    have hat := has_at hS k
    rcases hh : hasP ps k with _ | _
    · rw [(mGet_noP (k := k) (.inr hh)).1, (mGet_noP (k := k) (.inr hh)).2]
      rw [hh] at hF
      have hF2 := fun W hW => hF W hW hS
      replace hM := hid hM
      replace hF2 := hid hF2
      replace hi := hid hi
      clear hm hh hF hat hS
      generalize (k.1.map bv) = ds at *
      generalize cnt ps k = m at *
      go_enter Tryd.func12, Tryd.ntmps12
      go_wp2_with fail
      refine (hM.out _ hr0).mono ?_
      rintro e w1 ⟨rfl, hb1⟩
      have hbx := rangeBel2 hb1 hbox
      have hr1 := hr0.bel hb1
      go_wp2_with (first
        | ((with_reducible refine wpList_load_rng rfl 23 (.tmp 3) rfl w.heap.size 0 rfl ds _ ?_ hu rfl hi.out ?_); exact hbx))
      refine (hF2.out _ hr1).mono ?_
      rintro e w2 ⟨rfl, hb2⟩
      go_wp2
      go_ret2
      exact ⟨none, 0, rfl, Own.nil _ _, b0.trans ((hb1.trans (hb2.mono hb1.size)).mono b0.size)⟩
    · obtain ⟨hj, hk⟩ := hat.1 hh
      rw [(mGet_yesP hm hj hk).1, (mGet_yesP hm hj hk).2]
      rw [hh] at hF
      have hF2 := fun W hW => hF W hW hS
      have hv64 := (may_srtP hm).2.2 _ (List.getElem_mem hj)
      clear hF hat hS hk
      generalize cnt ps k = j at *
      obtain ⟨b, o, hA, -, A', c', hcell, -, h1, h2, h3⟩ := row_pr hr0 hj
      subst hA
      have hrd := h3.rd
      replace hM := hid hM
      replace hF2 := hid hF2
      replace hi := hid hi
      clear hm hh h3
      generalize (k.1.map bv) = ds at *
      generalize ps[j].v = v at *
      go_enter Tryd.func12, Tryd.ntmps12
      go_wp2_with fail
      refine (hM.out _ hr0).mono ?_
      rintro e w1 ⟨rfl, hb1⟩
      have hbx := rangeBel2 hb1 hbox
      have hr1 := hr0.bel hb1
      go_wp2_with (first
        | ((with_reducible refine wpList_load_rng rfl 23 (.tmp 3) rfl w.heap.size 0 rfl ds _ ?_ hu rfl hi.out ?_); exact hbx))
      refine (hF2.out _ hr1).mono ?_
      rintro e w2 ⟨rfl, hb2⟩
      have B3 := hb1.trans (hb2.mono hb1.size)
      have hcell3 := (B3.cell (World.block_lt_of_cell? _ _ hcell)).trans hcell
      have hrd3 := hrd.bel B3
      clear hcell hrd hb1 hb2
      go_wp2_with fail
      refine (Clone_any A' v.length c' v _ hrd3 rfl (by omega)).mono ?_
      rintro e w4 ⟨A4, c4, rfl, ho4, hb4⟩
      go_wp2
      go_ret2
      exact ⟨A4, c4, rfl, ho4.base (Nat.le_trans b0.size B3.size), b0.trans ((B3.trans (hb4.mono B3.size)).mono b0.size)⟩
end Go.Proofs.YtfjkcdccnbggnaaDoor

/- (PairsB)
  Contracts of the landed package pairs: Twin.
-/
namespace Go.Proofs.YtfjkcdccnbggnaaDoor
open Go.RowKit
set_option linter.unusedVariables false
set_option linter.unusedSimpArgs false

set_option maxRecDepth 100000 in
set_option maxHeartbeats 1600000 in
theorem PTwinP_any (F : Nat → Prop) (A : Option Addr) (c n : Nat) (ps : List Pr) (w : World) (hr : Row F w A ps) (hn : n = ps.length) (hc : ps.length ≤ 1000000) (hv : ∀ p ∈ ps, p.v.length ≤ 1000000) :
    Calls Tryd.prog 42 #[.slice A n c] w fun e w' => ∃ A' c', e = .returned (.slice A' ps.length c') ∧ OwnR 26 w' w.heap.size A' c' ps ∧ Below w.heap.size w w' := by
  subst hn
  have hu := Tryd.underlying23
  have hu2 := Tryd.underlying26
  go_enter Tryd.func42, Tryd.ntmps42
  go_wp2
  go_loopw [3, 8] (fun v i wr => ∃ (j : Nat) (A' : Option Addr) (c' : Nat), j ≤ ps.length ∧ i = .int .i64 j ∧ v = .slice A' (ps.take j).length c' ∧ OwnR 26 wr w.heap.size A' c' (ps.take j) ∧ Below w.heap.size w wr) (fun _ i _ => ps.length - (intOf i).toNat)
  case atStart => exact ⟨0, none, 0, Nat.zero_le _, rfl, rfl, OwnR.nil _ _, Below.refl _ _⟩
  case round =>
    obtain ⟨j, A0, c0, hj, rfl, rfl, ho, hb⟩ := hrel
    have hx : (ps.take j).length ≤ j := by rw [List.length_take]; omega
    by_cases hlt : j < ps.length
    · have E := hid (List.take_succ_eq_append_getElem hlt)
      have hv1 := hv _ (List.getElem_mem hlt)
      obtain ⟨b, o, hA, -, A', c', -, r2, h1, h2, h3⟩ := row_pr (hr.bel hb) hlt
      subst hA
      have hrd := h3.rd
      have hs := hid (sizePrP ps[j].k (.slice A' ps[j].v.length c'))
      have hi := sizeDgP ps[j].k
      have hlen : Hid ((ps[j].k.1.map bv ++ [Value.slice A' ps[j].v.length c']).length = 33) := len_pr _ _
      have hone : Hid ((ps[j].k.1.map bv ++ [Value.slice A' ps[j].v.length c']).toArray.all (·.oneCell') = true) := all_oneCell_toArray (Enc.one (rep_pr_mk (F := F) (w := wr) ps[j].k ps[j].v A' c' h1 h2 h3))
      have hp : ps[j] = ⟨ps[j].k, ps[j].v⟩ := rfl
      rw [hp] at E
      generalize hy : ps.take (j + 1) = y at *
      replace hy := hid hy
      generalize ps.take j = x at *
      generalize ps[j].k = k at *
      generalize ps[j].v = v at *
      clear hp hr h3
      replace hi := hid hi
      replace hx := hid hx
      have hbs := hb.size
      go_wp2_with (first
        | ((with_reducible refine wpList_load_rng rfl 26 (.tmp 10) rfl b (o + j * 33) rfl (k.1.map bv ++ [.slice A' v.length c']) _ ?_ hu2 rfl hs.out ?_); exact r2)
        | (with_reducible refine wpList_alloc_row rfl 26 rfl zPrC zInfoPr ?_)
        | ((with_reducible refine wpList_store_row rfl 26 (.tmp 5) (.tmp 11) rfl wr.heap.size (k.1.map bv ++ [Value.slice A' v.length c'] : List Value).toArray rfl ?_ 26 zPrC ?_ ?_ ?_ ?_ ?_); rfl; exact heap_alloc_new wr _; exact hs.out; exact zSizePr.trans hlen.out.symm; exact hone.out; intro w4 hg4 hb4 hs4))
      have B4 := below_var hb4
      have hblk := hid (block_pr hg4).2.2
      have hkey : ∀ W : World, W.rangeAt wr.heap.size 0 (k.1.map bv ++ [Value.slice A' v.length c']) → W.rangeAt wr.heap.size 0 (k.1.map bv) ∧ W.cell? ⟨wr.heap.size, 32, none⟩ = some (Value.slice A' v.length c') := fun W h => ⟨fun i u hu => h i u (by rw [List.getElem?_append_left (List.getElem?_eq_some_iff.1 hu).1]; exact hu), by
        have := h 32 _ (by rw [List.getElem?_append_right (by rw [List.length_map]; exact Nat.le_of_eq k.2), List.length_map, k.2]; rfl)
        rwa [Nat.zero_add] at this⟩
      have B04 := hid (hb.trans (B4.mono hbs))
      have hrd4 := hrd.bel B4
      have hs5 : wr.heap.size < w4.heap.size := block_lt hg4
      have hA0 := hid ho.blk
      replace ho := ho.bel B4
      replace hkey := hid hkey
      clear hg4 hb4 hs4 r2 hone hlen hs hu2 hrd
      refine wp_region_noPanic ?_
      refine wp_region_held_drew (S := fun W => Below w.heap.size w W ∧ W.rangeAt wr.heap.size 0 (k.1.map bv ++ [Value.slice A' v.length c'])) (by kernel_rfl) ?_ (fun hHeld => ?_)
      · exact ⟨below_drewN B04.out 1, hblk.out⟩
      refine' wpAnyH_take (i := 0) (oi := _) (v := ?_) rfl (by kernel_rfl) (by kernel_rfl) (by kernel_rfl) (fun _ _ _ h => h) (Or.inl ⟨by rfl, ?_⟩) (by assumption) ?_
      rotate_left
      · intro W hSw
        go_simp
        first | done | (with_reducible rfl)
      try simp only [Act.put, sQa, sQb, sQc, gQa, gQb, gQc]
      refine' wpAnyH_take (i := 1) (oi := _) (v := ?_) rfl (by kernel_rfl) (by kernel_rfl) (by kernel_rfl) (fun _ _ _ h => h) (Or.inl ⟨by rfl, ?_⟩) (by assumption) ?_
      rotate_left
      · intro W hSw
        go_simp
        first | done | (with_reducible rfl)
      try simp only [Act.put, sQa, sQb, sQc, gQa, gQb, gQc]
      refine' wpAnyH_take (i := 2) (oi := _) (v := _) rfl (by kernel_rfl) (by kernel_rfl) (by kernel_rfl) (fun _ _ _ h => h) (yieldsIf_load_mid (by rfl) _ _ rfl _ _ rfl _ _ (fun _ h => (hkey.out _ h.2).1) hu rfl hi.out) (by assumption) ?_
      try simp only [Act.put, sQa, sQb, sQc, gQa, gQb, gQc]
      refine' wpAnyH_take (i := 3) (oi := _) (v := ?_) rfl (by kernel_rfl) (by kernel_rfl) (by kernel_rfl) (fun _ _ _ h => h) (Or.inl ⟨by rfl, ?_⟩) (by assumption) ?_
      rotate_left
      · intro W hSw
        go_simp
        first | done | (with_reducible rfl)
      try simp only [Act.put, sQa, sQb, sQc, gQa, gQb, gQc]
      refine' wpAnyH_take (i := 4) (oi := _) (v := ?_) rfl (by kernel_rfl) (by kernel_rfl) (by kernel_rfl) (fun _ _ _ h => h) (Or.inl ⟨by rfl, ?_⟩) (by assumption) ?_
      rotate_left
      · intro W hSw
        have hCell := (hkey.out _ hSw.2).2
        go_simp
        first | done | (with_reducible rfl)
      try simp only [Act.put, sQa, sQb, sQc, gQa, gQb, gQc]
      refine wpAnyH_ready (rs := [5]) (by kernel_rfl) (by simp) ?_
      refine AllReadyH.cons (o := _) rfl (fun K hK => ?_) AllReadyH.nil
      go_simp
      refine (Clone_any A' v.length c' v _ (hrd4.bel (bel_drew w4)) rfl (by omega)).mono ?_
      rintro e7 w7 ⟨A4, c4, rfl, ho4, hB⟩
      go_wp2_with fail
      refine hK.out _ _ ?_ (fun hHeld => ?_)
      · exact ⟨hHeld.1.trans (hB.mono hHeld.1.size), rangeBel2 hB hHeld.2⟩
      clear hK K
      try simp only [Act.put, sQa, sQb, sQc, gQa, gQb, gQc]
      refine' wpAnyH_take (i := 6) (oi := _) (v := _) rfl (by kernel_rfl) (by kernel_rfl) (by kernel_rfl) (fun _ _ _ h => h) (yieldsIf_build (by rfl) _ _ rfl _ _ (built_pr k (.slice A4 v.length c4) rfl) rfl) (by assumption) ?_
      try simp only [Act.put, sQa, sQb, sQc, gQa, gQb, gQc]
      refine wpAnyH_ready (rs := [7]) (by kernel_rfl) (by simp) ?_
      refine AllReadyH.cons (o := _) rfl (fun K hK => ?_) AllReadyH.nil
      refine step_buildOne slotPr (by decide) rfl (.tmp 18) rfl _ rfl (len_pr k _) ?_
      refine hK.out _ _ ?_ (fun hHeld => ?_)
      · exact ⟨hHeld.1.trans ((ext_alloc _ _).mono hHeld.1.size), rangeBel2 (ext_alloc _ _) hHeld.2⟩
      clear hK K
      try simp only [Act.put, sQa, sQb, sQc, gQa, gQb, gQc]
      refine wpAnyH_ready (rs := [8]) (by kernel_rfl) (by simp) ?_
      refine AllReadyH.cons (o := _) rfl (fun K hK => ?_) AllReadyH.nil
      refine step_appOwnG slotPr rfl (.tmp 12) (.tmp 19) rfl w.heap.size w.heap.size A0 _ x.length 1 c0 1 x [⟨k, v⟩] _ rfl rfl rfl rfl (((ho.bel (bel_drew w4)).bel hB).alloc _) (src_alloc (rep_pr_own ho4)) (apart_new ho.blk B04.out.size fun b hb => by obtain ⟨a, ha, rfl⟩ := hb; exact ⟨(ho4.soft a ha).1, (ho4.soft a ha).2.kept ((ext_alloc w7 _).block _ (ho4.soft a ha).2.lt)⟩) (by have := hx.out; simp; omega) hHeld.1.size ?_
      intro A5 c5 w5 ho5 hB5 hG5
      refine hK.out _ _ ?_ (fun hHeld => ?_)
      · exact ⟨hHeld.1.trans hB5, rangeAt_kept hHeld.2 fun hl => hG5.block _ hl (ne_map hA0.out)⟩
      clear hK K
      try simp only [Act.put, sQa, sQb, sQc, gQa, gQb, gQc]
      refine' wpAnyH_take (i := 9) (oi := _) (v := ?_) rfl (by kernel_rfl) (by kernel_rfl) (by kernel_rfl) (fun _ _ _ h => h) (Or.inl ⟨by rfl, ?_⟩) (by assumption) ?_
      rotate_left
      · intro W hSw
        go_simp
        first | done | (with_reducible rfl)
      try simp only [Act.put, sQa, sQb, sQc, gQa, gQb, gQc]
      refine wpAnyH_done (by kernel_rfl) ?_ _
      refine NoPanic.normal ?_
      rw [← E.out] at ho5
      go_wp2
      go_roundw
      case rel =>
        have hl : x.length + 1 = y.length := by rw [E.out]; simp
        rw [hl]
        rw [← hy.out] at ho5 ⊢
        exact ⟨j + 1, A5, c5, by omega, by go_num, rfl, ho5, hHeld.1⟩
      case measure => simp [intOf]; omega
    · obtain rfl : j = ps.length := by omega
      rw [List.take_length] at ho ⊢
      go_wp2
      go_ret
      exact ⟨A0, c0, rfl, ho, hb⟩
end Go.Proofs.YtfjkcdccnbggnaaDoor

/- (GrowPr)
  The library's slices.Grow at rows of pairs: the kit's contract over its closure; slices.Concat of such rows.
-/
namespace Go.Proofs.YtfjkcdccnbggnaaDoor
open Go.RowKit Go.Shelf
set_option linter.unusedVariables false
set_option linter.unusedSimpArgs false

def renG : Ren where
  f := fun x => match x with
    | 4 => 68
    | y => y
  t := fun x => match x with
    | 0 => 0
    | 3 => 3
    | 4 => 4
    | 9 => 9
    | 20 => 20
    | 22 => 28
    | 25 => 26
    | y => y
  g := fun x => x
theorem laysG : Lays8.n4 Tryd.prog renG where
  mixed := by kernel_rfl
  f4 := ⟨Tryd.f68.name, by kernel_rfl, by kernel_rfl⟩
  t0 := Tryd.underlying0
  a0 := Tryd.isAgg0
  z0 := Tryd.sizeOf0
  v0 := Tryd.zeroValue0
  t3 := Tryd.underlying3
  a3 := Tryd.isAgg3
  z3 := Tryd.sizeOf3
  v3 := Tryd.zeroValue3
  t4 := Tryd.underlying4
  a4 := Tryd.isAgg4
  z4 := Tryd.sizeOf4
  v4 := Tryd.zeroValue4
  t9 := Tryd.underlying9
  a9 := Tryd.isAgg9
  z9 := Tryd.sizeOf9
  v9 := Tryd.zeroValue9
  t20 := Tryd.underlying20
  a20 := Tryd.isAgg20
  z20 := Tryd.sizeOf20
  v20 := Tryd.zeroValue20
  t22 := Tryd.underlying28
  a22 := Tryd.isAgg28
  z22 := Tryd.sizeOf28
  v22 := Tryd.zeroValue28

/-- The nil slice grown: nil again, or an empty row of the call's own. -/
theorem grow_nil (n : Nat) (w : World) (hn : n ≤ 1000000000) :
    Calls Tryd.prog 68 #[.slice none 0 0, .int .i64 (n : Int)] w fun e w' => ∃ A' c', e = .returned (.slice A' 0 c') ∧ w'.ownsRow w.heap.size 26 33 (.slice A' 0 c') 0 [] ∧ Below w.heap.size w w' := by
  rcases Nat.eq_zero_or_pos n with h0 | h0
  · subst h0
    refine (Any8.slices_Grow_room laysG none 0 0 0 w (by omega) (by omega) (by omega) (by omega)).mono ?_
    rintro e w' ⟨rfl, rfl⟩
    exact ⟨none, 0, rfl, World.ownsRow_nil _ _ _ _, Below.refl _ _⟩
  · obtain ⟨i, hi, hz, hsz, hby⟩ := info_parts slotPr.info
    have hzs := slotPr.zero
    refine (Any8.slices_Grow_grow laysG i zPr hi hz (by rw [hsz]; decide) none 0 0 n [] w (by omega) (by omega) (by rw [hby]; omega) (by omega) (by simp) (fun _ => rfl) (fun a h => by cases h)).mono ?_
    rintro e w' ⟨rfl, rfl⟩
    refine ⟨_, _, rfl, ⟨rfl, .inr ⟨w.heap.size, _, _, rfl, Nat.le_refl _, heap_alloc_new w.drew _, Nat.zero_le _, grownCap_le_maxLen _ _ _ _ (by unfold maxLen; omega), ?_, by simp⟩⟩, (bel_drew w).trans (ext_alloc w.drew _)⟩
    have hge := grownCap_ge w (0 + n) 0 26
    have hz33 : zPr.cells.size = 33 := hzs
    simp only [Array.size_append, List.size_toArray, size_zeroCells, List.length_nil, hz33]
    rw [Nat.zero_add, Nat.sub_zero, ← Nat.add_mul]
    congr 1
    have : renG.t 25 = 26 := rfl
    rw [this]
    simp only [Nat.zero_add] at hge ⊢
    omega

/-- Slices of pairs, each with its address and capacity. -/
abbrev Pcs : Type := List ((Option Addr × Nat) × List Pr)
def allP (l : Pcs) : List Pr := (l.map (·.2)).flatten
theorem allP_take {l : Pcs} {j : Nat} (h : j < l.length) : allP (l.take (j + 1)) = allP (l.take j) ++ l[j].2 := by
  unfold allP
  rw [List.take_succ_eq_append_getElem h, List.map_append, List.flatten_append]
  simp
theorem allP_take_le (l : Pcs) (j : Nat) : (allP (l.take j)).length ≤ (allP l).length := by
  have h : allP l = allP (l.take j) ++ allP (l.drop j) := by
    unfold allP
    rw [← List.flatten_append, ← List.map_append, List.take_append_drop]
  rw [h, List.length_append]; omega

set_option maxRecDepth 100000 in
set_option maxHeartbeats 1600000 in
theorem concat_any (F : Nat → Prop) (g : Nat) (l : Pcs) (w : World) (hcells : ∀ j x, l[j]? = some x → w.cell? ⟨g, j, none⟩ = some (.slice x.1.1 x.2.length x.1.2)) (hsrc : ∀ x ∈ l, Src F w x.1.1 x.2)
    (hF : ∀ b, F b → b < w.heap.size) (hl : l.length ≤ 1000) (hn : (allP l).length ≤ 1000000) :
    Calls Tryd.prog 43 #[.slice (some ⟨g, 0, none⟩) l.length l.length] w fun e w' => ∃ A' c', e = .returned (.slice A' (allP l).length c') ∧ RowO 26 F w' w.heap.size A' c' (allP l) ∧ Below w.heap.size w w' := by
  obtain ⟨res, hres⟩ : ∃ r, allP l = r := ⟨_, rfl⟩
  have hle := fun j => allP_take_le l j
  rw [hres] at hn hle ⊢
  replace hres := hid hres
  replace hle := hid hle
  replace hcells := hid hcells
  replace hsrc := hid hsrc
  go_enter Tryd.func43, Tryd.ntmps43
  go_wp2
  go_loop [3, 11] (fun s i => ∃ j : Nat, j ≤ l.length ∧ i = .int .i64 j ∧ s = .int .i64 ((allP (l.take j)).length : Int)) (fun _ i => l.length - (intOf i).toNat)
  case atStart => exact ⟨0, Nat.zero_le _, rfl, rfl⟩
  case round =>
    obtain ⟨j, hj, rfl, rfl⟩ := hrel
    by_cases hlt : j < l.length
    · have hc := hcells.out j _ (List.getElem?_eq_getElem hlt)
      have hb1 := hle.out (j + 1)
      obtain ⟨x, hx⟩ : ∃ x, (allP (l.take j)).length = x := ⟨_, rfl⟩
      have E : Hid (((allP (l.take (j + 1))).length) = x + l[j].2.length) := by
        show _ = _
        rw [allP_take hlt, List.length_append, hx]
      rw [E.out] at hb1
      rw [hx]
      clear hx
      generalize l[j].2 = q at *
      generalize l[j].1.1 = A at *
      generalize l[j].1.2 = cc at *
      go_wp2
      go_round
      case rel => exact ⟨j + 1, by omega, by go_num, by rw [E.out]; go_num⟩
      case measure => simp [intOf]; omega
    · obtain rfl : j = l.length := by omega
      rw [List.take_length, hres.out]
      go_wp2_with fail
      refine (grow_nil res.length w (by omega)).mono ?_
      rintro e w1 ⟨A1, c1, rfl, ho1, hb1⟩
      have hR : RowO 26 F w1 w.heap.size A1 c1 ([] : List Pr) := ⟨[], rfl, ho1, fun j x vs h => by simp at h, fun a ha hf => by
        have h1 := (World.ownsRow.lt ho1 a.block (by rw [ha]; rfl)).1
        have h2 := hF _ hf
        omega⟩
      clear ho1
      go_wp2
      go_loopw [6, 27] (fun v i wr => ∃ (j : Nat) (A' : Option Addr) (c' : Nat), j ≤ l.length ∧ i = .int .i64 j ∧ v = .slice A' (allP (l.take j)).length c' ∧ RowO 26 F wr w.heap.size A' c' (allP (l.take j)) ∧ Below w.heap.size w wr) (fun _ i _ => l.length - (intOf i).toNat)
      case atStart => exact ⟨0, A1, c1, Nat.zero_le _, rfl, rfl, hR, hb1⟩
      case round =>
        obtain ⟨j, A2, c2, hj2, rfl, rfl, ho, hb⟩ := hrel
        by_cases hlt2 : j < l.length
        · have hc := hcells.out j _ (List.getElem?_eq_getElem hlt2)
          have hc2 := (hb.cell (p := ⟨g, j, none⟩) (World.block_lt_of_cell? _ _ hc)).trans hc
          have hs := (hsrc.out _ (List.getElem_mem hlt2)).bel hb
          have hb2 := hle.out (j + 1)
          have E := hid (allP_take hlt2)
          have hbs := hb.size
          rw [E.out, List.length_append] at hb2
          clear hc hR
          generalize hy : allP (l.take (j + 1)) = y at *
          replace hy := hid hy
          generalize allP (l.take j) = x at *
          generalize l[j].2 = q at *
          generalize l[j].1.1 = A at *
          generalize l[j].1.2 = cc at *
          replace hb2 := hid hb2
          go_wp2_with (first
            | (at_builtin; refine wpList_appR slotPr rfl (.tmp 31) (.tmp 32) rfl F w.heap.size A2 A x.length q.length c2 cc x q rfl rfl rfl rfl ho hs (fun b hf => Nat.lt_of_lt_of_le (hF b hf) hbs) (by have := hb2.out; omega) hbs ?_; intro A3 c3 w3 ho3 hb3))
          rw [← E.out] at ho3
          go_roundw
          case rel =>
            have hl2 : x.length + q.length = y.length := by rw [E.out, List.length_append]
            rw [hl2]
            rw [← hy.out] at ho3 ⊢
            exact ⟨j + 1, A3, c3, by omega, by go_num, rfl, ho3, hb.trans hb3⟩
          case measure => simp [intOf]; omega
        · obtain rfl : j = l.length := by omega
          rw [List.take_length, hres.out] at ho ⊢
          go_wp2
          go_ret
          exact ⟨A2, c2, rfl, ho, hb⟩
end Go.Proofs.YtfjkcdccnbggnaaDoor

/- (PairsF)
  Contracts of the landed package pairs: Drop.
-/
namespace Go.Proofs.YtfjkcdccnbggnaaDoor
open Go.RowKit
set_option linter.unusedVariables false
set_option linter.unusedSimpArgs false

set_option maxRecDepth 100000 in
set_option maxHeartbeats 1600000 in
theorem PDrop_any (F : Nat → Prop) (A : Option Addr) (c n : Nat) (ps : List Pr) (k : Dg) (w : World) (hr : Row F w A ps) (hn : n = ps.length) (hc : ps.length ≤ 1000000) (hcap : ps.length ≤ c) (hcm : c ≤ 9223372036854775807) :
    Calls Tryd.prog 13 #[.slice A n c, .agg (k.1.map bv).toArray] w fun e w' => ∃ A' c', e = .returned (.tuple #[.slice A' (mDropL ps k).length c', .int .i64 (mDropE ps k)]) ∧ OwnR 26 w' w.heap.size A' c' (mDropL ps k) ∧ Below w.heap.size w w' := by
  subst hn
  have hbox : (w.alloc (.cells (k.1.map bv).toArray 23)).rangeAt w.heap.size 0 (k.1.map bv) := rangeOf (heap_alloc_new w _)
  have b0 := ext_alloc w (.cells (k.1.map bv).toArray 23)
  have hM := fun W hW => PCheck_any F A c ps.length ps W hW rfl (by omega)
  have hF := fun W hW hS => PFind_any F A c ps.length ps k W hW rfl hc hS
  have hu := Tryd.underlying23
  have hi := sizeDgP k
  have hr0 := hr.bel b0
  rcases hm : mayP ps with _ | _
  · rw [(mDrop_bad (k := k) hm).1, (mDrop_bad (k := k) hm).2]
    rw [hm, if_neg (by decide)] at hM
    replace hM := hid hM
    clear hF hm
    generalize (k.1.map bv) = ds at *
    go_enter Tryd.func13, Tryd.ntmps13
    go_wp2_with fail
    refine (hM.out _ hr0).mono ?_
    rintro e w1 ⟨rfl, hb1⟩
    go_wp2
    go_ret2
    exact ⟨none, 0, rfl, OwnR.nil _ _, b0.trans (hb1.mono b0.size)⟩
  · rw [hm, if_pos rfl] at hM
    have hS := (may_srtP hm).1
    have hat := has_at hS k
    rcases hh : hasP ps k with _ | _
    · rw [(mDrop_none hm hh).1, (mDrop_none hm hh).2]
      rw [hh] at hF
      have hF2 := fun W hW => hF W hW hS
      replace hM := hid hM
      replace hF2 := hid hF2
      replace hi := hid hi
      clear hm hh hF hat hS
      generalize (k.1.map bv) = ds at *
      generalize cnt ps k = m at *
      go_enter Tryd.func13, Tryd.ntmps13
      go_wp2_with fail
      refine (hM.out _ hr0).mono ?_
      rintro e w1 ⟨rfl, hb1⟩
      have hbx := rangeBel2 hb1 hbox
      have hr1 := hr0.bel hb1
      go_wp2_with (first
        | ((with_reducible refine wpList_load_rng rfl 23 (.tmp 3) rfl w.heap.size 0 rfl ds _ ?_ hu rfl hi.out ?_); exact hbx))
      refine (hF2.out _ hr1).mono ?_
      rintro e w2 ⟨rfl, hb2⟩
      go_wp2
      go_ret2
      exact ⟨none, 0, rfl, OwnR.nil _ _, b0.trans ((hb1.trans (hb2.mono hb1.size)).mono b0.size)⟩
    · obtain ⟨hj, hk⟩ := hat.1 hh
      rw [(mDrop_yes hm hh).1, (mDrop_yes hm hh).2]
      have e0 := without_at hS hj hk
      rw [hh] at hF
      have hF2 := fun W hW => hF W hW hS
      have hv64 : ∀ p ∈ withoutP ps k, p.v.length ≤ 1000000 := fun p hp => by have := (may_srtP hm).2.2 p (List.mem_filter.1 hp).1; omega
      have h512 := (may_srtP hm).2.1
      clear hF hat hS hk
      generalize cnt ps k = j at *
      generalize withoutP ps k = res at *
      obtain ⟨x1, hx1⟩ : ∃ x, ps.take j = x := ⟨_, rfl⟩
      obtain ⟨x2, hx2⟩ : ∃ x, ps.drop (j + 1) = x := ⟨_, rfl⟩
      have l1 : Hid (x1.length = j) := by rw [← hx1, List.length_take]; show _ = _; omega
      have l2 : Hid (x2.length = ps.length - (j + 1)) := by rw [← hx2, List.length_drop]; exact rfl
      rw [hx1, hx2] at e0
      have s1 : Hid (∀ W, Row F W A ps → Src F W A x1) := fun W h => by rw [← hx1]; exact h.src.take j
      have s2 : Hid (∀ W, Row F W A ps → Src F W (cutA A c (j + 1) (Enc.size Pr)) x2) := fun W h => by rw [← hx2]; exact h.src.cutA (j + 1) c (by omega) hcap
      have hjc : j ≤ c := by omega
      have hadd : IntKind.i64.wrap ((j : Int) + 1) = (j : Int) + 1 := by rw [IntKind.wrap_i64]; omega
      have hall : Hid (∀ (a b : Option Addr) (p q : Nat), allP [((a, p), x1), ((b, q), x2)] = res) := fun a b p q => by rw [e0]; simp [allP]
      have hrl : res.length ≤ 1000000 := by have := l1.out; have := l2.out; rw [e0, List.length_append]; omega
      replace e0 := hid e0
      replace hM := hid hM
      replace hF2 := hid hF2
      replace hi := hid hi
      clear hm hh hx1 hx2
      generalize (k.1.map bv) = ds at *
      go_enter Tryd.func13, Tryd.ntmps13
      go_wp2_with fail
      refine (hM.out _ hr0).mono ?_
      rintro e w1 ⟨rfl, hb1⟩
      have hbx := rangeBel2 hb1 hbox
      have hr1 := hr0.bel hb1
      go_wp2_with (first
        | ((with_reducible refine wpList_load_rng rfl 23 (.tmp 3) rfl w.heap.size 0 rfl ds _ ?_ hu rfl hi.out ?_); exact hbx))
      refine (hF2.out _ hr1).mono ?_
      rintro e w2 ⟨rfl, hb2⟩
      have hr2 := hr1.bel hb2
      have B2 := b0.trans ((hb1.trans (hb2.mono hb1.size)).mono b0.size)
      have t1 := hid ((s1.out _ hr2).mono (G := fun b => b < w2.heap.size) fun b _ hl => hl)
      have t2 := hid ((s2.out _ hr2).mono (G := fun b => b < w2.heap.size) fun b _ hl => hl)
      clear hbx hr1 hr0 hbox hb1 hb2 s1 s2 hr hM hF2
      go_wp2
      refine wp_region_noPanic ?_
      refine wp_region_held_drew (S := fun w' => Below w2.heap.size w2 w') (by kernel_rfl) ?_ (fun hHeld => ?_)
      · exact bel_drew w2
      refine' wpAnyH_take (i := 0) (oi := _) (v := ?_) rfl (by kernel_rfl) (by kernel_rfl) (by kernel_rfl) (fun _ _ _ h => h) (Or.inl ⟨by rfl, ?_⟩) (by assumption) ?_
      rotate_left
      · intro W hSw
        go_simp
        first | done | (with_reducible rfl)
      try simp only [Act.put, sQa, sQb, sQc, gQa, gQb, gQc]
      refine' wpAnyH_take (i := 1) (oi := _) (v := ?_) rfl (by kernel_rfl) (by kernel_rfl) (by kernel_rfl) (fun _ _ _ h => h) (Or.inl ⟨by rfl, ?_⟩) (by assumption) ?_
      rotate_left
      · intro W hSw
        go_simp
        first | done | (with_reducible rfl)
      try simp only [Act.put, sQa, sQb, sQc, gQa, gQb, gQc]
      refine' wpAnyH_take (i := 2) (oi := _) (v := _) rfl (by kernel_rfl) (by kernel_rfl) (by kernel_rfl) (fun _ _ _ h => h) (yieldsIf_slice (by rfl) _ _ _ _ _ rfl _ _ _ _ _ (run_upto slotPr A ps.length c j hjc) rfl rfl rfl rfl) (by assumption) ?_
      try simp only [Act.put, sQa, sQb, sQc, gQa, gQb, gQc]
      refine' wpAnyH_take (i := 3) (oi := _) (v := ?_) rfl (by kernel_rfl) (by kernel_rfl) (by kernel_rfl) (fun _ _ _ h => h) (Or.inl ⟨by rfl, ?_⟩) (by assumption) ?_
      rotate_left
      · intro W hSw
        go_simp
        first | done | (with_reducible rfl)
      try simp only [Act.put, sQa, sQb, sQc, gQa, gQb, gQc]
      refine' wpAnyH_take (i := 4) (oi := _) (v := ?_) rfl (by kernel_rfl) (by kernel_rfl) (by kernel_rfl) (fun _ _ _ h => h) (Or.inl ⟨by rfl, ?_⟩) (by assumption) ?_
      rotate_left
      · intro W hSw
        go_simp
        first | done | (with_reducible rfl)
      try simp only [Act.put, sQa, sQb, sQc, gQa, gQb, gQc]
      refine' wpAnyH_take (i := 5) (oi := _) (v := ?_) rfl (by kernel_rfl) (by kernel_rfl) (by kernel_rfl) (fun _ _ _ h => h) (Or.inl ⟨by rfl, ?_⟩) (by assumption) ?_
      rotate_left
      · intro W hSw
        go_simp
        first | done | (with_reducible rfl)
      try simp only [Act.put, sQa, sQb, sQc, gQa, gQb, gQc]
      refine' wpAnyH_take (i := 6) (oi := _) (v := _) rfl (by kernel_rfl) (by kernel_rfl) (by kernel_rfl) (fun _ _ _ h => h) (yieldsIf_slice (by rfl) _ _ _ _ _ rfl _ _ _ _ _ (run_from slotPr A ps.length c (j + 1) hj) rfl rfl rfl rfl) (by assumption) ?_
      try simp only [Act.put, sQa, sQb, sQc, gQa, gQb, gQc]
      refine wpAnyH_ready (rs := [7]) (by kernel_rfl) (by simp) ?_
      refine AllReadyH.cons (o := _) rfl (fun K hK => ?_) AllReadyH.nil
      go_simp
      refine hK.out _ _ ?_ (fun hHeld => ?_)
      · exact hHeld.trans ((ext_alloc _ _).mono hHeld.size)
      clear hK K
      try simp only [Act.put, sQa, sQb, sQc, gQa, gQb, gQc]
      refine wpAnyH_ready (rs := [8]) (by kernel_rfl) (by simp) ?_
      refine AllReadyH.cons (o := _) rfl (fun K hK => ?_) AllReadyH.nil
      go_simp
      refine (concat_any (fun b => b < w2.heap.size) _ [((A, c), x1), ((cutA A c (j + 1) (Enc.size Pr), c - (j + 1)), x2)] _ (by exact cells_slices _ w2 _ _ (by simp [slvR, l1.out, l2.out])) (by intro x hx; simp only [List.mem_cons, List.not_mem_nil, or_false] at hx; rcases hx with rfl | rfl; exact t1.out.bel hHeld; exact t2.out.bel hHeld) (by intro b hb; exact Nat.lt_of_lt_of_le hb hHeld.size) (by simp) (by rw [hall.out]; exact hrl)).mono ?_
      rintro e7 w7 ⟨A7, c7, rfl, ho7, hB⟩
      rw [hall.out] at ho7 ⊢
      go_wp2_with fail
      refine hK.out _ _ ?_ (fun hHeld => ?_)
      · exact hHeld.trans (hB.mono hHeld.size)
      clear hK K
      try simp only [Act.put, sQa, sQb, sQc, gQa, gQb, gQc]
      refine wpAnyH_ready (rs := [9]) (by kernel_rfl) (by simp) ?_
      refine AllReadyH.cons (o := _) rfl (fun K hK => ?_) AllReadyH.nil
      go_simp
      have hs7 := hHeld.size
      refine (PTwinP_any _ A7 c7 res.length res _ ho7.row rfl hrl hv64).mono ?_
      rintro e8 w8 ⟨A8, c8, rfl, ho8, hB⟩
      go_wp2_with fail
      refine hK.out _ _ ?_ (fun hHeld => ?_)
      · exact hHeld.trans (hB.mono hHeld.size)
      clear hK K
      try simp only [Act.put, sQa, sQb, sQc, gQa, gQb, gQc]
      refine' wpAnyH_take (i := 10) (oi := _) (v := ?_) rfl (by kernel_rfl) (by kernel_rfl) (by kernel_rfl) (fun _ _ _ h => h) (Or.inl ⟨by rfl, ?_⟩) (by assumption) ?_
      rotate_left
      · intro W hSw
        go_simp
        first | done | (with_reducible rfl)
      try simp only [Act.put, sQa, sQb, sQc, gQa, gQb, gQc]
      refine' wpAnyH_take (i := 11) (oi := _) (v := ?_) rfl (by kernel_rfl) (by kernel_rfl) (by kernel_rfl) (fun _ _ _ h => h) (Or.inl ⟨by rfl, ?_⟩) (by assumption) ?_
      rotate_left
      · intro W hSw
        go_simp
        first | done | (with_reducible rfl)
      try simp only [Act.put, sQa, sQb, sQc, gQa, gQb, gQc]
      refine wpAnyH_done (by kernel_rfl) ?_ _
      refine NoPanic.normal ?_
      go_wp2
      go_ret2
      exact ⟨A8, c8, rfl, ho8.base (Nat.le_trans B2.size hs7), B2.trans (hHeld.mono B2.size)⟩
end Go.Proofs.YtfjkcdccnbggnaaDoor

/- (PairsG)
  Contracts of the landed package pairs: Put.
-/
namespace Go.Proofs.YtfjkcdccnbggnaaDoor
open Go.RowKit
set_option linter.unusedVariables false
set_option linter.unusedSimpArgs false

theorem Rd.row_lt {w : World} {A : Option Addr} {l : List UInt8} (h : Rd w A l) : Row (fun b => b < w.heap.size) w A l := h.row fun a ha hn => by
  obtain ⟨b, o, hA, hc⟩ := h hn
  rw [ha] at hA
  injection hA with hA
  subst hA
  exact World.block_lt_of_cell? _ _ (hc 0 _ (List.getElem?_eq_getElem hn))

set_option maxRecDepth 100000 in
set_option maxHeartbeats 3000000 in
theorem PPut_any (F : Nat → Prop) (A V : Option Addr) (c n m d : Nat) (ps : List Pr) (k : Dg) (v : List UInt8) (w : World) (hr : Row F w A ps) (hn : n = ps.length) (hrv : Rd w V v) (hm : m = v.length) (hvd : v.length ≤ d) (hdm : d ≤ maxLen) (hc : ps.length ≤ 1000000) (hcap : ps.length ≤ c) (hcm : c ≤ 9223372036854775807) :
    Calls Tryd.prog 11 #[.slice A n c, .agg (k.1.map bv).toArray, .slice V m d] w fun e w' => ∃ A' c', e = .returned (.tuple #[.slice A' (mPutL ps k v).length c', .int .i64 (mPutE ps k v)]) ∧ OwnR 26 w' w.heap.size A' c' (mPutL ps k v) ∧ Below w.heap.size w w' := by
  subst hn hm
  have hbox : (w.alloc (.cells (k.1.map bv).toArray 23)).rangeAt w.heap.size 0 (k.1.map bv) := rangeOf (heap_alloc_new w _)
  have b0 := ext_alloc w (.cells (k.1.map bv).toArray 23)
  have hM := fun W hW => PCheck_any F A c ps.length ps W hW rfl (by omega)
  have hF := fun W hW hS => PFind_any F A c ps.length ps k W hW rfl hc hS
  have hu := Tryd.underlying23
  have hi := sizeDgP k
  have hr0 := hr.bel b0
  have hrv0 := hrv.bel b0
  have hvl : v.length ≤ 9223372036854775807 := by unfold maxLen at hdm; omega
  clear hr hrv
  rcases hm : mayP ps with _ | _
  · rw [(mPut_bad (k := k) (v := v) (.inl hm)).1, (mPut_bad (k := k) (v := v) (.inl hm)).2]
    rw [hm, if_neg (by decide)] at hM
    replace hM := hid hM
    clear hF hm
    generalize (k.1.map bv) = ds at *
    go_enter Tryd.func11, Tryd.ntmps11
    go_wp2_with fail
    refine (hM.out _ hr0).mono ?_
    rintro e w1 ⟨rfl, hb1⟩
    go_wp2
    go_ret2
    exact ⟨none, 0, rfl, OwnR.nil _ _, b0.trans (hb1.mono b0.size)⟩
  · rw [hm, if_pos rfl] at hM
    rcases hv : valB v with _ | _
    · rw [(mPut_bad (k := k) (.inr hv)).1, (mPut_bad (k := k) (.inr hv)).2]
      replace hM := hid hM
      replace hv := hid hv
      clear hF hm
      generalize (k.1.map bv) = ds at *
      go_enter Tryd.func11, Tryd.ntmps11
      go_wp2_with fail
      refine (hM.out _ hr0).mono ?_
      rintro e w1 ⟨rfl, hb1⟩
      go_wp2_with fail
      refine (PIsValue_is v V d false _ hvl hv.out).mono ?_
      rintro e w2 ⟨rfl, rfl⟩
      go_wp2
      go_ret2
      exact ⟨none, 0, rfl, OwnR.nil _ _, b0.trans (hb1.mono b0.size)⟩
    · have hS := (may_srtP hm).1
      have hat := has_at hS k
      have h512 := (may_srtP hm).2.1
      have hv64 : ∀ p ∈ withP ps k v, p.v.length ≤ 1000000 := fun p hp => by
        rcases with_mem.1 hp with rfl | ⟨hp, _⟩
        · unfold valB at hv
          simp at hv
          show v.length ≤ 1000000
          omega
        · have := (may_srtP hm).2.2 p hp; omega
      have hBu : ∀ x : Value, x.cells = #[x] → Tryd.prog.built 26 [(0, .agg (k.1.map bv).toArray), (1, x)] = some (k.1.map bv ++ [x]).toArray := fun x hx => built_pr k x hx
      have hLen : ∀ x : Value, (k.1.map bv ++ [x]).length = Enc.size Pr := fun x => len_pr k x
      have hRep : ∀ W : World, Rd W V v → Enc.rep (fun b => b < W.heap.size) W (⟨k, v⟩ : Pr) (k.1.map bv ++ [.slice V v.length d]) := fun W h => rep_pr_mk k v V d hvd hdm h.row_lt
      rcases hh : hasP ps k with _ | _
      · have e0 := with_no v hh
        have hwl : (withP ps k v).length = ps.length + 1 := by rw [with_length, without_no hh]
        rw [hh] at hF
        have hF2 := fun W hW => hF W hW hS
        have hjl := cnt_le ps k
        by_cases hfull : ps.length = 512
        · rw [(mPut_full hm hv (by omega)).1, (mPut_full hm hv (by omega)).2]
          replace hM := hid hM
          replace hF2 := hid hF2
          replace hi := hid hi
          replace hv := hid hv
          replace hBu := hid hBu
          replace hLen := hid hLen
          clear hm hh hF hat hS e0 hwl hv64 hRep h512
          generalize (k.1.map bv) = ds at *
          generalize cnt ps k = j at *
          have hfull2 : ((ps.length : Int) == 512) = true := by simp; omega
          replace hfull := hid hfull
          go_enter Tryd.func11, Tryd.ntmps11
          go_wp2_with fail
          refine (hM.out _ hr0).mono ?_
          rintro e w1 ⟨rfl, hb1⟩
          go_wp2_with fail
          refine (PIsValue_is v V d true _ hvl hv.out).mono ?_
          rintro e w2 ⟨rfl, rfl⟩
          have hbx := rangeBel2 hb1 hbox
          have hr1 := hr0.bel hb1
          go_wp2_with (first
            | ((with_reducible refine wpList_load_rng rfl 23 (.tmp 4) rfl w.heap.size 0 rfl ds _ ?_ hu rfl hi.out ?_); exact hbx))
          refine (hF2.out _ hr1).mono ?_
          rintro e w2 ⟨rfl, hb2⟩
          have hbx2 := rangeBel2 hb2 hbx
          have B2 := hid (b0.trans ((hb1.trans (hb2.mono hb1.size)).mono b0.size))
          go_wp2_with (first
            | ((with_reducible refine wpList_load_rng rfl 23 (.tmp 4) rfl w.heap.size 0 rfl ds _ ?_ hu rfl hi.out ?_); exact hbx2)
            | ((with_reducible refine wpList_built rfl 26 _ rfl (ds ++ [Value.slice V v.length d] : List Value).toArray [(0, .agg ds.toArray), (1, .slice V v.length d)] ?_ ?_ ?_); exact hBu.out _ rfl; rfl)
            | ((with_reducible refine wpList_buildOne slotPr (by decide) rfl (.tmp 28) rfl (ds ++ [Value.slice V v.length d] : List Value) ?_ (hLen.out _) ?_); rfl))
          go_ret2
          exact ⟨none, 0, rfl, OwnR.nil _ _, B2.out.trans ((ext_alloc w2 _).mono B2.out.size)⟩
        · rw [(mPut_yes hm hv (by omega)).1, (mPut_yes hm hv (by omega)).2]
          have hfull2 : ((ps.length : Int) == 512) = false := by simp; omega
          generalize cnt ps k = j at *
          generalize withP ps k v = res at *
          obtain ⟨x1, hx1⟩ : ∃ x, ps.take j = x := ⟨_, rfl⟩
          obtain ⟨x2, hx2⟩ : ∃ x, ps.drop j = x := ⟨_, rfl⟩
          have l1 : Hid (x1.length = j) := by rw [← hx1, List.length_take]; show _ = _; omega
          have l2 : Hid (x2.length = ps.length - j) := by rw [← hx2, List.length_drop]; exact rfl
          rw [hx1, hx2] at e0
          have s1 : Hid (∀ W, Row F W A ps → Src F W A x1) := fun W h => by rw [← hx1]; exact h.src.take j
          have s2 : Hid (∀ W, Row F W A ps → Src F W (cutA A c j (Enc.size Pr)) x2) := fun W h => by rw [← hx2]; exact h.src.cutA j c (by omega) hcap
          have hjc : j ≤ c := by omega
          have hjq : j ≤ ps.length := by omega
          have hall : Hid (∀ (a b e : Option Addr) (p q r : Nat), allP [((a, p), x1), ((b, q), [(⟨k, v⟩ : Pr)]), ((e, r), x2)] = res) := fun a b e p q r => by rw [e0]; simp [allP]
          have hrl : res.length ≤ 1000000 := by have := l1.out; have := l2.out; rw [e0, List.length_append, List.length_cons]; omega
          replace e0 := hid e0
          replace hM := hid hM
          replace hF2 := hid hF2
          replace hi := hid hi
          replace hv := hid hv
          replace hBu := hid hBu
          replace hLen := hid hLen
          replace hRep := hid hRep
          clear hm hh hF hat hS hwl h512 hx1 hx2 hfull
          generalize (k.1.map bv) = ds at *
          go_enter Tryd.func11, Tryd.ntmps11
          go_wp2_with fail
          refine (hM.out _ hr0).mono ?_
          rintro e w1 ⟨rfl, hb1⟩
          go_wp2_with fail
          refine (PIsValue_is v V d true _ hvl hv.out).mono ?_
          rintro e w2 ⟨rfl, rfl⟩
          have hbx := rangeBel2 hb1 hbox
          have hr1 := hr0.bel hb1
          go_wp2_with (first
            | ((with_reducible refine wpList_load_rng rfl 23 (.tmp 4) rfl w.heap.size 0 rfl ds _ ?_ hu rfl hi.out ?_); exact hbx))
          refine (hF2.out _ hr1).mono ?_
          rintro e w2 ⟨rfl, hb2⟩
          have hbx2 := rangeBel2 hb2 hbx
          have B2 := hid (b0.trans ((hb1.trans (hb2.mono hb1.size)).mono b0.size))
          have hr2 := hr1.bel hb2
          have hrv2 := (hrv0.bel hb1).bel hb2
          have t1 := hid ((((s1.out _ hr2).mono (G := fun b => b < w2.heap.size + 1) fun b _ hl => Nat.lt_succ_of_lt hl)).bel (ext_alloc w2 (.cells (ds ++ [Value.slice V v.length d]).toArray 26)))
          have t2 := hid ((((s2.out _ hr2).mono (G := fun b => b < w2.heap.size + 1) fun b _ hl => Nat.lt_succ_of_lt hl)).bel (ext_alloc w2 (.cells (ds ++ [Value.slice V v.length d]).toArray 26)))
          have t3 := hid ((src_alloc (E := 26) (Enc.mono (hRep.out _ hrv2) (G := fun b => b < w2.heap.size + 1) fun b _ hl => Nat.lt_succ_of_lt hl)))
          have hs3 : w2.heap.size + 1 = (w2.alloc (.cells (ds ++ [Value.slice V v.length d]).toArray 26)).heap.size := (World.size_alloc _ _).symm
          replace hs3 := hid hs3
          clear hbx hr1 hr0 hbox hb1 hb2 s1 s2 hM hF2 hr2 hrv0 hrv2
          go_wp2_with (first
            | ((with_reducible refine wpList_load_rng rfl 23 (.tmp 4) rfl w.heap.size 0 rfl ds _ ?_ hu rfl hi.out ?_); exact hbx2)
            | ((with_reducible refine wpList_built rfl 26 _ rfl (ds ++ [Value.slice V v.length d] : List Value).toArray [(0, .agg ds.toArray), (1, .slice V v.length d)] ?_ ?_ ?_); exact hBu.out _ rfl; rfl)
            | ((with_reducible refine wpList_buildOne slotPr (by decide) rfl (.tmp 28) rfl (ds ++ [Value.slice V v.length d] : List Value) ?_ (hLen.out _) ?_); rfl))
          have B3 := hid (B2.out.trans ((ext_alloc w2 (.cells (ds ++ [Value.slice V v.length d]).toArray 26)).mono B2.out.size))
          generalize w2.alloc (.cells (ds ++ [Value.slice V v.length d]).toArray 26) = w3 at *
          refine wp_region_noPanic ?_
          refine wp_region_held_drew (S := fun w' => Below w3.heap.size w3 w') (by kernel_rfl) ?_ (fun hHeld => ?_)
          · exact bel_drew w3
          refine' wpAnyH_take (i := 0) (oi := _) (v := ?_) rfl (by kernel_rfl) (by kernel_rfl) (by kernel_rfl) (fun _ _ _ h => h) (Or.inl ⟨by rfl, ?_⟩) (by assumption) ?_
          rotate_left
          · intro W hSw
            go_simp
            first | done | (with_reducible rfl)
          try simp only [Act.put, sQa, sQb, sQc, gQa, gQb, gQc]
          refine' wpAnyH_take (i := 1) (oi := _) (v := ?_) rfl (by kernel_rfl) (by kernel_rfl) (by kernel_rfl) (fun _ _ _ h => h) (Or.inl ⟨by rfl, ?_⟩) (by assumption) ?_
          rotate_left
          · intro W hSw
            go_simp
            first | done | (with_reducible rfl)
          try simp only [Act.put, sQa, sQb, sQc, gQa, gQb, gQc]
          refine' wpAnyH_take (i := 2) (oi := _) (v := _) rfl (by kernel_rfl) (by kernel_rfl) (by kernel_rfl) (fun _ _ _ h => h) (yieldsIf_slice (by rfl) _ _ _ _ _ rfl _ _ _ _ _ (run_upto slotPr A ps.length c j hjc) rfl rfl rfl rfl) (by assumption) ?_
          try simp only [Act.put, sQa, sQb, sQc, gQa, gQb, gQc]
          refine' wpAnyH_take (i := 3) (oi := _) (v := ?_) rfl (by kernel_rfl) (by kernel_rfl) (by kernel_rfl) (fun _ _ _ h => h) (Or.inl ⟨by rfl, ?_⟩) (by assumption) ?_
          rotate_left
          · intro W hSw
            go_simp
            first | done | (with_reducible rfl)
          try simp only [Act.put, sQa, sQb, sQc, gQa, gQb, gQc]
          refine' wpAnyH_take (i := 4) (oi := _) (v := ?_) rfl (by kernel_rfl) (by kernel_rfl) (by kernel_rfl) (fun _ _ _ h => h) (Or.inl ⟨by rfl, ?_⟩) (by assumption) ?_
          rotate_left
          · intro W hSw
            go_simp
            first | done | (with_reducible rfl)
          try simp only [Act.put, sQa, sQb, sQc, gQa, gQb, gQc]
          refine' wpAnyH_take (i := 5) (oi := _) (v := ?_) rfl (by kernel_rfl) (by kernel_rfl) (by kernel_rfl) (fun _ _ _ h => h) (Or.inl ⟨by rfl, ?_⟩) (by assumption) ?_
          rotate_left
          · intro W hSw
            go_simp
            first | done | (with_reducible rfl)
          try simp only [Act.put, sQa, sQb, sQc, gQa, gQb, gQc]
          refine' wpAnyH_take (i := 6) (oi := _) (v := _) rfl (by kernel_rfl) (by kernel_rfl) (by kernel_rfl) (fun _ _ _ h => h) (yieldsIf_slice (by rfl) _ _ _ _ _ rfl _ _ _ _ _ (run_from slotPr A ps.length c j hjq) rfl rfl rfl rfl) (by assumption) ?_
          try simp only [Act.put, sQa, sQb, sQc, gQa, gQb, gQc]
          refine wpAnyH_ready (rs := [7]) (by kernel_rfl) (by simp) ?_
          refine AllReadyH.cons (o := _) rfl (fun K hK => ?_) AllReadyH.nil
          go_simp
          refine hK.out _ _ ?_ (fun hHeld => ?_)
          · exact hHeld.trans ((ext_alloc _ _).mono hHeld.size)
          clear hK K
          try simp only [Act.put, sQa, sQb, sQc, gQa, gQb, gQc]
          refine wpAnyH_ready (rs := [8]) (by kernel_rfl) (by simp) ?_
          refine AllReadyH.cons (o := _) rfl (fun K hK => ?_) AllReadyH.nil
          go_simp
          refine (concat_any (fun b => b < w2.heap.size + 1) _ [((A, c), x1), ((some ⟨w2.heap.size, 0, none⟩, 1), [(⟨k, v⟩ : Pr)]), ((cutA A c j (Enc.size Pr), c - j), x2)] _ (by exact cells_slices _ w3 _ _ (by simp [slvR, l1.out, l2.out])) (by intro x hx; simp only [List.mem_cons, List.not_mem_nil, or_false] at hx; rcases hx with rfl | rfl | rfl; exact t1.out.bel hHeld; exact t3.out.bel hHeld; exact t2.out.bel hHeld) (by intro b hb; exact Nat.lt_of_lt_of_le hb (Nat.le_trans (Nat.le_of_eq hs3.out) hHeld.size)) (by simp) (by rw [hall.out]; exact hrl)).mono ?_
          rintro e7 w7 ⟨A7, c7, rfl, ho7, hB⟩
          rw [hall.out] at ho7 ⊢
          go_wp2_with fail
          refine hK.out _ _ ?_ (fun hHeld => ?_)
          · exact hHeld.trans (hB.mono hHeld.size)
          clear hK K
          try simp only [Act.put, sQa, sQb, sQc, gQa, gQb, gQc]
          refine wpAnyH_ready (rs := [9]) (by kernel_rfl) (by simp) ?_
          refine AllReadyH.cons (o := _) rfl (fun K hK => ?_) AllReadyH.nil
          go_simp
          have hs7 := hHeld.size
          refine (PTwinP_any _ A7 c7 res.length res _ ho7.row rfl hrl hv64).mono ?_
          rintro e8 w8 ⟨A8, c8, rfl, ho8, hB⟩
          go_wp2_with fail
          refine hK.out _ _ ?_ (fun hHeld => ?_)
          · exact hHeld.trans (hB.mono hHeld.size)
          clear hK K
          try simp only [Act.put, sQa, sQb, sQc, gQa, gQb, gQc]
          refine' wpAnyH_take (i := 10) (oi := _) (v := ?_) rfl (by kernel_rfl) (by kernel_rfl) (by kernel_rfl) (fun _ _ _ h => h) (Or.inl ⟨by rfl, ?_⟩) (by assumption) ?_
          rotate_left
          · intro W hSw
            go_simp
            first | done | (with_reducible rfl)
          try simp only [Act.put, sQa, sQb, sQc, gQa, gQb, gQc]
          refine' wpAnyH_take (i := 11) (oi := _) (v := ?_) rfl (by kernel_rfl) (by kernel_rfl) (by kernel_rfl) (fun _ _ _ h => h) (Or.inl ⟨by rfl, ?_⟩) (by assumption) ?_
          rotate_left
          · intro W hSw
            go_simp
            first | done | (with_reducible rfl)
          try simp only [Act.put, sQa, sQb, sQc, gQa, gQb, gQc]
          refine wpAnyH_done (by kernel_rfl) ?_ _
          refine NoPanic.normal ?_
          go_wp2
          go_ret2
          exact ⟨A8, c8, rfl, ho8.base (Nat.le_trans B3.out.size hs7), B3.out.trans (hHeld.mono B3.out.size)⟩
      · obtain ⟨hj, hk⟩ := hat.1 hh
        have e0 := with_at hS v hj hk
        have hwl : (withP ps k v).length = ps.length := by rw [with_length, without_length hS hh]
        rw [hh] at hF
        have hF2 := fun W hW => hF W hW hS
        rw [(mPut_yes hm hv (by omega)).1, (mPut_yes hm hv (by omega)).2]
        clear hF hat hS hk
        generalize cnt ps k = j at *
        generalize withP ps k v = res at *
        obtain ⟨x1, hx1⟩ : ∃ x, ps.take j = x := ⟨_, rfl⟩
        obtain ⟨x2, hx2⟩ : ∃ x, ps.drop (j + 1) = x := ⟨_, rfl⟩
        have l1 : Hid (x1.length = j) := by rw [← hx1, List.length_take]; show _ = _; omega
        have l2 : Hid (x2.length = ps.length - (j + 1)) := by rw [← hx2, List.length_drop]; exact rfl
        rw [hx1, hx2] at e0
        have s1 : Hid (∀ W, Row F W A ps → Src F W A x1) := fun W h => by rw [← hx1]; exact h.src.take j
        have s2 : Hid (∀ W, Row F W A ps → Src F W (cutA A c (j + 1) (Enc.size Pr)) x2) := fun W h => by rw [← hx2]; exact h.src.cutA (j + 1) c (by omega) hcap
        have hjc : j ≤ c := by omega
        have hjq : (j + 1) ≤ ps.length := by omega
        have hall : Hid (∀ (a b e : Option Addr) (p q r : Nat), allP [((a, p), x1), ((b, q), [(⟨k, v⟩ : Pr)]), ((e, r), x2)] = res) := fun a b e p q r => by rw [e0]; simp [allP]
        have hrl : res.length ≤ 1000000 := by have := l1.out; have := l2.out; rw [e0, List.length_append, List.length_cons]; omega
        replace e0 := hid e0
        replace hM := hid hM
        replace hF2 := hid hF2
        replace hi := hid hi
        replace hv := hid hv
        replace hBu := hid hBu
        replace hLen := hid hLen
        replace hRep := hid hRep
        have hadd : IntKind.i64.wrap ((j : Int) + 1) = (j : Int) + 1 := by rw [IntKind.wrap_i64]; omega
        clear hm hh hwl h512 hx1 hx2
        generalize (k.1.map bv) = ds at *
        go_enter Tryd.func11, Tryd.ntmps11
        go_wp2_with fail
        refine (hM.out _ hr0).mono ?_
        rintro e w1 ⟨rfl, hb1⟩
        go_wp2_with fail
        refine (PIsValue_is v V d true _ hvl hv.out).mono ?_
        rintro e w2 ⟨rfl, rfl⟩
        have hbx := rangeBel2 hb1 hbox
        have hr1 := hr0.bel hb1
        go_wp2_with (first
          | ((with_reducible refine wpList_load_rng rfl 23 (.tmp 4) rfl w.heap.size 0 rfl ds _ ?_ hu rfl hi.out ?_); exact hbx))
        refine (hF2.out _ hr1).mono ?_
        rintro e w2 ⟨rfl, hb2⟩
        have hbx2 := rangeBel2 hb2 hbx
        have B2 := hid (b0.trans ((hb1.trans (hb2.mono hb1.size)).mono b0.size))
        have hr2 := hr1.bel hb2
        have hrv2 := (hrv0.bel hb1).bel hb2
        have t1 := hid ((((s1.out _ hr2).mono (G := fun b => b < w2.heap.size + 1) fun b _ hl => Nat.lt_succ_of_lt hl)).bel (ext_alloc w2 (.cells (ds ++ [Value.slice V v.length d]).toArray 26)))
        have t2 := hid ((((s2.out _ hr2).mono (G := fun b => b < w2.heap.size + 1) fun b _ hl => Nat.lt_succ_of_lt hl)).bel (ext_alloc w2 (.cells (ds ++ [Value.slice V v.length d]).toArray 26)))
        have t3 := hid ((src_alloc (E := 26) (Enc.mono (hRep.out _ hrv2) (G := fun b => b < w2.heap.size + 1) fun b _ hl => Nat.lt_succ_of_lt hl)))
        have hs3 : w2.heap.size + 1 = (w2.alloc (.cells (ds ++ [Value.slice V v.length d]).toArray 26)).heap.size := (World.size_alloc _ _).symm
        replace hs3 := hid hs3
        clear hbx hr1 hr0 hbox hb1 hb2 s1 s2 hM hF2 hr2 hrv0 hrv2
        go_wp2_with (first
          | ((with_reducible refine wpList_load_rng rfl 23 (.tmp 4) rfl w.heap.size 0 rfl ds _ ?_ hu rfl hi.out ?_); exact hbx2)
          | ((with_reducible refine wpList_built rfl 26 _ rfl (ds ++ [Value.slice V v.length d] : List Value).toArray [(0, .agg ds.toArray), (1, .slice V v.length d)] ?_ ?_ ?_); exact hBu.out _ rfl; rfl)
          | ((with_reducible refine wpList_buildOne slotPr (by decide) rfl (.tmp 28) rfl (ds ++ [Value.slice V v.length d] : List Value) ?_ (hLen.out _) ?_); rfl))
        have B3 := hid (B2.out.trans ((ext_alloc w2 (.cells (ds ++ [Value.slice V v.length d]).toArray 26)).mono B2.out.size))
        generalize w2.alloc (.cells (ds ++ [Value.slice V v.length d]).toArray 26) = w3 at *
        refine wp_region_noPanic ?_
        refine wp_region_held_drew (S := fun w' => Below w3.heap.size w3 w') (by kernel_rfl) ?_ (fun hHeld => ?_)
        · exact bel_drew w3
        refine' wpAnyH_take (i := 0) (oi := _) (v := ?_) rfl (by kernel_rfl) (by kernel_rfl) (by kernel_rfl) (fun _ _ _ h => h) (Or.inl ⟨by rfl, ?_⟩) (by assumption) ?_
        rotate_left
        · intro W hSw
          go_simp
          first | done | (with_reducible rfl)
        try simp only [Act.put, sQa, sQb, sQc, gQa, gQb, gQc]
        refine' wpAnyH_take (i := 1) (oi := _) (v := ?_) rfl (by kernel_rfl) (by kernel_rfl) (by kernel_rfl) (fun _ _ _ h => h) (Or.inl ⟨by rfl, ?_⟩) (by assumption) ?_
        rotate_left
        · intro W hSw
          go_simp
          first | done | (with_reducible rfl)
        try simp only [Act.put, sQa, sQb, sQc, gQa, gQb, gQc]
        refine' wpAnyH_take (i := 2) (oi := _) (v := _) rfl (by kernel_rfl) (by kernel_rfl) (by kernel_rfl) (fun _ _ _ h => h) (yieldsIf_slice (by rfl) _ _ _ _ _ rfl _ _ _ _ _ (run_upto slotPr A ps.length c j hjc) rfl rfl rfl rfl) (by assumption) ?_
        try simp only [Act.put, sQa, sQb, sQc, gQa, gQb, gQc]
        refine' wpAnyH_take (i := 3) (oi := _) (v := ?_) rfl (by kernel_rfl) (by kernel_rfl) (by kernel_rfl) (fun _ _ _ h => h) (Or.inl ⟨by rfl, ?_⟩) (by assumption) ?_
        rotate_left
        · intro W hSw
          go_simp
          first | done | (with_reducible rfl)
        try simp only [Act.put, sQa, sQb, sQc, gQa, gQb, gQc]
        refine' wpAnyH_take (i := 4) (oi := _) (v := ?_) rfl (by kernel_rfl) (by kernel_rfl) (by kernel_rfl) (fun _ _ _ h => h) (Or.inl ⟨by rfl, ?_⟩) (by assumption) ?_
        rotate_left
        · intro W hSw
          go_simp
          first | done | (with_reducible rfl)
        try simp only [Act.put, sQa, sQb, sQc, gQa, gQb, gQc]
        refine' wpAnyH_take (i := 5) (oi := _) (v := ?_) rfl (by kernel_rfl) (by kernel_rfl) (by kernel_rfl) (fun _ _ _ h => h) (Or.inl ⟨by rfl, ?_⟩) (by assumption) ?_
        rotate_left
        · intro W hSw
          go_simp
          first | done | (with_reducible rfl)
        try simp only [Act.put, sQa, sQb, sQc, gQa, gQb, gQc]
        refine' wpAnyH_take (i := 6) (oi := _) (v := ?_) rfl (by kernel_rfl) (by kernel_rfl) (by kernel_rfl) (fun _ _ _ h => h) (Or.inl ⟨by rfl, ?_⟩) (by assumption) ?_
        rotate_left
        · intro W hSw
          go_simp
          first | done | (with_reducible rfl)
        try simp only [Act.put, sQa, sQb, sQc, gQa, gQb, gQc]
        refine' wpAnyH_take (i := 7) (oi := _) (v := _) rfl (by kernel_rfl) (by kernel_rfl) (by kernel_rfl) (fun _ _ _ h => h) (yieldsIf_slice (by rfl) _ _ _ _ _ rfl _ _ _ _ _ (run_from slotPr A ps.length c (j + 1) hjq) rfl rfl rfl rfl) (by assumption) ?_
        try simp only [Act.put, sQa, sQb, sQc, gQa, gQb, gQc]
        refine wpAnyH_ready (rs := [8]) (by kernel_rfl) (by simp) ?_
        refine AllReadyH.cons (o := _) rfl (fun K hK => ?_) AllReadyH.nil
        go_simp
        refine hK.out _ _ ?_ (fun hHeld => ?_)
        · exact hHeld.trans ((ext_alloc _ _).mono hHeld.size)
        clear hK K
        try simp only [Act.put, sQa, sQb, sQc, gQa, gQb, gQc]
        refine wpAnyH_ready (rs := [9]) (by kernel_rfl) (by simp) ?_
        refine AllReadyH.cons (o := _) rfl (fun K hK => ?_) AllReadyH.nil
        go_simp
        refine (concat_any (fun b => b < w2.heap.size + 1) _ [((A, c), x1), ((some ⟨w2.heap.size, 0, none⟩, 1), [(⟨k, v⟩ : Pr)]), ((cutA A c (j + 1) (Enc.size Pr), c - (j + 1)), x2)] _ (by exact cells_slices _ w3 _ _ (by simp [slvR, l1.out, l2.out])) (by intro x hx; simp only [List.mem_cons, List.not_mem_nil, or_false] at hx; rcases hx with rfl | rfl | rfl; exact t1.out.bel hHeld; exact t3.out.bel hHeld; exact t2.out.bel hHeld) (by intro b hb; exact Nat.lt_of_lt_of_le hb (Nat.le_trans (Nat.le_of_eq hs3.out) hHeld.size)) (by simp) (by rw [hall.out]; exact hrl)).mono ?_
        rintro e7 w7 ⟨A7, c7, rfl, ho7, hB⟩
        rw [hall.out] at ho7 ⊢
        go_wp2_with fail
        refine hK.out _ _ ?_ (fun hHeld => ?_)
        · exact hHeld.trans (hB.mono hHeld.size)
        clear hK K
        try simp only [Act.put, sQa, sQb, sQc, gQa, gQb, gQc]
        refine wpAnyH_ready (rs := [10]) (by kernel_rfl) (by simp) ?_
        refine AllReadyH.cons (o := _) rfl (fun K hK => ?_) AllReadyH.nil
        go_simp
        have hs7 := hHeld.size
        refine (PTwinP_any _ A7 c7 res.length res _ ho7.row rfl hrl hv64).mono ?_
        rintro e8 w8 ⟨A8, c8, rfl, ho8, hB⟩
        go_wp2_with fail
        refine hK.out _ _ ?_ (fun hHeld => ?_)
        · exact hHeld.trans (hB.mono hHeld.size)
        clear hK K
        try simp only [Act.put, sQa, sQb, sQc, gQa, gQb, gQc]
        refine' wpAnyH_take (i := 11) (oi := _) (v := ?_) rfl (by kernel_rfl) (by kernel_rfl) (by kernel_rfl) (fun _ _ _ h => h) (Or.inl ⟨by rfl, ?_⟩) (by assumption) ?_
        rotate_left
        · intro W hSw
          go_simp
          first | done | (with_reducible rfl)
        try simp only [Act.put, sQa, sQb, sQc, gQa, gQb, gQc]
        refine' wpAnyH_take (i := 12) (oi := _) (v := ?_) rfl (by kernel_rfl) (by kernel_rfl) (by kernel_rfl) (fun _ _ _ h => h) (Or.inl ⟨by rfl, ?_⟩) (by assumption) ?_
        rotate_left
        · intro W hSw
          go_simp
          first | done | (with_reducible rfl)
        try simp only [Act.put, sQa, sQb, sQc, gQa, gQb, gQc]
        refine wpAnyH_done (by kernel_rfl) ?_ _
        refine NoPanic.normal ?_
        go_wp2
        go_ret2
        exact ⟨A8, c8, rfl, ho8.base (Nat.le_trans B3.out.size hs7), B3.out.trans (hHeld.mono B3.out.size)⟩
end Go.Proofs.YtfjkcdccnbggnaaDoor
