/-
 Texts laid together: PairsA, PairsD.
-/
import Derived.Test.YtmjocmogfckmmaaGreatDoorRoad
import Derived.Test.YtmjocmogfckmmaaGreatDoorPlain
import Derived.Test.YtmjocmogfckmmaaGreatDoorBits
set_option maxRecDepth 100000
set_option linter.unusedVariables false
set_option linter.unusedSimpArgs false
namespace Go.Proofs.YtmjocmogfckmmaaGreatDoor
/- (PairsA)
 Contracts of the landed package pairs: isValue, Check.
-/
section
open Go.RowKit

theorem sizeDgP (k : Dg) : (Tryz.prog.info? 26).map (·.size) = some (k.1.map bv).length := by rw [List.length_map, k.2]; exact size32
theorem sizePrP (k : Dg) (x : Value) : (Tryz.prog.info? 84).map (·.size) = some (k.1.map bv ++ [x]).length := by
 have h := slotPr.info
 rw [len_pr]
 cases hi : Tryz.prog.info? 84 with
 | none => rw [hi] at h; cases h
 | some i =>
  rw [hi] at h
  simp at h
  simp [h.2.1]
theorem ret_bP {a b : Bool} (h : a = b) : Ending.returned (.bool a) = .returned (.bool b) := by rw [h]
theorem ret_iP {k : IntKind} {a b : Int} (h : a = b) : Ending.returned (.int k a) = .returned (.int k b) := by rw [h]
theorem zInfoPr : (Tryz.prog.info? 84).map (fun i => (i.zero, i.size)) = some (some (.agg zPrC), zPrC.size) := by kernel_rfl
theorem zSizePr : zPrC.size = 33 := by decide +kernel

theorem PIsValue_is (v : List UInt8) (A : Option Addr) (c : Nat) (b : Bool) (w : World) (hc : v.length ≤ 9223372036854775807) (hb : valB v = b) :
  Calls Tryz.prog 123 #[.slice A v.length c] w fun e w' => e = .returned (.bool b) ∧ w = w' := by
 subst hb
 have e : valB v = decide (1 ≤ v.length ∧ v.length ≤ 64) := rfl
 rw [e]
 clear e
 generalize v.length = n at *
 go_enter Tryz.func123, Tryz.ntmps123
 by_cases h1 : 1 ≤ n
 ·by_cases h2 : n ≤ 64
  ·go_wp2
   go_ret
   exact ⟨ret_bP (by simp [h1, h2]; omega), rfl⟩
  ·go_wp2
   go_ret
   exact ⟨ret_bP (by simp [h1, h2]; omega), rfl⟩
 ·go_wp2
  go_ret
  exact ⟨ret_bP (by simp), rfl⟩
theorem PAhead_of (a b : Dg) (u v : Value) (ans : Bool) (w : World) (hu : u = .agg (a.1.map bv).toArray) (hv : v = .agg (b.1.map bv).toArray) (ha : ahead a.1 b.1 = ans) :
  Calls Tryz.prog 124 #[u, v] w fun r w' => r = .returned (.bool ans) ∧ Below w.heap.size w w' := by
 subst hu hv ha
 exact PAhead_any a.1 b.1 w a.2 b.2

/-- A pair laid in a block of its own: what is read there. -/
theorem block_pr {w : World} {g : Nat} {k : Dg} {x : Value} {t : TypeId} (h : w.heap[g]? = some (.cells (k.1.map bv ++ [x]).toArray t (0, 0))) :
  w.cell? ⟨g, 32, none⟩ = some x ∧ w.rangeAt g 0 (k.1.map bv) ∧ w.rangeAt g 0 (k.1.map bv ++ [x]) := by
 have hk : (k.1.map bv).length = 32 := by rw [List.length_map]; exact k.2
 have h2 := rangeOf h
 refine ⟨?_, fun j v hv => h2 j v ?_, h2⟩
 ·have := h2 32 x (by rw [List.getElem?_append_right (by omega), hk]; rfl)
  rwa [Nat.zero_add] at this
 ·rw [List.getElem?_append_left (List.getElem?_eq_some_iff.1 hv).1]; exact hv

set_option maxRecDepth 100000 in
set_option maxHeartbeats 1600000 in
theorem PCheck_any (F : Nat → Prop) (A : Option Addr) (c n : Nat) (ps : List Pr) (w : World) (hr : Row F w A ps) (hn : n = ps.length) (hc : ps.length ≤ 9223372036854775807) :
  Calls Tryz.prog 104 #[.slice A n c] w fun e w' => e = .returned (.int .i64 (if mayP ps = true then 0 else 8)) ∧ Below w.heap.size w w' := by
 subst hn
 obtain ⟨ans, ha⟩ : ∃ z : Int, (if mayP ps = true then 0 else 8) = z := ⟨_, rfl⟩
 have hM : mayP ps = (decide (ps.length ≤ 512) && chain ps) := rfl
 rw [ha]
 by_cases h0 : 512 < ps.length
 ·rw [hM, decide_eq_false (by omega), Bool.false_and, if_neg (by decide)] at ha
  subst ha
  go_enter Tryz.func104, Tryz.ntmps104
  go_wp2
  go_ret
  exact ⟨rfl, Below.refl _ _⟩
 ·rw [hM, decide_eq_true (by omega), Bool.true_and] at ha
  replace ha := hid ha
  clear hM
  go_enter Tryz.func104, Tryz.ntmps104
  go_wp2
  go_loopw [10] (fun i wr => ∃ k : Nat, k ≤ ps.length ∧ i = .int .i64 k ∧ (∀ i, i < k → Good ps i) ∧ Below w.heap.size w wr) (fun i _ => ps.length - (intOf i).toNat)
  case atStart => exact ⟨0, Nat.zero_le _, rfl, fun i hi => absurd hi (by omega), Below.refl _ _⟩
  case round =>
   obtain ⟨k, hk, rfl, hrel, hbw⟩ := hrel
   replace hrel := hid hrel
   by_cases hlt : k < ps.length
   ·have hu := Tryz.underlying26
    have hu2 := Tryz.underlying84
    have hG : Hid (Good ps k ↔ (valB ps[k].v = true ∧ (0 < k → ahead (ps[k - 1]'(by omega)).k.1 ps[k].k.1 = true))) := ⟨fun h => h hlt, fun h _ => h⟩
    obtain ⟨b, o, hA, -, A', c', -, r2, h1, h2, h3⟩ := row_pr (hr.bel hbw) hlt
    have hj := fun j (hj : j < ps.length) => row_pr hr hj
    replace hj := hid hj
    subst hA
    have hs := hid (sizePrP ps[k].k (.slice A' ps[k].v.length c'))
    have hi1 := hid (sizeDgP ps[k].k)
    obtain ⟨vb, hvb⟩ : ∃ vb, valB ps[k].v = vb := ⟨_, rfl⟩
    have hvl : ps[k].v.length ≤ 9223372036854775807 := by unfold maxLen at h2; omega
    have hbs := hbw.size
    have z1 := ps[k].k.2
    have hlen : Hid ((ps[k].k.1.map bv ++ [Value.slice A' ps[k].v.length c']).length = 33) := len_pr _ _
    have hone : Hid ((ps[k].k.1.map bv ++ [Value.slice A' ps[k].v.length c']).toArray.all (·.oneCell') = true) := all_oneCell_toArray (Enc.one (rep_pr_mk (F := F) (w := wr) ps[k].k ps[k].v A' c' h1 h2 h3))
    generalize hkq : ps[k].k = kq at *
    generalize hvq : ps[k].v = v at *
    go_wp2_with (first
     | ((with_reducible refine wpList_load_rng rfl 84 (.tmp 13) rfl b (o + k * 33) rfl (kq.1.map bv ++ [.slice A' v.length c']) _ ?_ hu2 rfl hs.out ?_); exact r2)
     | (with_reducible refine wpList_alloc_row rfl 84 rfl zPrC zInfoPr ?_)
     | ((with_reducible refine wpList_store_row rfl 84 (.tmp 4) (.tmp 14) rfl wr.heap.size (kq.1.map bv ++ [Value.slice A' v.length c'] : List Value).toArray rfl ?_ 84 zPrC ?_ ?_ ?_ ?_ ?_); rfl; exact heap_alloc_new wr _; exact hs.out; exact zSizePr.trans hlen.out.symm; exact hone.out; intro w4 hg4 hb4 hs4; have hcell4 := (block_pr hg4).1))
    have B4 := below_var hb4
    have B04 := hbw.trans (B4.mono hbs)
    have hkey := (block_pr hg4).2.1
    replace hvb := hid hvb
    replace hkq := hid hkq
    clear hvq hg4 hb4 r2 hone hlen hs hu2 h3
    refine (PIsValue_is v A' c' vb _ hvl hvb.out).mono ?_
    rintro e w5 ⟨rfl, rfl⟩
    cases vb
    ·have hbad : ans = 8 := by
      rw [← ha.out, if_neg]
      rw [chain_iff]
      intro h
      have := (hG.out.1 (h k)).1
      rw [hvb.out] at this; cases this
     replace hbad := hid hbad
     clear hG
     go_wp2
     go_ret
     exact ⟨ret_iP hbad.out.symm, B04⟩
    ·rcases Nat.eq_zero_or_pos k with h00 | h00
     ·subst h00
      have hnext : ∀ i, i < 0 + 1 → Good ps i := fun i hi => by
       obtain rfl : i = 0 := by omega
       exact hG.out.2 ⟨hvb.out, fun h => absurd h (by omega)⟩
      replace hnext := hid hnext
      clear hG
      go_wp2
      refine wp_region_noPanic ?_
      refine wp_region_held_drew (S := fun w' => Below w.heap.size w w') (by kernel_rfl) ?_ (fun hHeld => ?_)
      ·exact below_drewN B04 1
      refine' tkL 0 ?_ rfl ?_ ?_
      rotate_left
      ·intro W hSw
       go_simp
       first | done | (with_reducible rfl)
      try simp only [Act.put, sQ]
      refine' tkL 1 ?_ rfl ?_ ?_
      rotate_left
      ·intro W hSw
       go_simp
       first | done | (with_reducible rfl)
      try simp only [Act.put, sQ]
      refine' tkL 2 ?_ rfl ?_ ?_
      rotate_left
      ·intro W hSw
       go_simp
       first | done | (with_reducible rfl)
      try simp only [Act.put, sQ]
      refine' tkR 3 rfl ?_
      try simp only [Act.put, sQ]
      refine' tkR 4 rfl ?_
      try simp only [Act.put, sQ]
      refine' tkR 5 rfl ?_
      try simp only [Act.put, sQ]
      refine' tkR 6 rfl ?_
      try simp only [Act.put, sQ]
      refine' tkR 7 rfl ?_
      try simp only [Act.put, sQ]
      refine' tkR 8 rfl ?_
      try simp only [Act.put, sQ]
      refine' tkR 9 rfl ?_
      try simp only [Act.put, sQ]
      refine' tkR 10 rfl ?_
      try simp only [Act.put, sQ]
      refine' tkR 11 rfl ?_
      try simp only [Act.put, sQ]
      refine' tkR 12 rfl ?_
      try simp only [Act.put, sQ]
      refine' tkL 13 ?_ rfl ?_ ?_
      rotate_left
      ·intro W hSw
       go_simp
       first | done | (with_reducible rfl)
      try simp only [Act.put, sQ]
      refine wpAnyH_done (by kernel_rfl) ?_ _
      refine NoPanic.normal ?_
      go_wp2
      go_roundw
      case rel => exact ⟨1, by omega, by go_num, hnext.out, hHeld⟩
      case measure => simp [intOf]; omega
     ·obtain ⟨j, rfl⟩ : ∃ j, k = j + 1 := ⟨k - 1, by omega⟩
      obtain ⟨b', o', hA', r0, -⟩ := hj.out j (by omega)
      injection hA' with hA'
      injection hA' with hb' ho' _
      subst hb' ho'
      have hsub : IntKind.i64.wrap (j : Int) = j := by rw [IntKind.wrap_i64]; omega
      have hj2 : j < ps.length := by omega
      obtain ⟨ab, hab⟩ : ∃ ab, ahead ps[j].k.1 kq.1 = ab := ⟨_, rfl⟩
      have hbad : ab = false → ans = 8 := by
       intro hf
       rw [← ha.out, if_neg]
       rw [chain_iff]
       intro h
       have := (hG.out.1 (h (j + 1))).2 (by omega)
       rw [show ps[j + 1 - 1] = ps[j] from rfl, hab, hf] at this; cases this
      have hnext : ab = true → ∀ i, i < j + 1 + 1 → Good ps i := fun ht i hi => by
       rcases Nat.lt_or_ge i (j + 1) with hi2 | hi2
       ·exact hrel.out i hi2
       ·obtain rfl : i = j + 1 := by omega
        exact hG.out.2 ⟨hvb.out, fun _ => hab.trans ht⟩
      replace hnext := hid hnext
      replace hbad := hid hbad
      replace hab := hid hab
      have hi2 := hid (sizeDgP ps[j].k)
      generalize ps[j].k = kp at *
      have z2 := kp.2
      have hj0 : (0 : Int) ≤ (j : Int) + 1 := by omega
      have R0 := rangeBel2 (hbw.trans (B4.mono hbs)) r0
      clear hG hj
      go_wp2
      refine wp_region_noPanic ?_
      refine wp_region_held_drew (S := fun w' => Below w4.heap.size w4 w') (by kernel_rfl) ?_ (fun hHeld => ?_)
      ·exact bel_drew w4
      refine' tkL 0 ?_ rfl ?_ ?_
      rotate_left
      ·intro W hSw
       go_simp
       first | done | (with_reducible rfl)
      try simp only [Act.put, sQ]
      refine' tkL 1 ?_ rfl ?_ ?_
      rotate_left
      ·intro W hSw
       go_simp
       first | done | (with_reducible rfl)
      try simp only [Act.put, sQ]
      refine' tkL 2 ?_ rfl ?_ ?_
      rotate_left
      ·intro W hSw
       go_simp
       first | done | (with_reducible rfl)
      try simp only [Act.put, sQ]
      refine' tkL 3 ?_ rfl ?_ ?_
      rotate_left
      ·intro W hSw
       go_simp
       first | done | (with_reducible rfl)
      try simp only [Act.put, sQ]
      refine' tkL 4 ?_ rfl ?_ ?_
      rotate_left
      ·intro W hSw
       go_simp
       first | done | (with_reducible rfl)
      try simp only [Act.put, sQ]
      refine' tkL 5 ?_ rfl ?_ ?_
      rotate_left
      ·intro W hSw
       go_simp
       first | done | (with_reducible rfl)
      try simp only [Act.put, sQ]
      refine' tkL 6 ?_ rfl ?_ ?_
      rotate_left
      ·intro W hSw
       go_simp
       first | done | (with_reducible rfl)
      try simp only [Act.put, sQ]
      refine' tkL 7 ?_ rfl ?_ ?_
      rotate_left
      ·intro W hSw
       go_simp
       first | done | (with_reducible rfl)
      try simp only [Act.put, sQ]
      refine' tkH 8 rfl (yieldsIf_load_mid (by rfl) _ _ rfl _ _ rfl _ _ (fun _ h => rangeBel2 h R0) hu rfl hi2.out) ?_
      try simp only [Act.put, sQ]
      refine' tkL 9 ?_ rfl ?_ ?_
      rotate_left
      ·intro W hSw
       go_simp
       first | done | (with_reducible rfl)
      try simp only [Act.put, sQ]
      refine' tkH 10 rfl (yieldsIf_load_mid (by rfl) _ _ rfl _ _ rfl _ _ (fun _ h => rangeBel2 h hkey) hu rfl hi1.out) ?_
      try simp only [Act.put, sQ]
      refine wpAnyH_ready (rs := [11]) (by kernel_rfl) (by simp) ?_
      refine AllReadyH.cons (o := _) rfl (fun K hK => ?_) AllReadyH.nil
      go_simp
      refine (PAhead_of kp kq _ _ ab _ rfl rfl hab.out).mono ?_
      rintro e7 w7 ⟨rfl, hB⟩
      go_wp2_with fail
      refine hK.out _ _ ?_ (fun hHeld => ?_)
      ·exact hHeld.trans (hB.mono hHeld.size)
      clear hK K
      try simp only [Act.put, sQ]
      refine' tkL 12 ?_ rfl ?_ ?_
      rotate_left
      ·intro W hSw
       go_simp
       first | done | (with_reducible rfl)
      try simp only [Act.put, sQ]
      refine' tkL 13 ?_ rfl ?_ ?_
      rotate_left
      ·intro W hSw
       go_simp
       first | done | (with_reducible rfl)
      try simp only [Act.put, sQ]
      refine wpAnyH_done (by kernel_rfl) ?_ _
      refine NoPanic.normal ?_
      have B07 := B04.trans (hHeld.mono B04.size)
      cases ab
      ·replace hbad := hid (hbad.out rfl)
       go_wp2
       go_ret
       exact ⟨ret_iP hbad.out.symm, B07⟩
      ·replace hnext := hid (hnext.out rfl)
       go_wp2
       go_roundw
       case rel => exact ⟨j + 1 + 1, by omega, by go_num, hnext.out, B07⟩
       case measure => simp [intOf]; omega
   ·obtain rfl : k = ps.length := by omega
    have hgood : ans = 0 := by
     rw [← ha.out, if_pos]
     rw [chain_iff]
     intro i h
     exact hrel.out i h h
    replace hgood := hid hgood
    go_wp2
    go_ret
    exact ⟨ret_iP hgood.out.symm, hbw⟩
end

/- (PairsD)
 Contracts of the landed package pairs: firstOf, by whatever closure; find, Get.
-/
section
open Go.RowKit

/-- m is the first place from which on all are so. -/
def Parts (ps : List Pr) (so : Pr → Bool) (m : Nat) : Prop := m ≤ ps.length ∧ (∀ i (h : i < ps.length), i < m → so ps[i] = false) ∧ ∀ i (h : i < ps.length), m ≤ i → so ps[i] = true





end
end Go.Proofs.YtmjocmogfckmmaaGreatDoor
