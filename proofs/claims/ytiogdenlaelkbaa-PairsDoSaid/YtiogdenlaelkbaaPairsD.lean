/-
  Contracts of the landed package pairs: firstOf, by whatever closure; find, Get.
-/
import Derived.Test.YtiogdenlaelkbaaPairsA
import Derived.Test.YtiogdenlaelkbaaClone
import Derived.Test.YtiogdenlaelkbaaEqG
namespace Go.Proofs.Ytiogdenlaelkbaa
open Go.RowKit
set_option linter.unusedVariables false
set_option linter.unusedSimpArgs false

/-- m is the first place from which on all are so. -/
def Parts (ps : List Pr) (so : Pr → Bool) (m : Nat) : Prop := m ≤ ps.length ∧ (∀ i (h : i < ps.length), i < m → so ps[i] = false) ∧ ∀ i (h : i < ps.length), m ≤ i → so ps[i] = true

set_option maxRecDepth 100000 in
set_option maxHeartbeats 1600000 in
theorem PFirstOf_any (F : Nat → Prop) (A : Option Addr) (c m : Nat) (ps : List Pr) (fid : FuncId) (cap : Value) (so : Pr → Bool) (w : World) (hr : Row F w A ps) (hc : ps.length ≤ 1000000)
    (hcl : ∀ (W : World) (k : Dg) (v : List UInt8) (V : Option Addr) (d : Nat), Below w.heap.size w W → Calls Try.prog fid #[.agg (k.1.map bv ++ [Value.slice V v.length d]).toArray, cap] W fun e W' => e = .returned (.bool (so ⟨k, v⟩)) ∧ Below W.heap.size W W')
    (hfid : ∀ (args : Array Value) (W : World), (callFunc fid args).run Try.prog W = .ok (.enter fid args) W) (hp : Parts ps so m) :
    Calls Try.prog 35 #[.slice A ps.length c, .func (.func fid) #[] #[cap]] w fun e w' => e = .returned (.int .i64 (m : Int)) ∧ Below w.heap.size w w' := by
  have hu2 := Try.underlying46
  replace hp := hid hp
  replace hcl := hid hcl
  go_enter Try.func35, Try.ntmps35
  go_wp2
  go_loopw [5, 6] (fun x y wr => ∃ a b : Nat, a ≤ m ∧ m ≤ b ∧ b ≤ ps.length ∧ x = .int .i64 a ∧ y = .int .i64 b ∧ Below w.heap.size w wr) (fun x y _ => (intOf y).toNat - (intOf x).toNat)
  case atStart => exact ⟨0, ps.length, Nat.zero_le _, hp.out.1, Nat.le_refl _, rfl, rfl, Below.refl _ _⟩
  case round =>
    obtain ⟨a, b, ham, hmb, hbl, rfl, rfl, hb⟩ := hrel
    by_cases hlt : a < b
    · have hh : ∃ h : Nat, a + (b - a) / 2 = h ∧ a ≤ h ∧ h < b := ⟨_, rfl, by omega, by omega⟩
      obtain ⟨h, hh1, hh2, hh3⟩ := hh
      have hq : IntKind.i64.wrap ((b : Int) - a) = ((b - a : Nat) : Int) := by rw [IntKind.wrap_i64]; omega
      have hq2 : (a : Int) + ((b - a : Nat) : Int) / 2 = (h : Int) := by omega
      have hhl : h < ps.length := by omega
      obtain ⟨b0, o0, hA, -, V, d, -, r2, h1, h2, h3⟩ := row_pr (hr.bel hb) hhl
      subst hA
      have hs := hid (sizePrP ps[h].k (.slice V ps[h].v.length d))
      have hlo := hp.out.2.1 h hhl
      have hhi := hp.out.2.2 h hhl
      have hps : ps[h] = ⟨ps[h].k, ps[h].v⟩ := rfl
      rw [hps] at hlo hhi
      generalize ps[h].k = k at *
      generalize ps[h].v = v at *
      obtain ⟨sb, hsb⟩ : ∃ sb, so ⟨k, v⟩ = sb := ⟨_, rfl⟩
      rw [hsb] at hlo hhi
      have hC := fun W hW => hcl.out W k v V d hW
      rw [hsb] at hC
      replace hC := hid hC
      replace hlo := hid hlo
      replace hhi := hid hhi
      replace hh1 := hid hh1
      clear hps hsb hr hcl h3 hp
      go_wp2_with (first
        | ((with_reducible refine wpList_load_rng rfl 46 (.tmp 22) rfl b0 (o0 + h * 33) rfl (k.1.map bv ++ [.slice V v.length d]) _ ?_ hu2 rfl hs.out ?_); exact r2))
      refine (hC.out wr hb).mono ?_
      rintro e w1 ⟨rfl, hb1⟩
      have B1 := hb.trans (hb1.mono hb.size)
      cases sb
      · have hmh : Hid (h < m) := by
          rcases Nat.lt_or_ge h m with h1 | h1
          · exact h1
          · have := hhi.out h1; cases this
        clear hlo hhi hC
        go_wp2
        go_roundw
        case rel => exact ⟨h + 1, b, hmh.out, hmb, hbl, by go_num, rfl, B1⟩
        case measure => simp [intOf]; omega
      · have hmh : Hid (m ≤ h) := by
          rcases Nat.lt_or_ge h m with h1 | h1
          · have := hlo.out h1; cases this
          · exact h1
        clear hlo hhi hC
        go_wp2
        go_roundw
        case rel => exact ⟨a, h, ham, hmh.out, by omega, rfl, rfl, B1⟩
        case measure => simp [intOf]; omega
    · have hma : (a : Int) = m := by omega
      replace hma := hid hma
      go_wp2
      go_ret
      exact ⟨ret_iP hma.out, hb⟩

theorem fidFind : ∀ (args : Array Value) (W : World), (callFunc 36 args).run Try.prog W = .ok (.enter 36 args) W := fun _ _ => by kernel_rfl
set_option maxRecDepth 100000 in
set_option maxHeartbeats 1600000 in
theorem PFindC_any (k kq : Dg) (v : List UInt8) (V : Option Addr) (d g : Nat) (w : World) (hg : w.rangeAt g 0 (k.1.map bv)) :
    Calls Try.prog 36 #[.agg (kq.1.map bv ++ [Value.slice V v.length d]).toArray, .pointer (some ⟨g, 0, none⟩)] w fun e w' => e = .returned (.bool (!ahead kq.1 k.1)) ∧ Below w.heap.size w w' := by
  have hu := Try.underlying24
  have hi1 := hid (sizeDgP kq)
  have hi2 := hid (sizeDgP k)
  have d1 := heap_alloc_new w (.cells (kq.1.map bv ++ [Value.slice V v.length d]).toArray 46)
  have B1 := ext_alloc w (.cells (kq.1.map bv ++ [Value.slice V v.length d]).toArray 46)
  have r1 := hid (block_pr d1).2.1
  have r2 := hid (rangeBel2 B1 hg)
  obtain ⟨ab, hab⟩ : ∃ ab, ahead kq.1 k.1 = ab := ⟨_, rfl⟩
  rw [hab]
  replace hab := hid hab
  clear d1 hg
  generalize kq.1.map bv ++ [Value.slice V v.length d] = ds at *
  go_enter Try.func36, Try.ntmps36
  go_wp2_with (first
    | ((with_reducible refine wpList_load_rng rfl 24 (.tmp 4) rfl w.heap.size 0 rfl (kq.1.map bv) _ ?_ hu rfl hi1.out ?_); exact r1.out)
    | ((with_reducible refine wpList_load_rng rfl 24 (.tmp 1) rfl g 0 rfl (k.1.map bv) _ ?_ hu rfl hi2.out ?_); exact r2.out))
  refine (PAhead_of kq k _ _ ab _ rfl rfl hab.out).mono ?_
  rintro e w3 ⟨rfl, hb3⟩
  go_wp2
  go_ret
  exact ⟨rfl, B1.trans (hb3.mono B1.size)⟩

theorem parts_cnt {ps : List Pr} (h : Srt ps) (k : Dg) : Parts ps (fun p => !ahead p.k.1 k.1) (cnt ps k) := by
  refine ⟨cnt_le ps k, fun i hi hlt => ?_, fun i hi hge => ?_⟩
  · have : ps[i] ∈ ps.take (cnt ps k) := by
      rw [List.mem_take_iff_getElem]
      exact ⟨i, by omega, rfl⟩
    simp [cnt_take k _ this]
  · have : ps[i] ∈ ps.drop (cnt ps k) := by
      rw [List.mem_drop_iff_getElem]
      exact ⟨i - cnt ps k, by omega, by congr 1; omega⟩
    simp [cnt_drop h k _ this]

set_option maxRecDepth 100000 in
set_option maxHeartbeats 1600000 in
theorem PFind_any (F : Nat → Prop) (A : Option Addr) (c n : Nat) (ps : List Pr) (k : Dg) (w : World) (hr : Row F w A ps) (hn : n = ps.length) (hc : ps.length ≤ 1000000) (hS : Srt ps) :
    Calls Try.prog 22 #[.slice A n c, .agg (k.1.map bv).toArray] w fun e w' => e = .returned (.tuple #[.int .i64 (cnt ps k : Int), .bool (hasP ps k)]) ∧ Below w.heap.size w w' := by
  subst hn
  have hu := Try.underlying24
  have hbox : (w.alloc (.cells (k.1.map bv).toArray 24)).rangeAt w.heap.size 0 (k.1.map bv) := rangeOf (heap_alloc_new w _)
  have b0 := ext_alloc w (.cells (k.1.map bv).toArray 24)
  have hr0 := hr.bel b0
  have hi := hid (sizeDgP k)
  have hpc := parts_cnt hS k
  have hcl := fun W hW => PFirstOf_any F A c (cnt ps k) ps 36 (.pointer (some ⟨w.heap.size, 0, none⟩)) (fun p => !ahead p.k.1 k.1) W hW hc
  have hC := fun W hW hx => hcl W hW (fun W' kq v V d hW' => PFindC_any k kq v V d w.heap.size W' (rangeBel2 hW' hx)) fidFind hpc
  have hle := cnt_le ps k
  have hat := has_at hS k
  have z := k.2
  clear hcl hpc hS hr
  generalize hds : k.1.map bv = ds at *
  replace hds := hid hds
  generalize hm : cnt ps k = m at *
  replace hC := hid hC
  replace hat := hid hat
  clear hm
  generalize hasP ps k = hv at *
  go_enter Try.func22, Try.ntmps22
  go_wp2_with fail
  refine (hC.out _ hr0 hbox).mono ?_
  rintro e w1 ⟨rfl, hb1⟩
  have hbx := rangeBel2 hb1 hbox
  have hr1 := hr0.bel hb1
  have B1 := b0.trans (hb1.mono b0.size)
  by_cases hlt : m < ps.length
  · obtain ⟨b, o, hA, r1, -⟩ := row_pr hr1 hlt
    subst hA
    obtain ⟨eb, heb⟩ : ∃ eb, decide (ps[m].k = k) = eb := ⟨_, rfl⟩
    have hE : ∀ W, (Op.equalIn 10000 24 (.agg (ps[m].k.1.map bv).toArray) (.agg ds.toArray)).run Try.prog W = .ok eb W := fun W => by
      rw [← hds.out, eq_dig2 _ _ ps[m].k.2 k.2 W]
      congr 1
      rw [← heb]
      exact decide_eq_decide.2 ⟨fun e => Subtype.ext e, fun e => by rw [e]⟩
    have hh : hv = eb := by
      rw [← heb, Bool.eq_iff_iff, hat.out, decide_eq_true_eq]
      exact ⟨fun ⟨_, h⟩ => h, fun h => ⟨hlt, h⟩⟩
    have hi1 := hid (sizeDgP ps[m].k)
    subst hh
    clear heb hat hC hr0 hr1
    generalize ps[m].k = kq at *
    have z1 := kq.2
    go_wp2
    refine wp_region_noPanic ?_
    refine wp_region_held_drew (S := fun w' => Below w1.heap.size w1 w') (by kernel_rfl) ?_ (fun hHeld => ?_)
    · exact bel_drew w1
    refine' wpAnyH_take (i := 0) (oi := _) (v := ?_) rfl (by kernel_rfl) (by kernel_rfl) (by kernel_rfl) (fun _ _ _ h => h) (Or.inl ⟨by rfl, ?_⟩) (by assumption) ?_
    rotate_left
    · intro W hSw
      go_simp
      first | done | (with_reducible rfl)
    try simp only [Act.put, List.setIfInBounds_toArray, List.set_cons_zero, List.set_cons_succ, List.getElem_toArray, List.getElem_cons_succ, List.getElem_cons_zero]
    refine' wpAnyH_take (i := 1) (oi := _) (v := ?_) rfl (by kernel_rfl) (by kernel_rfl) (by kernel_rfl) (fun _ _ _ h => h) (Or.inl ⟨by rfl, ?_⟩) (by assumption) ?_
    rotate_left
    · intro W hSw
      go_simp
      first | done | (with_reducible rfl)
    try simp only [Act.put, List.setIfInBounds_toArray, List.set_cons_zero, List.set_cons_succ, List.getElem_toArray, List.getElem_cons_succ, List.getElem_cons_zero]
    refine' wpAnyH_take (i := 2) (oi := _) (v := ?_) rfl (by kernel_rfl) (by kernel_rfl) (by kernel_rfl) (fun _ _ _ h => h) (Or.inl ⟨by rfl, ?_⟩) (by assumption) ?_
    rotate_left
    · intro W hSw
      go_simp
      first | done | (with_reducible rfl)
    try simp only [Act.put, List.setIfInBounds_toArray, List.set_cons_zero, List.set_cons_succ, List.getElem_toArray, List.getElem_cons_succ, List.getElem_cons_zero]
    refine' wpAnyH_take (i := 3) (oi := _) (v := ?_) rfl (by kernel_rfl) (by kernel_rfl) (by kernel_rfl) (fun _ _ _ h => h) (Or.inl ⟨by rfl, ?_⟩) (by assumption) ?_
    rotate_left
    · intro W hSw
      go_simp
      first | done | (with_reducible rfl)
    try simp only [Act.put, List.setIfInBounds_toArray, List.set_cons_zero, List.set_cons_succ, List.getElem_toArray, List.getElem_cons_succ, List.getElem_cons_zero]
    refine' wpAnyH_take (i := 4) (oi := _) (v := ?_) rfl (by kernel_rfl) (by kernel_rfl) (by kernel_rfl) (fun _ _ _ h => h) (Or.inl ⟨by rfl, ?_⟩) (by assumption) ?_
    rotate_left
    · intro W hSw
      go_simp
      first | done | (with_reducible rfl)
    try simp only [Act.put, List.setIfInBounds_toArray, List.set_cons_zero, List.set_cons_succ, List.getElem_toArray, List.getElem_cons_succ, List.getElem_cons_zero]
    refine' wpAnyH_take (i := 5) (oi := _) (v := ?_) rfl (by kernel_rfl) (by kernel_rfl) (by kernel_rfl) (fun _ _ _ h => h) (Or.inl ⟨by rfl, ?_⟩) (by assumption) ?_
    rotate_left
    · intro W hSw
      go_simp
      first | done | (with_reducible rfl)
    try simp only [Act.put, List.setIfInBounds_toArray, List.set_cons_zero, List.set_cons_succ, List.getElem_toArray, List.getElem_cons_succ, List.getElem_cons_zero]
    refine' wpAnyH_take (i := 6) (oi := _) (v := ?_) rfl (by kernel_rfl) (by kernel_rfl) (by kernel_rfl) (fun _ _ _ h => h) (Or.inl ⟨by rfl, ?_⟩) (by assumption) ?_
    rotate_left
    · intro W hSw
      go_simp
      first | done | (with_reducible rfl)
    try simp only [Act.put, List.setIfInBounds_toArray, List.set_cons_zero, List.set_cons_succ, List.getElem_toArray, List.getElem_cons_succ, List.getElem_cons_zero]
    refine' wpAnyH_take (i := 7) (oi := _) (v := ?_) rfl (by kernel_rfl) (by kernel_rfl) (by kernel_rfl) (fun _ _ _ h => h) (Or.inl ⟨by rfl, ?_⟩) (by assumption) ?_
    rotate_left
    · intro W hSw
      go_simp
      first | done | (with_reducible rfl)
    try simp only [Act.put, List.setIfInBounds_toArray, List.set_cons_zero, List.set_cons_succ, List.getElem_toArray, List.getElem_cons_succ, List.getElem_cons_zero]
    refine' wpAnyH_take (i := 8) (oi := _) (v := ?_) rfl (by kernel_rfl) (by kernel_rfl) (by kernel_rfl) (fun _ _ _ h => h) (Or.inl ⟨by rfl, ?_⟩) (by assumption) ?_
    rotate_left
    · intro W hSw
      go_simp
      first | done | (with_reducible rfl)
    try simp only [Act.put, List.setIfInBounds_toArray, List.set_cons_zero, List.set_cons_succ, List.getElem_toArray, List.getElem_cons_succ, List.getElem_cons_zero]
    refine' wpAnyH_take (i := 9) (oi := _) (v := ?_) rfl (by kernel_rfl) (by kernel_rfl) (by kernel_rfl) (fun _ _ _ h => h) (Or.inl ⟨by rfl, ?_⟩) (by assumption) ?_
    rotate_left
    · intro W hSw
      go_simp
      first | done | (with_reducible rfl)
    try simp only [Act.put, List.setIfInBounds_toArray, List.set_cons_zero, List.set_cons_succ, List.getElem_toArray, List.getElem_cons_succ, List.getElem_cons_zero]
    refine' wpAnyH_take (i := 10) (oi := _) (v := _) rfl (by kernel_rfl) (by kernel_rfl) (by kernel_rfl) (fun _ _ _ h => h) (yieldsIf_load_mid (by rfl) _ _ rfl _ _ rfl _ _ (fun _ h => rangeBel2 h r1) hu rfl hi1.out) (by assumption) ?_
    try simp only [Act.put, List.setIfInBounds_toArray, List.set_cons_zero, List.set_cons_succ, List.getElem_toArray, List.getElem_cons_succ, List.getElem_cons_zero]
    refine' wpAnyH_take (i := 11) (oi := _) (v := _) rfl (by kernel_rfl) (by kernel_rfl) (by kernel_rfl) (fun _ _ _ h => h) (yieldsIf_load_mid (by rfl) _ _ rfl _ _ rfl _ _ (fun _ h => rangeBel2 h hbx) hu rfl hi.out) (by assumption) ?_
    try simp only [Act.put, List.setIfInBounds_toArray, List.set_cons_zero, List.set_cons_succ, List.getElem_toArray, List.getElem_cons_succ, List.getElem_cons_zero]
    refine' wpAnyH_take (i := 12) (oi := _) (v := ?_) rfl (by kernel_rfl) (by kernel_rfl) (by kernel_rfl) (fun _ _ _ h => h) (Or.inl ⟨by rfl, ?_⟩) (by assumption) ?_
    rotate_left
    · intro W hSw
      go_simp
      first | done | (with_reducible rfl)
    try simp only [Act.put, List.setIfInBounds_toArray, List.set_cons_zero, List.set_cons_succ, List.getElem_toArray, List.getElem_cons_succ, List.getElem_cons_zero]
    refine' wpAnyH_take (i := 13) (oi := _) (v := ?_) rfl (by kernel_rfl) (by kernel_rfl) (by kernel_rfl) (fun _ _ _ h => h) (Or.inl ⟨by rfl, ?_⟩) (by assumption) ?_
    rotate_left
    · intro W hSw
      go_simp
      first | done | (with_reducible rfl)
    try simp only [Act.put, List.setIfInBounds_toArray, List.set_cons_zero, List.set_cons_succ, List.getElem_toArray, List.getElem_cons_succ, List.getElem_cons_zero]
    refine' wpAnyH_take (i := 14) (oi := _) (v := ?_) rfl (by kernel_rfl) (by kernel_rfl) (by kernel_rfl) (fun _ _ _ h => h) (Or.inl ⟨by rfl, ?_⟩) (by assumption) ?_
    rotate_left
    · intro W hSw
      go_simp
      first | done | (with_reducible rfl)
    try simp only [Act.put, List.setIfInBounds_toArray, List.set_cons_zero, List.set_cons_succ, List.getElem_toArray, List.getElem_cons_succ, List.getElem_cons_zero]
    refine' wpAnyH_take (i := 15) (oi := _) (v := ?_) rfl (by kernel_rfl) (by kernel_rfl) (by kernel_rfl) (fun _ _ _ h => h) (Or.inl ⟨by rfl, ?_⟩) (by assumption) ?_
    rotate_left
    · intro W hSw
      go_simp
      first | done | (with_reducible rfl)
    try simp only [Act.put, List.setIfInBounds_toArray, List.set_cons_zero, List.set_cons_succ, List.getElem_toArray, List.getElem_cons_succ, List.getElem_cons_zero]
    refine wpAnyH_done (by kernel_rfl) ?_ _
    refine NoPanic.normal ?_
    go_wp2
    go_ret2
    exact ⟨rfl, B1.trans (hHeld.mono B1.size)⟩
  · have hh : hv = false := by
      rw [← Bool.not_eq_true, hat.out]
      rintro ⟨h, _⟩
      exact hlt h
    subst hh
    clear hat hC hr0 hr1
    go_wp2
    refine wp_region_noPanic ?_
    refine wp_region_held_drew (S := fun w' => Below w1.heap.size w1 w') (by kernel_rfl) ?_ (fun hHeld => ?_)
    · exact bel_drew w1
    refine' wpAnyH_take (i := 0) (oi := _) (v := ?_) rfl (by kernel_rfl) (by kernel_rfl) (by kernel_rfl) (fun _ _ _ h => h) (Or.inl ⟨by rfl, ?_⟩) (by assumption) ?_
    rotate_left
    · intro W hSw
      go_simp
      first | done | (with_reducible rfl)
    try simp only [Act.put, List.setIfInBounds_toArray, List.set_cons_zero, List.set_cons_succ, List.getElem_toArray, List.getElem_cons_succ, List.getElem_cons_zero]
    refine' wpAnyH_take (i := 1) (oi := _) (v := ?_) rfl (by kernel_rfl) (by kernel_rfl) (by kernel_rfl) (fun _ _ _ h => h) (Or.inl ⟨by rfl, ?_⟩) (by assumption) ?_
    rotate_left
    · intro W hSw
      go_simp
      first | done | (with_reducible rfl)
    try simp only [Act.put, List.setIfInBounds_toArray, List.set_cons_zero, List.set_cons_succ, List.getElem_toArray, List.getElem_cons_succ, List.getElem_cons_zero]
    refine' wpAnyH_take (i := 2) (oi := _) (v := ?_) rfl (by kernel_rfl) (by kernel_rfl) (by kernel_rfl) (fun _ _ _ h => h) (Or.inl ⟨by rfl, ?_⟩) (by assumption) ?_
    rotate_left
    · intro W hSw
      go_simp
      first | done | (with_reducible rfl)
    try simp only [Act.put, List.setIfInBounds_toArray, List.set_cons_zero, List.set_cons_succ, List.getElem_toArray, List.getElem_cons_succ, List.getElem_cons_zero]
    refine' wpAnyH_take (i := 3) (oi := _) (v := ?_) rfl (by kernel_rfl) (by kernel_rfl) (by kernel_rfl) (fun _ _ _ h => h) (Or.inl ⟨by rfl, ?_⟩) (by assumption) ?_
    rotate_left
    · intro W hSw
      go_simp
      first | done | (with_reducible rfl)
    try simp only [Act.put, List.setIfInBounds_toArray, List.set_cons_zero, List.set_cons_succ, List.getElem_toArray, List.getElem_cons_succ, List.getElem_cons_zero]
    refine' wpAnyH_take (i := 4) (oi := _) (v := ?_) rfl (by kernel_rfl) (by kernel_rfl) (by kernel_rfl) (fun _ _ _ h => h) (Or.inl ⟨by rfl, ?_⟩) (by assumption) ?_
    rotate_left
    · intro W hSw
      go_simp
      first | done | (with_reducible rfl)
    try simp only [Act.put, List.setIfInBounds_toArray, List.set_cons_zero, List.set_cons_succ, List.getElem_toArray, List.getElem_cons_succ, List.getElem_cons_zero]
    refine' wpAnyH_take (i := 5) (oi := _) (v := ?_) rfl (by kernel_rfl) (by kernel_rfl) (by kernel_rfl) (fun _ _ _ h => h) (Or.inl ⟨by rfl, ?_⟩) (by assumption) ?_
    rotate_left
    · intro W hSw
      go_simp
      first | done | (with_reducible rfl)
    try simp only [Act.put, List.setIfInBounds_toArray, List.set_cons_zero, List.set_cons_succ, List.getElem_toArray, List.getElem_cons_succ, List.getElem_cons_zero]
    refine' wpAnyH_take (i := 6) (oi := _) (v := _) rfl (by kernel_rfl) (by kernel_rfl) (by kernel_rfl) (fun _ _ _ h => h) (Or.inr ⟨by rfl, rfl⟩) (by assumption) ?_
    try simp only [Act.put, List.setIfInBounds_toArray, List.set_cons_zero, List.set_cons_succ, List.getElem_toArray, List.getElem_cons_succ, List.getElem_cons_zero]
    refine' wpAnyH_take (i := 7) (oi := _) (v := _) rfl (by kernel_rfl) (by kernel_rfl) (by kernel_rfl) (fun _ _ _ h => h) (Or.inr ⟨by rfl, rfl⟩) (by assumption) ?_
    try simp only [Act.put, List.setIfInBounds_toArray, List.set_cons_zero, List.set_cons_succ, List.getElem_toArray, List.getElem_cons_succ, List.getElem_cons_zero]
    refine' wpAnyH_take (i := 8) (oi := _) (v := _) rfl (by kernel_rfl) (by kernel_rfl) (by kernel_rfl) (fun _ _ _ h => h) (Or.inr ⟨by rfl, rfl⟩) (by assumption) ?_
    try simp only [Act.put, List.setIfInBounds_toArray, List.set_cons_zero, List.set_cons_succ, List.getElem_toArray, List.getElem_cons_succ, List.getElem_cons_zero]
    refine' wpAnyH_take (i := 9) (oi := _) (v := _) rfl (by kernel_rfl) (by kernel_rfl) (by kernel_rfl) (fun _ _ _ h => h) (Or.inr ⟨by rfl, rfl⟩) (by assumption) ?_
    try simp only [Act.put, List.setIfInBounds_toArray, List.set_cons_zero, List.set_cons_succ, List.getElem_toArray, List.getElem_cons_succ, List.getElem_cons_zero]
    refine' wpAnyH_take (i := 10) (oi := _) (v := _) rfl (by kernel_rfl) (by kernel_rfl) (by kernel_rfl) (fun _ _ _ h => h) (Or.inr ⟨by rfl, rfl⟩) (by assumption) ?_
    try simp only [Act.put, List.setIfInBounds_toArray, List.set_cons_zero, List.set_cons_succ, List.getElem_toArray, List.getElem_cons_succ, List.getElem_cons_zero]
    refine' wpAnyH_take (i := 11) (oi := _) (v := _) rfl (by kernel_rfl) (by kernel_rfl) (by kernel_rfl) (fun _ _ _ h => h) (Or.inr ⟨by rfl, rfl⟩) (by assumption) ?_
    try simp only [Act.put, List.setIfInBounds_toArray, List.set_cons_zero, List.set_cons_succ, List.getElem_toArray, List.getElem_cons_succ, List.getElem_cons_zero]
    refine' wpAnyH_take (i := 12) (oi := _) (v := _) rfl (by kernel_rfl) (by kernel_rfl) (by kernel_rfl) (fun _ _ _ h => h) (Or.inr ⟨by rfl, rfl⟩) (by assumption) ?_
    try simp only [Act.put, List.setIfInBounds_toArray, List.set_cons_zero, List.set_cons_succ, List.getElem_toArray, List.getElem_cons_succ, List.getElem_cons_zero]
    refine' wpAnyH_take (i := 13) (oi := _) (v := ?_) rfl (by kernel_rfl) (by kernel_rfl) (by kernel_rfl) (fun _ _ _ h => h) (Or.inl ⟨by rfl, ?_⟩) (by assumption) ?_
    rotate_left
    · intro W hSw
      go_simp
      first | done | (with_reducible rfl)
    try simp only [Act.put, List.setIfInBounds_toArray, List.set_cons_zero, List.set_cons_succ, List.getElem_toArray, List.getElem_cons_succ, List.getElem_cons_zero]
    refine' wpAnyH_take (i := 14) (oi := _) (v := ?_) rfl (by kernel_rfl) (by kernel_rfl) (by kernel_rfl) (fun _ _ _ h => h) (Or.inl ⟨by rfl, ?_⟩) (by assumption) ?_
    rotate_left
    · intro W hSw
      go_simp
      first | done | (with_reducible rfl)
    try simp only [Act.put, List.setIfInBounds_toArray, List.set_cons_zero, List.set_cons_succ, List.getElem_toArray, List.getElem_cons_succ, List.getElem_cons_zero]
    refine' wpAnyH_take (i := 15) (oi := _) (v := ?_) rfl (by kernel_rfl) (by kernel_rfl) (by kernel_rfl) (fun _ _ _ h => h) (Or.inl ⟨by rfl, ?_⟩) (by assumption) ?_
    rotate_left
    · intro W hSw
      go_simp
      first | done | (with_reducible rfl)
    try simp only [Act.put, List.setIfInBounds_toArray, List.set_cons_zero, List.set_cons_succ, List.getElem_toArray, List.getElem_cons_succ, List.getElem_cons_zero]
    refine wpAnyH_done (by kernel_rfl) ?_ _
    refine NoPanic.normal ?_
    go_wp2
    go_ret2
    exact ⟨rfl, B1.trans (hHeld.mono B1.size)⟩

theorem may_srtP {ps : List Pr} (h : mayP ps = true) : Srt ps ∧ ps.length ≤ 512 ∧ ∀ p ∈ ps, p.v.length ≤ 64 := by
  unfold mayP at h
  simp at h
  have h2 := chain_srt ps h.2
  refine ⟨h2.1, h.1, fun p hp => ?_⟩
  have := h2.2 p hp
  unfold valB at this
  simp at this
  exact this.2
end Go.Proofs.Ytiogdenlaelkbaa
