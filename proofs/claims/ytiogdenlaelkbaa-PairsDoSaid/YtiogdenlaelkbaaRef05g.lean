/-
  The document's answers of layer 5: With, Put.
-/
import Derived.Test.YtiogdenlaelkbaaRef05f
namespace Go.Proofs.Ytiogdenlaelkbaa
open Go.RowKit
set_option linter.unusedVariables false
set_option linter.unusedSimpArgs false

theorem ret_sl {A : Option Addr} {n m c : Nat} (h : n = m) : Ending.returned (.slice A n c) = .returned (.slice A m c) := by rw [h]
theorem cnt_step {ps : List Pr} {k : Dg} {j : Nat} (hj : j < ps.length) (h : ∀ p ∈ ps.take j, ahead p.k.1 k.1 = true) (ha : ahead ps[j].k.1 k.1 = true) : ∀ p ∈ ps.take (j + 1), ahead p.k.1 k.1 = true := by
  intro p hp
  rw [List.take_succ_eq_append_getElem hj] at hp
  rcases List.mem_append.1 hp with hp | hp
  · exact h p hp
  · simp at hp; rw [hp]; exact ha
theorem cnt_stop {ps : List Pr} {k : Dg} {j : Nat} (hj : j ≤ ps.length) (h : ∀ p ∈ ps.take j, ahead p.k.1 k.1 = true) (hn : ∀ hl : j < ps.length, ahead ps[j].k.1 k.1 = false) : cnt ps k = j := by
  induction ps generalizing j with
  | nil => simp at hj; subst hj; rfl
  | cons q ps ih =>
    rw [cnt_cons]
    rcases j with _ | j
    · rw [if_neg]
      have := hn (by simp)
      simp at this
      rw [this]; simp
    · rw [if_pos (h q (by simp))]
      rw [ih (by simpa using hj) (fun p hp => h p (by simp [hp])) (fun hl => hn (by simpa using hl))]

set_option maxRecDepth 100000 in
set_option maxHeartbeats 1600000 in
theorem RWith_any (F : Nat → Prop) (A V : Option Addr) (c n m d : Nat) (ps : List Pr) (k : Dg) (v : List UInt8) (w : World) (hr : Row F w A ps) (hn : n = ps.length) (hrv : Rd w V v) (hm : m = v.length) (hc : ps.length ≤ 1000000) (hv : ∀ p ∈ ps, p.v.length ≤ 1000000) (hvl : v.length ≤ 1000000) :
    Calls Try.prog 29 #[.slice A n c, .agg (k.1.map bv).toArray, .slice V m d] w fun e w' => ∃ A' c', e = .returned (.slice A' (withP ps k v).length c') ∧ OwnR 46 w' w.heap.size A' c' (withP ps k v) ∧ Below w.heap.size w w' := by
  subst hn hm
  have hu := Try.underlying24
  have hbox := boxed_range w k 24
  have b0 := ext_alloc w (.cells (k.1.map bv).toArray 24)
  have sz : (w.alloc (.cells (k.1.map bv).toArray 24)).heap.size = w.heap.size + 1 := World.size_alloc _ _
  have hi := sizeDg k
  have hwl := without_length_le ps k
  have hO := fun W hW => RWithout_any F A c ps.length ps k W hW rfl hc hv
  have hr0 := hr.bel b0
  have hrv0 := hrv.bel b0
  obtain ⟨rest, hrest⟩ : ∃ r, withoutP ps k = r := ⟨_, rfl⟩
  have e0 : withP ps k v = rest.take (cnt rest k) ++ ⟨k, v⟩ :: rest.drop (cnt rest k) := by rw [← hrest]; rfl
  obtain ⟨res, hres⟩ : ∃ r, withP ps k v = r := ⟨_, rfl⟩
  rw [hres] at e0 ⊢
  rw [hrest] at hO hwl
  obtain ⟨ds, hds⟩ : ∃ ds, ds = k.1.map bv := ⟨_, rfl⟩
  rw [← hds] at hbox b0 hi hr0 hrv0 sz hO ⊢
  replace e0 := hid e0
  replace hds := hid hds
  replace hi := hid hi
  replace hO := hid hO
  clear hr hrv hrest hres hv
  go_enter Try.func29, Try.ntmps29
  go_wp2_with (first
    | ((with_reducible refine wpList_load_rng rfl 24 (.tmp 4) rfl w.heap.size 0 rfl ds _ ?_ hu rfl hi.out ?_); exact hbox))
  refine (hO.out _ hr0).mono ?_
  rintro e w2 ⟨A2, c2, rfl, ho2, hb2⟩
  have hbx := rangeBel2 hb2 hbox
  have hrv2 := hrv0.bel hb2
  replace b0 := b0.trans (hb2.mono b0.size)
  generalize w.alloc (.cells ds.toArray 24) = w1 at *
  replace sz := hid sz
  have hrow := ho2.row
  have hcap := ho2.cap
  go_wp2
  go_loopw [8] (fun i wr => ∃ j : Nat, j ≤ rest.length ∧ i = .int .i64 j ∧ (∀ p ∈ rest.take j, ahead p.k.1 k.1 = true) ∧ Below w2.heap.size w2 wr) (fun i _ => rest.length - (intOf i).toNat)
  case atStart => exact ⟨0, Nat.zero_le _, rfl, by simp, Below.refl _ _⟩
  case round =>
    obtain ⟨j, hj, rfl, hrel, hb⟩ := hrel
    by_cases hlt : j < rest.length
    case' pos =>
      obtain ⟨b, o, hA, r1, -⟩ := row_pr hrow hlt
      obtain ⟨ab, hab⟩ : ∃ ab, ahead rest[j].k.1 k.1 = ab := ⟨_, rfl⟩
      have hnext : Hid (ab = true → ∀ p ∈ rest.take (j + 1), ahead p.k.1 k.1 = true) := fun h => cnt_step hlt hrel (hab.trans h)
      have hstop : Hid (ab = false → cnt rest k = j) := fun h => cnt_stop hj hrel (fun _ => hab.trans h)
      replace hrel := hid hrel
      replace hab := hid hab
      have hi1 := hid (sizeDg rest[j].k)
      generalize rest[j].k = kq at *
      have z1 := kq.2
      have hE : ∀ W, Calls Try.prog 37 #[.agg (kq.1.map bv).toArray, .agg ds.toArray] W fun r w' => r = .returned (.bool ab) ∧ Below W.heap.size W w' := fun W => by
        rw [hds.out]
        exact RAhead_is kq k _ _ ab W rfl rfl hab.out
      replace hE := hid hE
      subst hA
      go_wp2
      refine wp_region_noPanic ?_
      refine wp_region_held_drew (S := fun w' => Below w2.heap.size w2 w') (by kernel_rfl) ?_ (fun hHeld => ?_)
      · exact below_drewN hb 1
      refine' wpAnyH_take (i := 0) (oi := _) (v := ?_) rfl (by kernel_rfl) (by kernel_rfl) (by kernel_rfl) (fun _ _ _ h => h) (Or.inl ⟨by rfl, ?_⟩) (by assumption) ?_
      rotate_left
      · intro W hSw
        go_simp
        first | done | (with_reducible rfl)
      try simp only [Act.put, List.setIfInBounds_toArray, List.set_cons_zero, List.set_cons_succ, List.getElem_toArray, List.getElem_cons_succ, List.getElem_cons_zero]
      refine' wpAnyH_take (i := 1) (oi := _) (v := ?_) rfl (by kernel_rfl) (by kernel_rfl) (by kernel_rfl) (fun _ _ _ h => h) (Or.inl ⟨by rfl, ?_⟩) (by assumption) ?_
      rotate_left
      · intro W hSw
        go_simp
        first | done | (with_reducible rfl)
      try simp only [Act.put, List.setIfInBounds_toArray, List.set_cons_zero, List.set_cons_succ, List.getElem_toArray, List.getElem_cons_succ, List.getElem_cons_zero]
      refine' wpAnyH_take (i := 2) (oi := _) (v := ?_) rfl (by kernel_rfl) (by kernel_rfl) (by kernel_rfl) (fun _ _ _ h => h) (Or.inl ⟨by rfl, ?_⟩) (by assumption) ?_
      rotate_left
      · intro W hSw
        go_simp
        first | done | (with_reducible rfl)
      try simp only [Act.put, List.setIfInBounds_toArray, List.set_cons_zero, List.set_cons_succ, List.getElem_toArray, List.getElem_cons_succ, List.getElem_cons_zero]
      refine' wpAnyH_take (i := 3) (oi := _) (v := ?_) rfl (by kernel_rfl) (by kernel_rfl) (by kernel_rfl) (fun _ _ _ h => h) (Or.inl ⟨by rfl, ?_⟩) (by assumption) ?_
      rotate_left
      · intro W hSw
        go_simp
        first | done | (with_reducible rfl)
      try simp only [Act.put, List.setIfInBounds_toArray, List.set_cons_zero, List.set_cons_succ, List.getElem_toArray, List.getElem_cons_succ, List.getElem_cons_zero]
      refine' wpAnyH_take (i := 4) (oi := _) (v := ?_) rfl (by kernel_rfl) (by kernel_rfl) (by kernel_rfl) (fun _ _ _ h => h) (Or.inl ⟨by rfl, ?_⟩) (by assumption) ?_
      rotate_left
      · intro W hSw
        go_simp
        first | done | (with_reducible rfl)
      try simp only [Act.put, List.setIfInBounds_toArray, List.set_cons_zero, List.set_cons_succ, List.getElem_toArray, List.getElem_cons_succ, List.getElem_cons_zero]
      refine' wpAnyH_take (i := 5) (oi := _) (v := ?_) rfl (by kernel_rfl) (by kernel_rfl) (by kernel_rfl) (fun _ _ _ h => h) (Or.inl ⟨by rfl, ?_⟩) (by assumption) ?_
      rotate_left
      · intro W hSw
        go_simp
        first | done | (with_reducible rfl)
      try simp only [Act.put, List.setIfInBounds_toArray, List.set_cons_zero, List.set_cons_succ, List.getElem_toArray, List.getElem_cons_succ, List.getElem_cons_zero]
      refine' wpAnyH_take (i := 6) (oi := _) (v := ?_) rfl (by kernel_rfl) (by kernel_rfl) (by kernel_rfl) (fun _ _ _ h => h) (Or.inl ⟨by rfl, ?_⟩) (by assumption) ?_
      rotate_left
      · intro W hSw
        go_simp
        first | done | (with_reducible rfl)
      try simp only [Act.put, List.setIfInBounds_toArray, List.set_cons_zero, List.set_cons_succ, List.getElem_toArray, List.getElem_cons_succ, List.getElem_cons_zero]
      refine' wpAnyH_take (i := 7) (oi := _) (v := ?_) rfl (by kernel_rfl) (by kernel_rfl) (by kernel_rfl) (fun _ _ _ h => h) (Or.inl ⟨by rfl, ?_⟩) (by assumption) ?_
      rotate_left
      · intro W hSw
        go_simp
        first | done | (with_reducible rfl)
      try simp only [Act.put, List.setIfInBounds_toArray, List.set_cons_zero, List.set_cons_succ, List.getElem_toArray, List.getElem_cons_succ, List.getElem_cons_zero]
      refine' wpAnyH_take (i := 8) (oi := _) (v := ?_) rfl (by kernel_rfl) (by kernel_rfl) (by kernel_rfl) (fun _ _ _ h => h) (Or.inl ⟨by rfl, ?_⟩) (by assumption) ?_
      rotate_left
      · intro W hSw
        go_simp
        first | done | (with_reducible rfl)
      try simp only [Act.put, List.setIfInBounds_toArray, List.set_cons_zero, List.set_cons_succ, List.getElem_toArray, List.getElem_cons_succ, List.getElem_cons_zero]
      refine' wpAnyH_take (i := 9) (oi := _) (v := _) rfl (by kernel_rfl) (by kernel_rfl) (by kernel_rfl) (fun _ _ _ h => h) (yieldsIf_load_mid (by rfl) _ _ rfl _ _ rfl _ _ (fun _ h => rangeBel2 h r1) hu rfl hi1.out) (by assumption) ?_
      try simp only [Act.put, List.setIfInBounds_toArray, List.set_cons_zero, List.set_cons_succ, List.getElem_toArray, List.getElem_cons_succ, List.getElem_cons_zero]
      refine' wpAnyH_take (i := 10) (oi := _) (v := _) rfl (by kernel_rfl) (by kernel_rfl) (by kernel_rfl) (fun _ _ _ h => h) (yieldsIf_load_mid (by rfl) _ _ rfl _ _ rfl _ _ (fun _ h => rangeBel2 h hbx) hu rfl hi.out) (by assumption) ?_
      try simp only [Act.put, List.setIfInBounds_toArray, List.set_cons_zero, List.set_cons_succ, List.getElem_toArray, List.getElem_cons_succ, List.getElem_cons_zero]
      refine wpAnyH_ready (rs := [11]) (by kernel_rfl) (by simp) ?_
      refine AllReadyH.cons (o := _) rfl (fun K hK => ?_) AllReadyH.nil
      go_simp
      refine (hE.out _).mono ?_
      rintro e7 w7 ⟨rfl, hB⟩
      go_wp2_with fail
      refine hK.out _ _ ?_ (fun hHeld => ?_)
      · exact hHeld.trans (hB.mono hHeld.size)
      clear hK K
      try simp only [Act.put, List.setIfInBounds_toArray, List.set_cons_zero, List.set_cons_succ, List.getElem_toArray, List.getElem_cons_succ, List.getElem_cons_zero]
      refine' wpAnyH_take (i := 12) (oi := _) (v := ?_) rfl (by kernel_rfl) (by kernel_rfl) (by kernel_rfl) (fun _ _ _ h => h) (Or.inl ⟨by rfl, ?_⟩) (by assumption) ?_
      rotate_left
      · intro W hSw
        go_simp
        first | done | (with_reducible rfl)
      try simp only [Act.put, List.setIfInBounds_toArray, List.set_cons_zero, List.set_cons_succ, List.getElem_toArray, List.getElem_cons_succ, List.getElem_cons_zero]
      refine wpAnyH_done (by kernel_rfl) ?_ _
      refine NoPanic.normal ?_
      cases ab
      case' true =>
        replace hnext := hid (hnext.out rfl)
        clear hstop
        go_wp2
        go_roundw
        case rel => exact ⟨j + 1, by omega, by go_num, hnext.out, hHeld⟩
        case measure => simp [intOf]; omega
      case' false =>
        replace hstop := hid (hstop.out rfl)
        clear hnext hE hi1 z1 hab r1 hlt hrel hb hB
        generalize kq.1.map bv = ks
        clear kq
        generalize (some (⟨b, o, none⟩ : Addr)) = A2 at *
    case' neg =>
      have hstop : Hid (cnt rest k = j) := cnt_stop hj hrel (fun h => absurd h hlt)
      go_wp2
      refine wp_region_noPanic ?_
      refine wp_region_held_drew (S := fun w' => Below w2.heap.size w2 w') (by kernel_rfl) ?_ (fun hHeld => ?_)
      · exact below_drewN hb 1
      refine' wpAnyH_take (i := 0) (oi := _) (v := ?_) rfl (by kernel_rfl) (by kernel_rfl) (by kernel_rfl) (fun _ _ _ h => h) (Or.inl ⟨by rfl, ?_⟩) (by assumption) ?_
      rotate_left
      · intro W hSw
        go_simp
        first | done | (with_reducible rfl)
      try simp only [Act.put, List.setIfInBounds_toArray, List.set_cons_zero, List.set_cons_succ, List.getElem_toArray, List.getElem_cons_succ, List.getElem_cons_zero]
      refine' wpAnyH_take (i := 1) (oi := _) (v := ?_) rfl (by kernel_rfl) (by kernel_rfl) (by kernel_rfl) (fun _ _ _ h => h) (Or.inl ⟨by rfl, ?_⟩) (by assumption) ?_
      rotate_left
      · intro W hSw
        go_simp
        first | done | (with_reducible rfl)
      try simp only [Act.put, List.setIfInBounds_toArray, List.set_cons_zero, List.set_cons_succ, List.getElem_toArray, List.getElem_cons_succ, List.getElem_cons_zero]
      refine' wpAnyH_take (i := 2) (oi := _) (v := ?_) rfl (by kernel_rfl) (by kernel_rfl) (by kernel_rfl) (fun _ _ _ h => h) (Or.inl ⟨by rfl, ?_⟩) (by assumption) ?_
      rotate_left
      · intro W hSw
        go_simp
        first | done | (with_reducible rfl)
      try simp only [Act.put, List.setIfInBounds_toArray, List.set_cons_zero, List.set_cons_succ, List.getElem_toArray, List.getElem_cons_succ, List.getElem_cons_zero]
      refine' wpAnyH_take (i := 3) (oi := _) (v := ?_) rfl (by kernel_rfl) (by kernel_rfl) (by kernel_rfl) (fun _ _ _ h => h) (Or.inl ⟨by rfl, ?_⟩) (by assumption) ?_
      rotate_left
      · intro W hSw
        go_simp
        first | done | (with_reducible rfl)
      try simp only [Act.put, List.setIfInBounds_toArray, List.set_cons_zero, List.set_cons_succ, List.getElem_toArray, List.getElem_cons_succ, List.getElem_cons_zero]
      refine' wpAnyH_take (i := 4) (oi := _) (v := ?_) rfl (by kernel_rfl) (by kernel_rfl) (by kernel_rfl) (fun _ _ _ h => h) (Or.inl ⟨by rfl, ?_⟩) (by assumption) ?_
      rotate_left
      · intro W hSw
        go_simp
        first | done | (with_reducible rfl)
      try simp only [Act.put, List.setIfInBounds_toArray, List.set_cons_zero, List.set_cons_succ, List.getElem_toArray, List.getElem_cons_succ, List.getElem_cons_zero]
      refine' wpAnyH_take (i := 5) (oi := _) (v := _) rfl (by kernel_rfl) (by kernel_rfl) (by kernel_rfl) (fun _ _ _ h => h) (Or.inr ⟨by rfl, rfl⟩) (by assumption) ?_
      try simp only [Act.put, List.setIfInBounds_toArray, List.set_cons_zero, List.set_cons_succ, List.getElem_toArray, List.getElem_cons_succ, List.getElem_cons_zero]
      refine' wpAnyH_take (i := 6) (oi := _) (v := _) rfl (by kernel_rfl) (by kernel_rfl) (by kernel_rfl) (fun _ _ _ h => h) (Or.inr ⟨by rfl, rfl⟩) (by assumption) ?_
      try simp only [Act.put, List.setIfInBounds_toArray, List.set_cons_zero, List.set_cons_succ, List.getElem_toArray, List.getElem_cons_succ, List.getElem_cons_zero]
      refine' wpAnyH_take (i := 7) (oi := _) (v := _) rfl (by kernel_rfl) (by kernel_rfl) (by kernel_rfl) (fun _ _ _ h => h) (Or.inr ⟨by rfl, rfl⟩) (by assumption) ?_
      try simp only [Act.put, List.setIfInBounds_toArray, List.set_cons_zero, List.set_cons_succ, List.getElem_toArray, List.getElem_cons_succ, List.getElem_cons_zero]
      refine' wpAnyH_take (i := 8) (oi := _) (v := _) rfl (by kernel_rfl) (by kernel_rfl) (by kernel_rfl) (fun _ _ _ h => h) (Or.inr ⟨by rfl, rfl⟩) (by assumption) ?_
      try simp only [Act.put, List.setIfInBounds_toArray, List.set_cons_zero, List.set_cons_succ, List.getElem_toArray, List.getElem_cons_succ, List.getElem_cons_zero]
      refine' wpAnyH_take (i := 9) (oi := _) (v := _) rfl (by kernel_rfl) (by kernel_rfl) (by kernel_rfl) (fun _ _ _ h => h) (Or.inr ⟨by rfl, rfl⟩) (by assumption) ?_
      try simp only [Act.put, List.setIfInBounds_toArray, List.set_cons_zero, List.set_cons_succ, List.getElem_toArray, List.getElem_cons_succ, List.getElem_cons_zero]
      refine' wpAnyH_take (i := 10) (oi := _) (v := _) rfl (by kernel_rfl) (by kernel_rfl) (by kernel_rfl) (fun _ _ _ h => h) (Or.inr ⟨by rfl, rfl⟩) (by assumption) ?_
      try simp only [Act.put, List.setIfInBounds_toArray, List.set_cons_zero, List.set_cons_succ, List.getElem_toArray, List.getElem_cons_succ, List.getElem_cons_zero]
      refine' wpAnyH_take (i := 11) (oi := _) (v := _) rfl (by kernel_rfl) (by kernel_rfl) (by kernel_rfl) (fun _ _ _ h => h) (Or.inr ⟨by rfl, rfl⟩) (by assumption) ?_
      try simp only [Act.put, List.setIfInBounds_toArray, List.set_cons_zero, List.set_cons_succ, List.getElem_toArray, List.getElem_cons_succ, List.getElem_cons_zero]
      refine' wpAnyH_take (i := 12) (oi := _) (v := ?_) rfl (by kernel_rfl) (by kernel_rfl) (by kernel_rfl) (fun _ _ _ h => h) (Or.inl ⟨by rfl, ?_⟩) (by assumption) ?_
      rotate_left
      · intro W hSw
        go_simp
        first | done | (with_reducible rfl)
      try simp only [Act.put, List.setIfInBounds_toArray, List.set_cons_zero, List.set_cons_succ, List.getElem_toArray, List.getElem_cons_succ, List.getElem_cons_zero]
      refine wpAnyH_done (by kernel_rfl) ?_ _
      refine NoPanic.normal ?_
      generalize wr.drew = w7 at *
      clear hrel hlt hb
    all_goals
      obtain ⟨F2, hro, hF2⟩ : ∃ F, RowO 46 F w7 w1.heap.size A2 c2 rest ∧ ∀ b, F b → w1.heap.size ≤ b ∧ Soft w7 b := ho2.bel hHeld
      have hbx7 := rangeBel2 hHeld hbx
      have hrv7 := hrv2.bel hHeld
      have B7 := hid (hb2.trans (hHeld.mono hb2.size))
      have B07 := hid (b0.trans (hHeld.mono b0.size))
      rw [hstop.out] at e0
      obtain ⟨x1, hx1⟩ : ∃ x, rest.take j = x := ⟨_, rfl⟩
      obtain ⟨x2, hx2⟩ : ∃ x, rest.drop j = x := ⟨_, rfl⟩
      rw [hx1, hx2] at e0
      have s1 := hid (hx1 ▸ hro.src.take j)
      have s2 := hid (hx2 ▸ hro.src.cut j c2 hj hcap.1)
      have l1 : x1.length = j := by rw [← hx1, List.length_take]; omega
      have l2 : x2.length = rest.length - j := by rw [← hx2, List.length_drop]
      have hjc : j ≤ c2 := Nat.le_trans hj hcap.1
      have hcm := hcap.2
      replace hcap := hcap.1
      have hBu : ∀ x : Value, x.cells = #[x] → Try.prog.built 46 [(0, .agg ds.toArray), (1, x)] = some (ds ++ [x]).toArray := fun x hx => by rw [hds.out]; exact built_pr k x hx
      have hLen : ∀ x : Value, (ds ++ [x]).length = Enc.size Pr := fun x => by rw [hds.out]; exact len_pr k x
      have hRep : ∀ (W : World) (B : Nat) (A4 : Option Addr) (c4 : Nat), Own 5 W B A4 c4 v → Enc.rep (fun b => ∃ a, A4 = some a ∧ b = a.block) W (⟨k, v⟩ : Pr) (ds ++ [.slice A4 v.length c4]) := fun W B A4 c4 h => by rw [hds.out]; exact rep_pr_own h
      replace l1 := hid l1
      replace l2 := hid l2
      replace hBu := hid hBu
      replace hLen := hid hLen
      replace hRep := hid hRep
      clear hx1 hx2 hbx hrv2 hrow hr0 hrv0 hbox hO hHeld ho2
      go_wp2_with (first
        | (at_builtin; refine wpList_appOwn slotPr rfl (.tmp 28) (.tmp 31) rfl w1.heap.size w7.heap.size none A2 0 j 0 c2 [] x1 F2 rfl rfl rfl l1.out.symm (OwnQ.nil _ _ _) s1.out (fun b hb => ⟨(hF2 b hb).1, (hF2 b hb).2, fun a h => by cases h⟩) (by have := l1.out; simp; omega) (Nat.le_refl _) ?_; intro A3 c3 w8 ho8 hb8; rw [List.nil_append] at ho8 ⊢))
      refine wp_region_noPanic ?_
      refine wp_region_held_drew (S := fun w' => Below w7.heap.size w7 w') (by kernel_rfl) ?_ (fun hHeld => ?_)
      · exact below_drewN hb8 1
      refine' wpAnyH_take (i := 0) (oi := _) (v := ?_) rfl (by kernel_rfl) (by kernel_rfl) (by kernel_rfl) (fun _ _ _ h => h) (Or.inl ⟨by rfl, ?_⟩) (by assumption) ?_
      rotate_left
      · intro W hSw
        go_simp
        first | done | (with_reducible rfl)
      try simp only [Act.put, List.setIfInBounds_toArray, List.set_cons_zero, List.set_cons_succ, List.getElem_toArray, List.getElem_cons_succ, List.getElem_cons_zero]
      refine' wpAnyH_take (i := 1) (oi := _) (v := _) rfl (by kernel_rfl) (by kernel_rfl) (by kernel_rfl) (fun _ _ _ h => h) (yieldsIf_load_mid (by rfl) _ _ rfl _ _ rfl _ _ (fun _ h => rangeBel2 h hbx7) hu rfl hi.out) (by assumption) ?_
      try simp only [Act.put, List.setIfInBounds_toArray, List.set_cons_zero, List.set_cons_succ, List.getElem_toArray, List.getElem_cons_succ, List.getElem_cons_zero]
      refine' wpAnyH_take (i := 2) (oi := _) (v := ?_) rfl (by kernel_rfl) (by kernel_rfl) (by kernel_rfl) (fun _ _ _ h => h) (Or.inl ⟨by rfl, ?_⟩) (by assumption) ?_
      rotate_left
      · intro W hSw
        go_simp
        first | done | (with_reducible rfl)
      try simp only [Act.put, List.setIfInBounds_toArray, List.set_cons_zero, List.set_cons_succ, List.getElem_toArray, List.getElem_cons_succ, List.getElem_cons_zero]
      refine wpAnyH_ready (rs := [3]) (by kernel_rfl) (by simp) ?_
      refine AllReadyH.cons (o := _) rfl (fun K hK => ?_) AllReadyH.nil
      go_simp
      refine (Twin_any V v.length d v _ (hrv7.bel hHeld) rfl (by omega)).mono ?_
      rintro e9 w9 ⟨A4, c4, rfl, ho4, hB⟩
      go_wp2_with fail
      refine hK.out _ _ ?_ (fun hHeld => ?_)
      · exact hHeld.trans (hB.mono hHeld.size)
      clear hK K
      try simp only [Act.put, List.setIfInBounds_toArray, List.set_cons_zero, List.set_cons_succ, List.getElem_toArray, List.getElem_cons_succ, List.getElem_cons_zero]
      refine' wpAnyH_take (i := 4) (oi := _) (v := _) rfl (by kernel_rfl) (by kernel_rfl) (by kernel_rfl) (fun _ _ _ h => h) (yieldsIf_build (by rfl) _ _ rfl _ _ (hBu.out (.slice A4 v.length c4) rfl) rfl) (by assumption) ?_
      try simp only [Act.put, List.setIfInBounds_toArray, List.set_cons_zero, List.set_cons_succ, List.getElem_toArray, List.getElem_cons_succ, List.getElem_cons_zero]
      refine wpAnyH_ready (rs := [5]) (by kernel_rfl) (by simp) ?_
      refine AllReadyH.cons (o := _) rfl (fun K hK => ?_) AllReadyH.nil
      refine step_buildOne slotPr (by decide) rfl (.tmp 37) rfl _ rfl (hLen.out _) ?_
      refine hK.out _ _ ?_ (fun hHeld => ?_)
      · exact hHeld.trans ((ext_alloc _ _).mono hHeld.size)
      clear hK K
      try simp only [Act.put, List.setIfInBounds_toArray, List.set_cons_zero, List.set_cons_succ, List.getElem_toArray, List.getElem_cons_succ, List.getElem_cons_zero]
      refine wpAnyH_ready (rs := [6]) (by kernel_rfl) (by simp) ?_
      refine AllReadyH.cons (o := _) rfl (fun K hK => ?_) AllReadyH.nil
      refine step_appOwn slotPr rfl (.tmp 33) (.tmp 38) rfl w1.heap.size w7.heap.size A3 _ x1.length 1 c3 1 x1 [⟨k, v⟩] _ rfl rfl rfl rfl (((ho8.bel (bel_drew w8)).bel hB).alloc _) (src_alloc (hRep.out _ _ _ _ ho4)) (apart_new ho8.blk (Nat.le_trans B7.out.size hb8.size) fun b hb => by obtain ⟨a, ha, rfl⟩ := hb; exact ⟨(ho4.soft a ha).1, (ho4.soft a ha).2.kept ((ext_alloc w9 _).block _ (ho4.soft a ha).2.lt)⟩) (by have := l1.out; simp; omega) hHeld.size ?_
      intro A5 c5 w10 ho10 hB10
      refine hK.out _ _ ?_ (fun hHeld => ?_)
      · exact hHeld.trans hB10
      clear hK K
      try simp only [Act.put, List.setIfInBounds_toArray, List.set_cons_zero, List.set_cons_succ, List.getElem_toArray, List.getElem_cons_succ, List.getElem_cons_zero]
      refine' wpAnyH_take (i := 7) (oi := _) (v := ?_) rfl (by kernel_rfl) (by kernel_rfl) (by kernel_rfl) (fun _ _ _ h => h) (Or.inl ⟨by rfl, ?_⟩) (by assumption) ?_
      rotate_left
      · intro W hSw
        go_simp
        first | done | (with_reducible rfl)
      try simp only [Act.put, List.setIfInBounds_toArray, List.set_cons_zero, List.set_cons_succ, List.getElem_toArray, List.getElem_cons_succ, List.getElem_cons_zero]
      refine wpAnyH_done (by kernel_rfl) ?_ _
      refine NoPanic.normal ?_
      generalize hx3 : x1 ++ [(⟨k, v⟩ : Pr)] = x3 at *
      replace hx3 := hid hx3
      have l3 : Hid (x1.length + 1 = x3.length) := by have := congrArg List.length hx3.out; simp at this; exact this
      have hF3 : ∀ b, F2 b → w1.heap.size ≤ b ∧ Soft w10 b ∧ ∀ a, A5 = some a → b ≠ a.block := fun b hb => ⟨(hF2 b hb).1, (hF2 b hb).2.kept (hHeld.block b (hF2 b hb).2.lt), fun a h => by have := (ho10.blk a h).1; have := (hF2 b hb).2.lt; omega⟩
      have hlen3 : Hid ((x3.length + x2.length) * (56 + 1) ≤ 140737488355328) := by have h1 := l1.out; have h2 := l2.out; have h3 := l3.out; show _ ≤ _; omega
      replace hF3 := hid hF3
      by_cases hcj : c2 = j
      · subst hcj
        rw [if_pos rfl] at s2
        have l4 : Hid (0 = x2.length) := by have := l2.out; show _ = _; omega
        go_wp2_with (first
          | (at_builtin; refine wpList_appOwn slotPr rfl (.tmp 40) (.tmp 43) rfl w1.heap.size w7.heap.size A5 _ (x1.length + 1) 0 c5 _ x3 x2 F2 rfl rfl l3.out l4.out ho10 (s2.out.bel hHeld) hF3.out hlen3.out hHeld.size ?_; intro A6 c6 w11 ho11 hB11))
        go_ret
        have he : res = x3 ++ x2 := by rw [e0.out, ← hx3.out]; simp
        rw [he]
        exact ⟨A6, c6, ret_sl (List.length_append).symm, ho11.base2 (by have := sz.out; omega) B07.out.size, B07.out.trans ((hHeld.trans hB11).mono B07.out.size)⟩
      · rw [if_neg hcj] at s2
        go_wp2_with (first
          | (at_builtin; refine wpList_appOwn slotPr rfl (.tmp 40) (.tmp 43) rfl w1.heap.size w7.heap.size A5 _ (x1.length + 1) (rest.length - j) c5 (c2 - j) x3 x2 F2 rfl rfl l3.out l2.out.symm ho10 (s2.out.bel hHeld) hF3.out hlen3.out hHeld.size ?_; intro A6 c6 w11 ho11 hB11))
        go_ret
        have he : res = x3 ++ x2 := by rw [e0.out, ← hx3.out]; simp
        rw [he]
        exact ⟨A6, c6, ret_sl (List.length_append).symm, ho11.base2 (by have := sz.out; omega) B07.out.size, B07.out.trans ((hHeld.trans hB11).mono B07.out.size)⟩

set_option maxRecDepth 100000 in
set_option maxHeartbeats 1600000 in
theorem RPut_any (F : Nat → Prop) (A V : Option Addr) (c n m d : Nat) (ps : List Pr) (k : Dg) (v : List UInt8) (w : World) (hr : Row F w A ps) (hn : n = ps.length) (hrv : Rd w V v) (hm : m = v.length) (hc : ps.length ≤ 1000000) (hv : ∀ p ∈ ps, p.v.length ≤ 1000000) (hvl : v.length ≤ 1000000) :
    Calls Try.prog 10 #[.slice A n c, .agg (k.1.map bv).toArray, .slice V m d] w fun e w' => ∃ A' c', e = .returned (.tuple #[.slice A' (mPutL ps k v).length c', .int .i64 (mPutE ps k v)]) ∧ OwnR 46 w' w.heap.size A' c' (mPutL ps k v) ∧ Below w.heap.size w w' := by
  subst hn hm
  have hbox := boxed_range w k 24
  have b0 := ext_alloc w (.cells (k.1.map bv).toArray 24)
  have hM := fun W hW => RMay_any F A c ps.length ps W hW rfl (by omega)
  have hO := fun W hW hV => RWith_any F A V c ps.length v.length d ps k v W hW rfl hV rfl hc hv hvl
  have hu := Try.underlying24
  have hi := sizeDg k
  have hr0 := hr.bel b0
  have hrv0 := hrv.bel b0
  clear hv hr hrv
  rcases hm : mayP ps with _ | _
  · rw [(mPut_bad (.inl hm)).1, (mPut_bad (.inl hm)).2]
    rw [hm] at hM
    replace hM := hid hM
    replace hO := hid hO
    replace hi := hid hi
    clear hm
    generalize (k.1.map bv) = ds at *
    go_enter Try.func10, Try.ntmps10
    go_wp2_with fail
    refine (hM.out _ hr0).mono ?_
    rintro e w1 ⟨rfl, hb1⟩
    go_wp2
    go_ret2
    exact ⟨none, 0, rfl, OwnR.nil _ _, b0.trans (hb1.mono b0.size)⟩
  · rw [hm] at hM
    rcases hh : valB v with _ | _
    · rw [(mPut_bad (.inr hh)).1, (mPut_bad (.inr hh)).2]
      replace hM := hid hM
      replace hO := hid hO
      replace hi := hid hi
      replace hh := hid hh
      clear hm
      generalize (k.1.map bv) = ds at *
      go_enter Try.func10, Try.ntmps10
      go_wp2_with fail
      refine (hM.out _ hr0).mono ?_
      rintro e w1 ⟨rfl, hb1⟩
      go_wp2_with fail
      refine (RValue_is v V d false _ (by omega) hh.out).mono ?_
      rintro e w2 ⟨rfl, rfl⟩
      go_wp2
      go_ret2
      exact ⟨none, 0, rfl, OwnR.nil _ _, b0.trans (hb1.mono b0.size)⟩
    · have hwl := with_length ps k v
      have hwl2 := without_length_le ps k
      have e1 : 512 < (withP ps k v).length → mPutE ps k v = 9 ∧ mPutL ps k v = [] := mPut_full hm hh
      have e2 : ¬ 512 < (withP ps k v).length → mPutE ps k v = 0 ∧ mPutL ps k v = withP ps k v := mPut_yes hm hh
      generalize mPutE ps k v = z at *
      generalize mPutL ps k v = q at *
      generalize withP ps k v = res at *
      replace e1 := hid e1
      replace e2 := hid e2
      replace hM := hid hM
      replace hO := hid hO
      replace hi := hid hi
      replace hh := hid hh
      replace hwl := hid hwl
      clear hm
      generalize (k.1.map bv) = ds at *
      go_enter Try.func10, Try.ntmps10
      go_wp2_with fail
      refine (hM.out _ hr0).mono ?_
      rintro e w1 ⟨rfl, hb1⟩
      go_wp2_with fail
      refine (RValue_is v V d true _ (by omega) hh.out).mono ?_
      rintro e w2 ⟨rfl, rfl⟩
      have hbx := rangeBel2 hb1 hbox
      have hr1 := hr0.bel hb1
      have hrv1 := hrv0.bel hb1
      go_wp2_with (first
        | ((with_reducible refine wpList_load_rng rfl 24 (.tmp 4) rfl w.heap.size 0 rfl ds _ ?_ hu rfl hi.out ?_); exact hbx))
      refine (hO.out _ hr1 hrv1).mono ?_
      rintro e w3 ⟨A3, c3, rfl, ho3, hb3⟩
      have hwl3 : res.length ≤ 1000001 := by have := hwl.out; omega
      by_cases h5 : 512 < res.length
      · obtain ⟨rfl, rfl⟩ := e1.out h5
        go_wp2
        go_ret2
        exact ⟨none, 0, rfl, OwnR.nil _ _, b0.trans ((hb1.trans (hb3.mono hb1.size)).mono b0.size)⟩
      · obtain ⟨rfl, rfl⟩ := e2.out h5
        go_wp2
        go_ret2
        exact ⟨A3, c3, rfl, ho3.base (Nat.le_trans b0.size hb1.size), b0.trans ((hb1.trans (hb3.mono hb1.size)).mono b0.size)⟩
end Go.Proofs.Ytiogdenlaelkbaa
