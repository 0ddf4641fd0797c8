/-
  The document's answers of layer 13: Fits; how great a list is, its twin.
-/
import Derived.Test.YtgmlmkhiflnhdaaDoorRef13c
namespace Go.Proofs.YtgmlmkhiflnhdaaDoor
open Go.RowKit
set_option linter.unusedVariables false
set_option linter.unusedSimpArgs false
set_option maxRecDepth 100000

theorem RMade_any (k : Nat) : ∀ (n i : Nat) (A : Option Addr) (c : Nat) (x : List UInt8) (F : Nat → Prop) (D : Option Addr) (d : Nat) (ss : List Dg) (w : World), n ≤ k → i < n → n ≤ 1000 → x.length ≤ c → c ≤ maxLen → x.length ≤ 5000 → Rd w A x → Row F w D ss → ss.length ≤ d → ss.length ≤ 1000000 →
    Calls Tryd.prog 34 #[.int .i64 (n : Int), .int .i64 (i : Int), .slice A x.length c, .slice D ss.length d] w (MadePost (madeR n i x ss) w) := by
  induction k with
  | zero => exact fun n i A c x F D d ss w hk hi => by omega
  | succ k ih => exact fun n i A c x F D d ss w hk hi hn hc hm hx hr hs hd hl => RMade_step n i A c x F D d ss w hi hn hc hm hx (fun n2 i2 A c D d rest w h2 hi2 hcm hr hs hd hl => ih n2 i2 A c x F D d rest w (by omega) hi2 (by omega) hcm.1 hcm.2 hx hr hs hd hl) hr hs hd hl
/-- Whether sides fit a root. -/
def badR (many i : Int) (x : List UInt8) : Bool := decide (256 < many) || decide (i < 0) || decide (many ≤ i) || decide (4096 < (x.length : Int))
def fitM (r : Dg) : Option Dg → Bool
  | none => false
  | some d => decide (d = r)
def fitsR (r : Dg) (many i : Int) (x : List UInt8) (ss : List Dg) : Bool := if badR many i x = true then false else fitM r (madeR many.toNat i.toNat x ss)
set_option maxHeartbeats 4000000 in
theorem RRwFits_any (r : Dg) (many i : Int) (A : Option Addr) (c : Nat) (x : List UInt8) (F : Nat → Prop) (D : Option Addr) (d : Nat) (ss : List Dg) (w : World) (hr : Rd w A x) (hc : x.length ≤ c) (hm : c ≤ maxLen) (hs : Row F w D ss) (hd : ss.length ≤ d) (hl : ss.length ≤ 1000000) :
    Calls Tryd.prog 21 #[.agg (r.1.map bv).toArray, .int .i64 many, .int .i64 i, .slice A x.length c, .slice D ss.length d] w fun e w' => e = .returned (.bool (fitsR r many i x ss)) ∧ Below w.heap.size w w' := by
  have W0 := hid (ext_alloc w (.cells (r.1.map bv).toArray 29))
  have hbad : ∀ b, badR many i x = b → (b = true → fitsR r many i x ss = false) := fun b h hb => by unfold fitsR; rw [h, hb]; rfl
  by_cases h1 : 256 < many
  · rw [hbad true (by unfold badR; rw [decide_eq_true h1]; rfl) rfl]
    have q1 : decide (256 < many) = true := decide_eq_true h1
    clear hbad hr hs
    go_enter Tryd.func21, Tryd.ntmps21
    go_wp2
    go_ret
    exact ⟨rfl, W0.out⟩
  have q1 : decide (256 < many) = false := decide_eq_false h1
  by_cases h2 : i < 0
  · rw [hbad true (by unfold badR; rw [decide_eq_true h2]; simp) rfl]
    have q2 : decide (i < 0) = true := decide_eq_true h2
    clear hbad hr hs
    go_enter Tryd.func21, Tryd.ntmps21
    go_wp2
    go_ret
    exact ⟨rfl, W0.out⟩
  have q2 : decide (i < 0) = false := decide_eq_false h2
  by_cases h3 : many ≤ i
  · rw [hbad true (by unfold badR; rw [decide_eq_true h3]; simp) rfl]
    have q3 : decide (many ≤ i) = true := decide_eq_true h3
    clear hbad hr hs
    go_enter Tryd.func21, Tryd.ntmps21
    go_wp2
    go_ret
    exact ⟨rfl, W0.out⟩
  have q3 : decide (many ≤ i) = false := decide_eq_false h3
  by_cases h4 : 4096 < (x.length : Int)
  · rw [hbad true (by unfold badR; rw [decide_eq_true h4]; simp) rfl]
    have q4 : decide (4096 < (x.length : Int)) = true := decide_eq_true h4
    clear hbad hr hs
    go_enter Tryd.func21, Tryd.ntmps21
    go_wp2
    go_ret
    exact ⟨rfl, W0.out⟩
  have q4 : decide (4096 < (x.length : Int)) = false := decide_eq_false h4
  have hB : badR many i x = false := by unfold badR; rw [q1, q2, q3, q4]; rfl
  have hfit : fitsR r many i x ss = fitM r (madeR many.toNat i.toNat x ss) := by unfold fitsR; rw [hB]; rfl
  rw [hfit]
  clear hbad hB hfit
  obtain ⟨n, rfl⟩ := Int.eq_ofNat_of_zero_le (show 0 ≤ many by omega)
  obtain ⟨j, rfl⟩ := Int.eq_ofNat_of_zero_le (show 0 ≤ i by omega)
  rw [Int.toNat_natCast, Int.toNat_natCast]
  have hM := RMade_any n n j A c x F D d ss _ (Nat.le_refl _) (by omega) (by omega) hc hm (by omega) (hr.bel W0.out) (hs.bel W0.out) hd hl
  generalize madeR n j x ss = mo at *
  have h0 := hid (heap_alloc_new w (.cells (r.1.map bv).toArray 29))
  have hu := Tryd.underlying29
  have sR := hid (sizeDg r)
  replace hM := hid hM
  clear hr hs
  go_enter Tryd.func21, Tryd.ntmps21
  go_wp2_with fail
  refine hM.out.mono ?_
  rintro e w1 ⟨dd, rfl, hdd, hb⟩
  have r1 := hid (rangeOf ((hb.block _ (block_lt h0.out)).trans h0.out))
  have W1 := hid (W0.out.trans (hb.mono W0.out.size))
  have e1 := hid (heap_alloc_new w1 (.cells z32 29))
  have zd : ((dd.1.map bv).toArray).size = 32 := by simp [dd.2]
  have zo := bvs_all dd.1
  have sD := hid (sizeDg dd)
  clear hb hM
  cases mo with
  | none =>
    have hk : madeB none = false := rfl
    clear hdd
    go_wp2_with (first
      | (with_reducible refine wpList_alloc_row rfl 29 rfl z32 info32 ?_)
      | ((with_reducible refine wpList_store_row rfl 29 (.tmp 11) (.tmp 35) rfl _ _ rfl rfl 29 z32 ?_ ?_ ?_ ?_ ?_); exact e1.out; (rw [zd]; exact size32); (rw [zd]; exact z32_size); exact zo; intro w5 hg5 hb5 hs5; have X5 := hid (xnewP rfl hb5); have W5 := hid (W1.out.trans (X5.out.mono W1.out.size)); clear hg5 hb5 hs5))
    go_ret
    exact ⟨rfl, W5.out⟩
  | some y =>
    have hk : madeB (some y) = true := rfl
    obtain rfl : dd = y := hdd y rfl
    obtain ⟨q, hq⟩ : ∃ q, decide (dd = r) = q := ⟨_, rfl⟩
    have hqq : fitM r (some dd) = q := hq
    have hE : ∀ W, (Op.equalIn 10000 29 (.agg (dd.1.map bv).toArray) (.agg (r.1.map bv).toArray)).run Tryd.prog W = .ok q W := fun W => eqd_is dd r _ hq W
    replace hqq := hid hqq
    clear hdd hq
    generalize dd.1.map bv = dR at *
    generalize r.1.map bv = dr at *
    go_wp2_with (first
      | (with_reducible refine wpList_alloc_row rfl 29 rfl z32 info32 ?_)
      | ((with_reducible refine wpList_store_row rfl 29 (.tmp 11) (.tmp 35) rfl _ _ rfl rfl 29 z32 ?_ ?_ ?_ ?_ ?_); exact e1.out; (rw [zd]; exact size32); (rw [zd]; exact z32_size); exact zo; intro w5 hg5 hb5 hs5; have X5 := hid (xnewP rfl hb5); have W5 := hid (W1.out.trans (X5.out.mono W1.out.size)); have r5 := hid (rangeBel2 X5.out r1.out); have n5 := hid (rangeOf hg5))
      | ((with_reducible refine wpList_load_rng ?_ 29 (.tmp 11) rfl w1.heap.size 0 rfl dR _ ?_ hu rfl sD.out ?_); rfl; exact n5.out)
      | ((with_reducible refine wpList_load_rng ?_ 29 (.tmp 5) rfl w.heap.size 0 rfl dr _ ?_ hu rfl sR.out ?_); rfl; exact r5.out))
    go_ret
    exact ⟨by rw [hqq.out]; rfl, W5.out⟩
/-- Is one row more than statements go through? -/
def bigR (n : Nat) : Bool := (decide (200 < (n : Int)) && decide ((n : Int) ≤ 4096)) || decide (5000 < (n : Int))
def greatR (ls : List (List UInt8)) (m : Int) : Bool := decide (m < (ls.length : Int)) || ls.any fun l => bigR l.length
theorem greatR_no {ls : List (List UInt8)} {m : Int} (h : greatR ls m = false) : (ls.length : Int) ≤ m ∧ ∀ x ∈ ls, bigR x.length = false := by
  unfold greatR at h
  rw [Bool.or_eq_false_iff, decide_eq_false_iff_not, List.any_eq_false] at h
  exact ⟨by omega, fun x hx => by simpa using h.2 x hx⟩
theorem bigR_le {n : Nat} (h : bigR n = false) : n ≤ 5000 := by
  unfold bigR at h
  rw [Bool.or_eq_false_iff, decide_eq_false_iff_not] at h
  omega
set_option maxHeartbeats 2000000 in
theorem RRwGreat_any (A : Option Addr) (c : Nat) (ls : List (List UInt8)) (m : Int) (w : World) (hr : Rds w A ls) (hc : ls.length ≤ 9223372036854775807) :
    Calls Tryd.prog 16 #[.slice A ls.length c, .int .i64 m] w fun e w' => e = .returned (.bool (greatR ls m)) ∧ w' = w := by
  by_cases h8 : m < (ls.length : Int)
  · have hg : greatR ls m = true := by unfold greatR; rw [decide_eq_true h8]; rfl
    rw [hg]
    have t1 : decide (m < (ls.length : Int)) = true := decide_eq_true h8
    clear hg
    go_enter Tryd.func16, Tryd.ntmps16
    go_wp2
    go_ret
    exact ⟨rfl, rfl⟩
  · have t1 : decide (m < (ls.length : Int)) = false := decide_eq_false h8
    go_enter Tryd.func16, Tryd.ntmps16
    go_wp2
    go_loop [5] (fun v => ∃ j : Nat, j ≤ ls.length ∧ v = .int .i64 j ∧ Hid (∀ (k : Nat) (l : List UInt8), k < j → ls[k]? = some l → bigR l.length = false)) (fun v => ls.length - (intOf v).toNat)
    case atStart => exact ⟨0, Nat.zero_le _, rfl, fun k l hk => absurd hk (by omega)⟩
    case round =>
      obtain ⟨j, hj, rfl, hall⟩ := hrel
      by_cases hlt : j < ls.length
      · obtain ⟨b, o, rfl, hc2⟩ := hr (by omega)
        obtain ⟨A2, c2, hcell, _, hl2, hm2⟩ := hc2 j _ (List.getElem?_eq_getElem hlt)
        have hget := hid (List.getElem?_eq_getElem hlt)
        generalize ls[j] = z at *
        have j1 : (j : Int) < ls.length := by omega
        replace hc2 := trivial
        replace hr := trivial
        unfold maxLen at hm2
        have hyes : bigR z.length = true → greatR ls m = true := fun h => by
          unfold greatR
          rw [Bool.or_eq_true]
          right
          rw [List.any_eq_true]
          exact ⟨z, List.mem_of_getElem? hget.out, h⟩
        have hno : bigR z.length = false → ∀ (k : Nat) (l : List UInt8), k < j + 1 → ls[k]? = some l → bigR l.length = false := fun h k l hk hl => by
          rcases Nat.lt_or_ge k j with hk2 | hk2
          · exact hall.out k l hk2 hl
          · obtain rfl : k = j := by omega
            have := hget.out.symm.trans hl
            injection this with this
            subst this
            exact h
        by_cases h2 : 200 < (z.length : Int)
        · have q2 : decide (200 < (z.length : Int)) = true := decide_eq_true h2
          by_cases h4 : (z.length : Int) ≤ 4096
          · have q4 : decide ((z.length : Int) ≤ 4096) = true := decide_eq_true h4
            have hg := hid (hyes (by unfold bigR; rw [q2, q4]; rfl))
            clear hyes hno h2 h4
            go_wp2
            go_ret
            rw [hg.out]
            exact ⟨rfl, rfl⟩
          · have q4 : decide ((z.length : Int) ≤ 4096) = false := decide_eq_false h4
            by_cases h5 : 5000 < (z.length : Int)
            · have q5 : decide (5000 < (z.length : Int)) = true := decide_eq_true h5
              have hg := hid (hyes (by unfold bigR; rw [q2, q4, q5]; rfl))
              clear hyes hno h2 h4 h5
              go_wp2
              go_ret
              rw [hg.out]
              exact ⟨rfl, rfl⟩
            · have q5 : decide (5000 < (z.length : Int)) = false := decide_eq_false h5
              have hg := hid (hno (by unfold bigR; rw [q2, q4, q5]; rfl))
              clear hyes hno h2 h4 h5
              go_wp2
              go_round
              case rel => exact ⟨j + 1, by omega, by go_num, hg⟩
              case measure => simp [intOf]; omega
        · have q2 : decide (200 < (z.length : Int)) = false := decide_eq_false h2
          have q5 : decide (5000 < (z.length : Int)) = false := decide_eq_false (by omega)
          have hg := hid (hno (by unfold bigR; rw [q2, q5]; rfl))
          clear hyes hno h2
          go_wp2
          go_round
          case rel => exact ⟨j + 1, by omega, by go_num, hg⟩
          case measure => simp [intOf]; omega
      · have hg : greatR ls m = false := by
          unfold greatR
          rw [Bool.or_eq_false_iff, decide_eq_false_iff_not, List.any_eq_false]
          refine ⟨by omega, fun l hl => ?_⟩
          obtain ⟨k, hk, he⟩ := List.mem_iff_getElem.1 hl
          rw [hall k l (by omega) (by rw [List.getElem?_eq_getElem hk, he])]
          simp
        have j2 : (ls.length : Int) ≤ j := by omega
        replace hg := hid hg
        go_wp2
        go_ret
        rw [hg.out]
        exact ⟨rfl, rfl⟩
end Go.Proofs.YtgmlmkhiflnhdaaDoor
