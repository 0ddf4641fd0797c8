/-
  Texts laid together: Ref09a, Ref09b, Ref09c, Ref09d.
-/
import Derived.Test.YtapnhdpgogfceaaGreatDoorRef07d
import Derived.Test.YtapnhdpgogfceaaGreatDoorBits
import Derived.Test.YtapnhdpgogfceaaGreatDoorRef07b
import Derived.Test.YtapnhdpgogfceaaGreatDoorClP
import Derived.Test.YtapnhdpgogfceaaGreatDoorRef08a
import Derived.Test.YtapnhdpgogfceaaGreatDoorVfX
import Derived.Test.YtapnhdpgogfceaaGreatDoorClQ
import Derived.Test.YtapnhdpgogfceaaGreatDoorRef07c
import Derived.Test.YtapnhdpgogfceaaGreatDoorRef08b
import Derived.Test.YtapnhdpgogfceaaGreatDoorRef07e
import Derived.Test.YtapnhdpgogfceaaGreatDoorRef06i
import Derived.Test.YtapnhdpgogfceaaGreatDoorPfM
set_option maxRecDepth 100000
/- (Ref09a)
  The document's answer for layer 9: Unlike.
-/
namespace Go.Proofs.YtapnhdpgogfceaaGreatDoor
open Go.RowKit
set_option linter.unusedVariables false
set_option linter.unusedSimpArgs false
set_option maxRecDepth 100000

set_option maxHeartbeats 2000000 in
theorem RUnlike_is (F G : Nat → Prop) (x y : Pf) (A A2 : Option Addr) (c c2 : Nat) (D D2 : Option Addr) (d d2 : Nat) (b : Bool) (w : World) (hr : Rd w A x.v) (h1 : x.v.length ≤ c) (h2 : c ≤ maxLen) (hl : x.v.length ≤ 1000000) (hr2 : Rd w A2 y.v) (h3 : y.v.length ≤ c2) (h4 : c2 ≤ maxLen) (hl2 : y.v.length ≤ 1000000) (hb : unlikeF x y = b) :
    Calls Tryz.prog 20 #[.agg (pfC x A c D d).toArray, .agg (pfC y A2 c2 D2 d2).toArray] w fun e w' => e = .returned (.bool b) ∧ Below w.heap.size w w' := by
  obtain ⟨B1, B2, W0⟩ := boxesPPr w x y A A2 c c2 D D2 d d2 30
  have hu := Tryz.underlying26
  have hup := Tryz.underlying30
  have p1 := hid B1.all
  have p2 := hid B2.all
  have k1 := hid B1.key
  have k2 := hid B2.key
  have i1 := hid (sizeDg x.k)
  have i2 := hid (sizeDg y.k)
  have j1 := hid (sizePfC x A c D d)
  have j2 := hid (sizePfC y A2 c2 D2 d2)
  obtain ⟨kb, hkb⟩ : ∃ kb, decide (x.k = y.k) = kb := ⟨_, rfl⟩
  obtain ⟨t1, ht1⟩ : ∃ t1, toldF x = t1 := ⟨_, rfl⟩
  obtain ⟨t2, ht2⟩ : ∃ t2, toldF y = t2 := ⟨_, rfl⟩
  have T1 := fun W (h : Rd W A x.v) => RPfTold_is x A c D d t1 W h h1 h2 hl ht1
  have T2 := fun W (h : Rd W A2 y.v) => RPfTold_is y A2 c2 D2 d2 t2 W h h3 h4 hl2 ht2
  have hE : ∀ W, (Op.equalIn 10000 26 (.agg (x.k.1.map bv).toArray) (.agg (y.k.1.map bv).toArray)).run Tryz.prog W = .ok kb W := fun W => eqd_is x.k y.k kb hkb W
  obtain ⟨lx, hlx⟩ : ∃ lx, (if t1 = true then x.v else []) = lx := ⟨_, rfl⟩
  obtain ⟨ly, hly⟩ : ∃ ly, (if t2 = true then y.v else []) = ly := ⟨_, rfl⟩
  obtain ⟨vb, hvb⟩ : ∃ vb, decide (lx = ly) = vb := ⟨_, rfl⟩
  have hB : b = (kb && (t1 != t2 || !vb)) := by
    rw [← hb, ← hkb, ← hvb, ← hlx, ← hly, ← ht1, ← ht2]
    unfold unlikeF tellV
    cases toldF x <;> cases toldF y <;> simp
  simp only [hlx] at T1
  simp only [hly] at T2
  have hfl := hid (fun (W : World) (hb : Below w.heap.size w W) => (show Rd W A x.v ∧ Rd W A2 y.v from ⟨hr.bel hb, hr2.bel hb⟩))
  have hV := hid (fun A c A2 c2 W (h1 : Rd W A lx) (h2 : Rd W A2 ly) => RSame01_is A A2 c c2 lx ly vb W h1 h2 hvb)
  replace T1 := hid T1
  replace T2 := hid T2
  clear hb hkb ht1 ht2 hlx hly hvb B1 B2 hr hr2
  generalize x.k.1.map bv = dk1 at *
  generalize y.k.1.map bv = dk2 at *
  generalize pfC x A c D d = cs1 at *
  generalize pfC y A2 c2 D2 d2 = cs2 at *
  replace hB := hid hB
  have fin : ∀ a : Bool, a = (kb && (t1 != t2 || !vb)) → Ending.returned (.bool a) = .returned (.bool b) := fun a h => by rw [h, hB.out]
  replace fin := hid fin
  clear hB
  go_enter Tryz.func20, Tryz.ntmps20
  go_wp2_with (first
    | ((with_reducible refine wpList_load_rng rfl 30 (.tmp 2) rfl w.heap.size 0 rfl cs1 _ ?_ hup rfl j1.out ?_); exact p1.out))
  refine (T1.out _ (hfl.out _ W0).1).mono ?_
  rintro e w5 ⟨A5, c5, rfl, o5, hb5⟩
  have W5 := hid (W0.trans (hb5.mono W0.size))
  have p25 := hid (rangeBel2 hb5 p2.out)
  have k15 := hid (rangeBel2 hb5 k1.out)
  have k25 := hid (rangeBel2 hb5 k2.out)
  replace o5 := hid o5.rd
  clear hb5 p1 p2 k1 k2
  go_wp2_with (first
    | ((with_reducible refine wpList_load_rng rfl 30 (.tmp 3) rfl (w.heap.size + 1) 0 rfl cs2 _ ?_ hup rfl j2.out ?_); exact p25.out))
  refine (T2.out _ (hfl.out _ W5.out).2).mono ?_
  rintro e w6 ⟨A6, c6, rfl, o6, hb6⟩
  have W6 := hid (W5.out.trans (hb6.mono W5.out.size))
  have k5 := hid (rangeBel2 hb6 k15.out)
  have k6 := hid (rangeBel2 hb6 k25.out)
  replace o5 := hid (o5.out.bel hb6)
  replace o6 := hid o6.rd
  clear hb6 k15 k25 p25 W5
  cases kb
  · go_wp2_with (first
      | ((with_reducible refine wpList_load_rng ?_ 26 (.tmp 19) rfl w.heap.size 0 rfl dk1 _ ?_ hu rfl i1.out ?_); rfl; exact k5.out)
      | ((with_reducible refine wpList_load_rng ?_ 26 (.tmp 21) rfl (w.heap.size + 1) 0 rfl dk2 _ ?_ hu rfl i2.out ?_); rfl; exact k6.out))
    go_ret
    exact ⟨fin.out _ rfl, W6.out⟩
  · rcases t1 with _ | _ <;> rcases t2 with _ | _
    · go_wp2_with (first
        | ((with_reducible refine wpList_load_rng ?_ 26 (.tmp 19) rfl w.heap.size 0 rfl dk1 _ ?_ hu rfl i1.out ?_); rfl; exact k5.out)
        | ((with_reducible refine wpList_load_rng ?_ 26 (.tmp 21) rfl (w.heap.size + 1) 0 rfl dk2 _ ?_ hu rfl i2.out ?_); rfl; exact k6.out)
        | (go_at_call 12; refine (hV.out _ _ _ _ _ o5.out o6.out).mono ?_; rintro e w7 ⟨rfl, rfl⟩))
      go_ret
      exact ⟨fin.out _ rfl, W6.out⟩
    · go_wp2_with (first
        | ((with_reducible refine wpList_load_rng ?_ 26 (.tmp 19) rfl w.heap.size 0 rfl dk1 _ ?_ hu rfl i1.out ?_); rfl; exact k5.out)
        | ((with_reducible refine wpList_load_rng ?_ 26 (.tmp 21) rfl (w.heap.size + 1) 0 rfl dk2 _ ?_ hu rfl i2.out ?_); rfl; exact k6.out))
      go_ret
      exact ⟨fin.out _ rfl, W6.out⟩
    · go_wp2_with (first
        | ((with_reducible refine wpList_load_rng ?_ 26 (.tmp 19) rfl w.heap.size 0 rfl dk1 _ ?_ hu rfl i1.out ?_); rfl; exact k5.out)
        | ((with_reducible refine wpList_load_rng ?_ 26 (.tmp 21) rfl (w.heap.size + 1) 0 rfl dk2 _ ?_ hu rfl i2.out ?_); rfl; exact k6.out))
      go_ret
      exact ⟨fin.out _ rfl, W6.out⟩
    · go_wp2_with (first
        | ((with_reducible refine wpList_load_rng ?_ 26 (.tmp 19) rfl w.heap.size 0 rfl dk1 _ ?_ hu rfl i1.out ?_); rfl; exact k5.out)
        | ((with_reducible refine wpList_load_rng ?_ 26 (.tmp 21) rfl (w.heap.size + 1) 0 rfl dk2 _ ?_ hu rfl i2.out ?_); rfl; exact k6.out)
        | (go_at_call 12; refine (hV.out _ _ _ _ _ o5.out o6.out).mono ?_; rintro e w7 ⟨rfl, rfl⟩))
      go_ret
      exact ⟨fin.out _ rfl, W6.out⟩
end Go.Proofs.YtapnhdpgogfceaaGreatDoor

/- (Ref09b)
  The document's answer for layer 9: First.
-/
namespace Go.Proofs.YtapnhdpgogfceaaGreatDoor
open Go.RowKit
set_option linter.unusedVariables false
set_option linter.unusedSimpArgs false
set_option maxRecDepth 100000

theorem firstI_drop (ls ms : List (List UInt8)) (j : Nat) (h1 : j < ls.length) (h2 : j < ms.length) :
    firstI (ls.drop j) (ms.drop j) = if ls[j] = ms[j] ∧ j + 1 < ls.length ∧ j + 1 < ms.length then firstI (ls.drop (j + 1)) (ms.drop (j + 1)) else (ls[j], ms[j]) := by
  rw [List.drop_eq_getElem_cons h1, List.drop_eq_getElem_cons h2]
  have e1 : (ls.drop (j + 1) ≠ []) ↔ j + 1 < ls.length := by rw [Ne, List.drop_eq_nil_iff]; omega
  have e2 : (ms.drop (j + 1) ≠ []) ↔ j + 1 < ms.length := by rw [Ne, List.drop_eq_nil_iff]; omega
  show (if ls[j] = ms[j] ∧ ls.drop (j + 1) ≠ [] ∧ ms.drop (j + 1) ≠ [] then _ else _) = _
  simp only [e1, e2]
set_option maxHeartbeats 4000000 in
theorem RFirst_any (x y : Pf) (A A2 : Option Addr) (c c2 : Nat) (D D2 : Option Addr) (d d2 : Nat) (F G : Nat → Prop) (ls ms : List (List UInt8)) (w : World) (m1 : mayF x = true) (m2 : mayF y = true) (hx : inP x = ls) (hy : inP y = ms) (hne : (firstI ls ms).1 ≠ (firstI ls ms).2)
    (hr : Rd w A x.v) (h1 : x.v.length ≤ c) (h2 : c ≤ maxLen) (hs : Row F w D x.ss) (hr2 : Rd w A2 y.v) (h3 : y.v.length ≤ c2) (h4 : c2 ≤ maxLen) (hs2 : Row G w D2 y.ss) :
    Calls Tryz.prog 21 #[.agg (pfC x A c D d).toArray, .agg (pfC y A2 c2 D2 d2).toArray] w fun e w' => ∃ A5 c5 A6 c6, e = .returned (.tuple #[.slice A5 (firstI ls ms).1.length c5, .slice A6 (firstI ls ms).2.length c6]) ∧
      (Rd w' A5 (firstI ls ms).1 ∧ (firstI ls ms).1.length ≤ c5 ∧ c5 ≤ maxLen) ∧ (Rd w' A6 (firstI ls ms).2 ∧ (firstI ls ms).2.length ≤ c6 ∧ c6 ≤ maxLen) ∧ Below w.heap.size w w' := by
  have n1 : ls.length = x.ss.length + 1 := by rw [← hx]; unfold inP; rw [inL_length]
  have n2 : ms.length = y.ss.length + 1 := by rw [← hy]; unfold inP; rw [inL_length]
  have s1 := may_small m1
  have s2 := may_small m2
  have I1 := fun W hW hS => RFrom_any x A c D d F (may_e m1) h1 h2 s1.1 s1.2 x.ss.length 0 W (by omega) hW hS
  have I2 := fun W hW hS => RFrom_any y A2 c2 D2 d2 G (may_e m2) h3 h4 s2.1 s2.2 y.ss.length 0 W (by omega) hW hS
  rw [List.drop_zero, show inL x 0 x.ss = ls from hx] at I1
  rw [List.drop_zero, show inL y 0 y.ss = ms from hy] at I2
  unfold FromOk at I1 I2
  replace I1 := hid I1
  replace I2 := hid I2
  obtain ⟨B1, B2, W0⟩ := boxesPPr w x y A A2 c c2 D D2 d d2 30
  have p0 := hid B1.all
  have q0 := hid B2.all
  have j1 := hid (sizePfC x A c D d)
  have j2 := hid (sizePfC y A2 c2 D2 d2)
  have fl : Hid (∀ W, Below w.heap.size w W → Rd W A x.v ∧ Row F W D x.ss ∧ Rd W A2 y.v ∧ Row G W D2 y.ss) := hid fun W hb => ⟨hr.bel hb, hs.bel hb, hr2.bel hb, hs2.bel hb⟩
  have hup := Tryz.underlying30
  have l1 : 0 < ls.length := by omega
  have l2 : 0 < ms.length := by omega
  have u1 : ls.length ≤ 300 := by omega
  have u2 : ms.length ≤ 300 := by omega
  replace W0 := hid W0
  clear hr hs hr2 hs2 B1 B2 hx hy n1 n2 s1 s2
  obtain ⟨f, hf⟩ : ∃ f, firstI ls ms = f := ⟨_, rfl⟩
  rw [hf]
  clear hne
  replace hf := hid hf
  generalize pfC x A c D d = cs1 at *
  generalize pfC y A2 c2 D2 d2 = cs2 at *
  go_enter Tryz.func21, Tryz.ntmps21
  go_wp2
  generalize (w.alloc (.cells cs1.toArray 30)).alloc (.cells cs2.toArray 30) = w2 at *
  refine wp_region_noPanic ?_
  refine wp_region_held_drew (S := fun w' => Below w2.heap.size w2 w') (by kernel_rfl) ?_ (fun hHeld => ?_)
  · exact bel_drew w2
  refine' wpAnyH_take (i := 0) (oi := _) (v := _) rfl (by kernel_rfl) (by kernel_rfl) (by kernel_rfl) (fun _ _ _ h => h) (yieldsIf_load_mid (by rfl) _ _ rfl _ _ rfl _ _ (fun _ h => rangeBel2 h p0.out) hup rfl j1.out) (by assumption) ?_
  try simp only [Act.put, sQa, sQb, sQc, gQa, gQb, gQc]
  refine' wpAnyH_take (i := 2) (oi := _) (v := _) rfl (by kernel_rfl) (by kernel_rfl) (by kernel_rfl) (fun _ _ _ h => h) (yieldsIf_load_mid (by rfl) _ _ rfl _ _ rfl _ _ (fun _ h => rangeBel2 h q0.out) hup rfl j2.out) (by assumption) ?_
  try simp only [Act.put, sQa, sQb, sQc, gQa, gQb, gQc]
  refine wpAnyH_ready (rs := [1]) (by kernel_rfl) (by simp) ?_
  refine AllReadyH.cons (o := _) rfl (fun K hK => ?_) AllReadyH.nil
  go_simp
  refine (I1.out _ (fl.out _ (W0.out.trans (hHeld.mono W0.out.size))).1 (fl.out _ (W0.out.trans (hHeld.mono W0.out.size))).2.1).mono ?_
  rintro e w5 ⟨A5, c5, rfl, r5, v5, z5, hB⟩
  go_wp2_with fail
  refine hK.out _ _ ?_ (fun hHeld => ?_)
  · exact hHeld.trans (hB.mono hHeld.size)
  clear hK K
  try simp only [Act.put, sQa, sQb, sQc, gQa, gQb, gQc]
  refine wpAnyH_ready (rs := [3]) (by kernel_rfl) (by simp) ?_
  refine AllReadyH.cons (o := _) rfl (fun K hK => ?_) AllReadyH.nil
  go_simp
  refine (I2.out _ (fl.out _ (W0.out.trans (hHeld.mono W0.out.size))).2.2.1 (fl.out _ (W0.out.trans (hHeld.mono W0.out.size))).2.2.2).mono ?_
  rintro e w6 ⟨A6, c6, rfl, r6, v6, z6, hB2⟩
  go_wp2_with fail
  refine hK.out _ _ ?_ (fun hHeld => ?_)
  · exact hHeld.trans (hB2.mono hHeld.size)
  clear hK K
  try simp only [Act.put, sQa, sQb, sQc, gQa, gQb, gQc]
  refine' wpAnyH_take (i := 4) (oi := _) (v := ?_) rfl (by kernel_rfl) (by kernel_rfl) (by kernel_rfl) (fun _ _ _ h => h) (Or.inl ⟨by rfl, ?_⟩) (by assumption) ?_
  rotate_left
  · intro W hSw
    go_simp
    first | done | (with_reducible rfl)
  try simp only [Act.put, sQa, sQb, sQc, gQa, gQb, gQc]
  refine' wpAnyH_take (i := 5) (oi := _) (v := ?_) rfl (by kernel_rfl) (by kernel_rfl) (by kernel_rfl) (fun _ _ _ h => h) (Or.inl ⟨by rfl, ?_⟩) (by assumption) ?_
  rotate_left
  · intro W hSw
    go_simp
    first | done | (with_reducible rfl)
  try simp only [Act.put, sQa, sQb, sQc, gQa, gQb, gQc]
  refine wpAnyH_done (by kernel_rfl) ?_ _
  refine NoPanic.normal ?_
  have W6 := hid (W0.out.trans (hHeld.mono W0.out.size))
  have t5 := r5.rds.bel hB2
  have t6 := r6.rds
  obtain ⟨b1, o1, rfl, g1⟩ := t5 l1
  obtain ⟨b2, o2, rfl, g2⟩ := t6 l2
  replace g1 := hid g1
  replace g2 := hid g2
  clear hHeld hB hB2 r5 r6 t5 t6 W0 p0 q0 I1 I2 fl
  go_wp2
  go_loopw [8] (fun i wr => ∃ j : Nat, i = .int .i64 (j : Int) ∧ j < ls.length ∧ j < ms.length ∧ firstI (ls.drop j) (ms.drop j) = f ∧ Below w6.heap.size w6 wr) (fun i _ => ls.length - (intOf i).toNat)
  case atStart => exact ⟨0, rfl, l1, l2, hf.out, Below.refl _ _⟩
  case round =>
    obtain ⟨j, rfl, j1', j2', hfj, hb⟩ := hrel
    have hd := firstI_drop ls ms j j1' j2'
    rw [hfj] at hd
    have jl : (j : Int) < (ls.length : Int) := by omega
    have jm : (j : Int) < (ms.length : Int) := by omega
    have hwr : IntKind.i64.wrap ((j : Int) + 1) = (j : Int) + 1 := IntWalk.i64_in _ (by omega)
    obtain ⟨A1, c1, e1, q1, v1, k1⟩ := g1.out j ls[j] (List.getElem?_eq_getElem j1')
    obtain ⟨A2', c2', e2, q2, v2, k2⟩ := g2.out j ms[j] (List.getElem?_eq_getElem j2')
    generalize ls[j] = la at *
    generalize ms[j] = lb at *
    replace e1 := (hb.cell (World.block_lt_of_cell? _ _ e1)).trans e1
    replace e2 := (hb.cell (World.block_lt_of_cell? _ _ e2)).trans e2
    replace q1 := q1.bel hb
    replace q2 := q2.bel hb
    by_cases hA : j + 1 < ls.length
    · have hA2 : (j : Int) + 1 < (ls.length : Int) := by omega
      by_cases hB : j + 1 < ms.length
      · have hB2 : (j : Int) + 1 < (ms.length : Int) := by omega
        by_cases hE : la = lb
        · rw [if_pos ⟨hE, hA, hB⟩] at hd
          have hS := hid (fun W (h1 : Rd W A1 la) (h2 : Rd W A2' lb) => RSame01_is A1 A2' c1 c2' la lb true W h1 h2 (decide_eq_true hE))
          replace hE := hid hE
          replace hd := hid hd
          clear hfj
          go_wp2
          refine wp_region_noPanic ?_
          refine wp_region_held_drew (S := fun w' => Below wr.heap.size wr w') (by kernel_rfl) ?_ (fun hHeld => ?_)
          · exact bel_drew wr
          refine' wpAnyH_take (i := 0) (oi := _) (v := ?_) rfl (by kernel_rfl) (by kernel_rfl) (by kernel_rfl) (fun _ _ _ h => h) (Or.inl ⟨by rfl, ?_⟩) (by assumption) ?_
          rotate_left
          · intro W hSw
            go_simp
            first | done | (with_reducible rfl)
          try simp only [Act.put, sQa, sQb, sQc, gQa, gQb, gQc]
          refine' wpAnyH_take (i := 1) (oi := _) (v := ?_) rfl (by kernel_rfl) (by kernel_rfl) (by kernel_rfl) (fun _ _ _ h => h) (Or.inl ⟨by rfl, ?_⟩) (by assumption) ?_
          rotate_left
          · intro W hSw
            go_simp
            first | done | (with_reducible rfl)
          try simp only [Act.put, sQa, sQb, sQc, gQa, gQb, gQc]
          refine' wpAnyH_take (i := 2) (oi := _) (v := ?_) rfl (by kernel_rfl) (by kernel_rfl) (by kernel_rfl) (fun _ _ _ h => h) (Or.inl ⟨by rfl, ?_⟩) (by assumption) ?_
          rotate_left
          · intro W hSw
            go_simp
            first | done | (with_reducible rfl)
          try simp only [Act.put, sQa, sQb, sQc, gQa, gQb, gQc]
          refine' wpAnyH_take (i := 3) (oi := _) (v := ?_) rfl (by kernel_rfl) (by kernel_rfl) (by kernel_rfl) (fun _ _ _ h => h) (Or.inl ⟨by rfl, ?_⟩) (by assumption) ?_
          rotate_left
          · intro W hSw
            go_simp
            first | done | (with_reducible rfl)
          try simp only [Act.put, sQa, sQb, sQc, gQa, gQb, gQc]
          refine' wpAnyH_take (i := 4) (oi := _) (v := ?_) rfl (by kernel_rfl) (by kernel_rfl) (by kernel_rfl) (fun _ _ _ h => h) (Or.inl ⟨by rfl, ?_⟩) (by assumption) ?_
          rotate_left
          · intro W hSw
            go_simp
            first | done | (with_reducible rfl)
          try simp only [Act.put, sQa, sQb, sQc, gQa, gQb, gQc]
          refine' wpAnyH_take (i := 5) (oi := _) (v := ?_) rfl (by kernel_rfl) (by kernel_rfl) (by kernel_rfl) (fun _ _ _ h => h) (Or.inl ⟨by rfl, ?_⟩) (by assumption) ?_
          rotate_left
          · intro W hSw
            go_simp
            first | done | (with_reducible rfl)
          try simp only [Act.put, sQa, sQb, sQc, gQa, gQb, gQc]
          refine' wpAnyH_take (i := 6) (oi := _) (v := ?_) rfl (by kernel_rfl) (by kernel_rfl) (by kernel_rfl) (fun _ _ _ h => h) (Or.inl ⟨by rfl, ?_⟩) (by assumption) ?_
          rotate_left
          · intro W hSw
            go_simp
            first | done | (with_reducible rfl)
          try simp only [Act.put, sQa, sQb, sQc, gQa, gQb, gQc]
          refine' wpAnyH_take (i := 7) (oi := _) (v := ?_) rfl (by kernel_rfl) (by kernel_rfl) (by kernel_rfl) (fun _ _ _ h => h) (Or.inl ⟨by rfl, ?_⟩) (by assumption) ?_
          rotate_left
          · intro W hSw
            go_simp
            first | done | (with_reducible rfl)
          try simp only [Act.put, sQa, sQb, sQc, gQa, gQb, gQc]
          refine' wpAnyH_take (i := 8) (oi := _) (v := ?_) rfl (by kernel_rfl) (by kernel_rfl) (by kernel_rfl) (fun _ _ _ h => h) (Or.inl ⟨by rfl, ?_⟩) (by assumption) ?_
          rotate_left
          · intro W hSw
            go_simp
            first | done | (with_reducible rfl)
          try simp only [Act.put, sQa, sQb, sQc, gQa, gQb, gQc]
          refine' wpAnyH_take (i := 9) (oi := _) (v := ?_) rfl (by kernel_rfl) (by kernel_rfl) (by kernel_rfl) (fun _ _ _ h => h) (Or.inl ⟨by rfl, ?_⟩) (by assumption) ?_
          rotate_left
          · intro W hSw
            go_simp
            first | done | (with_reducible rfl)
          try simp only [Act.put, sQa, sQb, sQc, gQa, gQb, gQc]
          refine' wpAnyH_take (i := 10) (oi := _) (v := ?_) rfl (by kernel_rfl) (by kernel_rfl) (by kernel_rfl) (fun _ _ _ h => h) (Or.inl ⟨by rfl, ?_⟩) (by assumption) ?_
          rotate_left
          · intro W hSw
            go_simp
            first | done | (with_reducible rfl)
          try simp only [Act.put, sQa, sQb, sQc, gQa, gQb, gQc]
          refine' wpAnyH_take (i := 11) (oi := _) (v := ?_) rfl (by kernel_rfl) (by kernel_rfl) (by kernel_rfl) (fun _ _ _ h => h) (Or.inl ⟨by rfl, ?_⟩) (by assumption) ?_
          rotate_left
          · intro W hSw
            go_simp
            first | done | (with_reducible rfl)
          try simp only [Act.put, sQa, sQb, sQc, gQa, gQb, gQc]
          refine' wpAnyH_take (i := 12) (oi := _) (v := ?_) rfl (by kernel_rfl) (by kernel_rfl) (by kernel_rfl) (fun _ _ _ h => h) (Or.inl ⟨by rfl, ?_⟩) (by assumption) ?_
          rotate_left
          · intro W hSw
            go_simp
            first | done | (with_reducible rfl)
          try simp only [Act.put, sQa, sQb, sQc, gQa, gQb, gQc]
          refine' wpAnyH_take (i := 13) (oi := _) (v := ?_) rfl (by kernel_rfl) (by kernel_rfl) (by kernel_rfl) (fun _ _ _ h => h) (Or.inl ⟨by rfl, ?_⟩) (by assumption) ?_
          rotate_left
          · intro W hSw
            go_simp
            first | done | (with_reducible rfl)
          try simp only [Act.put, sQa, sQb, sQc, gQa, gQb, gQc]
          refine' wpAnyH_take (i := 14) (oi := _) (v := ?_) rfl (by kernel_rfl) (by kernel_rfl) (by kernel_rfl) (fun _ _ _ h => h) (Or.inl ⟨by rfl, ?_⟩) (by assumption) ?_
          rotate_left
          · intro W hSw
            go_simp
            first | done | (with_reducible rfl)
          try simp only [Act.put, sQa, sQb, sQc, gQa, gQb, gQc]
          refine' wpAnyH_take (i := 15) (oi := _) (v := ?_) rfl (by kernel_rfl) (by kernel_rfl) (by kernel_rfl) (fun _ _ _ h => h) (Or.inl ⟨by rfl, ?_⟩) (by assumption) ?_
          rotate_left
          · intro W hSw
            go_simp
            first | done | (with_reducible rfl)
          try simp only [Act.put, sQa, sQb, sQc, gQa, gQb, gQc]
          refine' wpAnyH_take (i := 16) (oi := _) (v := ?_) rfl (by kernel_rfl) (by kernel_rfl) (by kernel_rfl) (fun _ _ _ h => h) (Or.inl ⟨by rfl, ?_⟩) (by assumption) ?_
          rotate_left
          · intro W hSw
            have hCell := (hSw.cell (World.block_lt_of_cell? _ _ e1)).trans e1
            go_simp
            first | done | (with_reducible rfl)
          try simp only [Act.put, sQa, sQb, sQc, gQa, gQb, gQc]
          refine' wpAnyH_take (i := 17) (oi := _) (v := ?_) rfl (by kernel_rfl) (by kernel_rfl) (by kernel_rfl) (fun _ _ _ h => h) (Or.inl ⟨by rfl, ?_⟩) (by assumption) ?_
          rotate_left
          · intro W hSw
            go_simp
            first | done | (with_reducible rfl)
          try simp only [Act.put, sQa, sQb, sQc, gQa, gQb, gQc]
          refine' wpAnyH_take (i := 18) (oi := _) (v := ?_) rfl (by kernel_rfl) (by kernel_rfl) (by kernel_rfl) (fun _ _ _ h => h) (Or.inl ⟨by rfl, ?_⟩) (by assumption) ?_
          rotate_left
          · intro W hSw
            go_simp
            first | done | (with_reducible rfl)
          try simp only [Act.put, sQa, sQb, sQc, gQa, gQb, gQc]
          refine' wpAnyH_take (i := 19) (oi := _) (v := ?_) rfl (by kernel_rfl) (by kernel_rfl) (by kernel_rfl) (fun _ _ _ h => h) (Or.inl ⟨by rfl, ?_⟩) (by assumption) ?_
          rotate_left
          · intro W hSw
            go_simp
            first | done | (with_reducible rfl)
          try simp only [Act.put, sQa, sQb, sQc, gQa, gQb, gQc]
          refine' wpAnyH_take (i := 20) (oi := _) (v := ?_) rfl (by kernel_rfl) (by kernel_rfl) (by kernel_rfl) (fun _ _ _ h => h) (Or.inl ⟨by rfl, ?_⟩) (by assumption) ?_
          rotate_left
          · intro W hSw
            have hCell := (hSw.cell (World.block_lt_of_cell? _ _ e2)).trans e2
            go_simp
            first | done | (with_reducible rfl)
          try simp only [Act.put, sQa, sQb, sQc, gQa, gQb, gQc]
          refine wpAnyH_ready (rs := [21]) (by kernel_rfl) (by simp) ?_
          refine AllReadyH.cons (o := _) rfl (fun K hK => ?_) AllReadyH.nil
          go_simp
          refine (hS.out _ (q1.bel hHeld) (q2.bel hHeld)).mono ?_
          rintro e w7 ⟨rfl, rfl⟩
          go_wp2_with fail
          refine hK.out _ _ ?_ (fun hHeld => ?_)
          · exact hHeld
          clear hK K
          try simp only [Act.put, sQa, sQb, sQc, gQa, gQb, gQc]
          refine' wpAnyH_take (i := 22) (oi := _) (v := ?_) rfl (by kernel_rfl) (by kernel_rfl) (by kernel_rfl) (fun _ _ _ h => h) (Or.inl ⟨by rfl, ?_⟩) (by assumption) ?_
          rotate_left
          · intro W hSw
            go_simp
            first | done | (with_reducible rfl)
          try simp only [Act.put, sQa, sQb, sQc, gQa, gQb, gQc]
          refine wpAnyH_done (by kernel_rfl) ?_ _
          refine NoPanic.normal ?_
          go_wp2
          go_roundw
          case rel => exact ⟨j + 1, by go_num, hA, hB, hd.out.symm, hb.drew⟩
          case measure => simp [intOf]; omega
        · rw [if_neg (fun q => hE q.1)] at hd
          have hS := hid (fun W (h1 : Rd W A1 la) (h2 : Rd W A2' lb) => RSame01_is A1 A2' c1 c2' la lb false W h1 h2 (decide_eq_false hE))
          replace hE := hid hE
          replace hd := hid hd
          clear hfj
          go_wp2
          refine wp_region_noPanic ?_
          refine wp_region_held_drew (S := fun w' => Below wr.heap.size wr w') (by kernel_rfl) ?_ (fun hHeld => ?_)
          · exact bel_drew wr
          refine' wpAnyH_take (i := 0) (oi := _) (v := ?_) rfl (by kernel_rfl) (by kernel_rfl) (by kernel_rfl) (fun _ _ _ h => h) (Or.inl ⟨by rfl, ?_⟩) (by assumption) ?_
          rotate_left
          · intro W hSw
            go_simp
            first | done | (with_reducible rfl)
          try simp only [Act.put, sQa, sQb, sQc, gQa, gQb, gQc]
          refine' wpAnyH_take (i := 1) (oi := _) (v := ?_) rfl (by kernel_rfl) (by kernel_rfl) (by kernel_rfl) (fun _ _ _ h => h) (Or.inl ⟨by rfl, ?_⟩) (by assumption) ?_
          rotate_left
          · intro W hSw
            go_simp
            first | done | (with_reducible rfl)
          try simp only [Act.put, sQa, sQb, sQc, gQa, gQb, gQc]
          refine' wpAnyH_take (i := 2) (oi := _) (v := ?_) rfl (by kernel_rfl) (by kernel_rfl) (by kernel_rfl) (fun _ _ _ h => h) (Or.inl ⟨by rfl, ?_⟩) (by assumption) ?_
          rotate_left
          · intro W hSw
            go_simp
            first | done | (with_reducible rfl)
          try simp only [Act.put, sQa, sQb, sQc, gQa, gQb, gQc]
          refine' wpAnyH_take (i := 3) (oi := _) (v := ?_) rfl (by kernel_rfl) (by kernel_rfl) (by kernel_rfl) (fun _ _ _ h => h) (Or.inl ⟨by rfl, ?_⟩) (by assumption) ?_
          rotate_left
          · intro W hSw
            go_simp
            first | done | (with_reducible rfl)
          try simp only [Act.put, sQa, sQb, sQc, gQa, gQb, gQc]
          refine' wpAnyH_take (i := 4) (oi := _) (v := ?_) rfl (by kernel_rfl) (by kernel_rfl) (by kernel_rfl) (fun _ _ _ h => h) (Or.inl ⟨by rfl, ?_⟩) (by assumption) ?_
          rotate_left
          · intro W hSw
            go_simp
            first | done | (with_reducible rfl)
          try simp only [Act.put, sQa, sQb, sQc, gQa, gQb, gQc]
          refine' wpAnyH_take (i := 5) (oi := _) (v := ?_) rfl (by kernel_rfl) (by kernel_rfl) (by kernel_rfl) (fun _ _ _ h => h) (Or.inl ⟨by rfl, ?_⟩) (by assumption) ?_
          rotate_left
          · intro W hSw
            go_simp
            first | done | (with_reducible rfl)
          try simp only [Act.put, sQa, sQb, sQc, gQa, gQb, gQc]
          refine' wpAnyH_take (i := 6) (oi := _) (v := ?_) rfl (by kernel_rfl) (by kernel_rfl) (by kernel_rfl) (fun _ _ _ h => h) (Or.inl ⟨by rfl, ?_⟩) (by assumption) ?_
          rotate_left
          · intro W hSw
            go_simp
            first | done | (with_reducible rfl)
          try simp only [Act.put, sQa, sQb, sQc, gQa, gQb, gQc]
          refine' wpAnyH_take (i := 7) (oi := _) (v := ?_) rfl (by kernel_rfl) (by kernel_rfl) (by kernel_rfl) (fun _ _ _ h => h) (Or.inl ⟨by rfl, ?_⟩) (by assumption) ?_
          rotate_left
          · intro W hSw
            go_simp
            first | done | (with_reducible rfl)
          try simp only [Act.put, sQa, sQb, sQc, gQa, gQb, gQc]
          refine' wpAnyH_take (i := 8) (oi := _) (v := ?_) rfl (by kernel_rfl) (by kernel_rfl) (by kernel_rfl) (fun _ _ _ h => h) (Or.inl ⟨by rfl, ?_⟩) (by assumption) ?_
          rotate_left
          · intro W hSw
            go_simp
            first | done | (with_reducible rfl)
          try simp only [Act.put, sQa, sQb, sQc, gQa, gQb, gQc]
          refine' wpAnyH_take (i := 9) (oi := _) (v := ?_) rfl (by kernel_rfl) (by kernel_rfl) (by kernel_rfl) (fun _ _ _ h => h) (Or.inl ⟨by rfl, ?_⟩) (by assumption) ?_
          rotate_left
          · intro W hSw
            go_simp
            first | done | (with_reducible rfl)
          try simp only [Act.put, sQa, sQb, sQc, gQa, gQb, gQc]
          refine' wpAnyH_take (i := 10) (oi := _) (v := ?_) rfl (by kernel_rfl) (by kernel_rfl) (by kernel_rfl) (fun _ _ _ h => h) (Or.inl ⟨by rfl, ?_⟩) (by assumption) ?_
          rotate_left
          · intro W hSw
            go_simp
            first | done | (with_reducible rfl)
          try simp only [Act.put, sQa, sQb, sQc, gQa, gQb, gQc]
          refine' wpAnyH_take (i := 11) (oi := _) (v := ?_) rfl (by kernel_rfl) (by kernel_rfl) (by kernel_rfl) (fun _ _ _ h => h) (Or.inl ⟨by rfl, ?_⟩) (by assumption) ?_
          rotate_left
          · intro W hSw
            go_simp
            first | done | (with_reducible rfl)
          try simp only [Act.put, sQa, sQb, sQc, gQa, gQb, gQc]
          refine' wpAnyH_take (i := 12) (oi := _) (v := ?_) rfl (by kernel_rfl) (by kernel_rfl) (by kernel_rfl) (fun _ _ _ h => h) (Or.inl ⟨by rfl, ?_⟩) (by assumption) ?_
          rotate_left
          · intro W hSw
            go_simp
            first | done | (with_reducible rfl)
          try simp only [Act.put, sQa, sQb, sQc, gQa, gQb, gQc]
          refine' wpAnyH_take (i := 13) (oi := _) (v := ?_) rfl (by kernel_rfl) (by kernel_rfl) (by kernel_rfl) (fun _ _ _ h => h) (Or.inl ⟨by rfl, ?_⟩) (by assumption) ?_
          rotate_left
          · intro W hSw
            go_simp
            first | done | (with_reducible rfl)
          try simp only [Act.put, sQa, sQb, sQc, gQa, gQb, gQc]
          refine' wpAnyH_take (i := 14) (oi := _) (v := ?_) rfl (by kernel_rfl) (by kernel_rfl) (by kernel_rfl) (fun _ _ _ h => h) (Or.inl ⟨by rfl, ?_⟩) (by assumption) ?_
          rotate_left
          · intro W hSw
            go_simp
            first | done | (with_reducible rfl)
          try simp only [Act.put, sQa, sQb, sQc, gQa, gQb, gQc]
          refine' wpAnyH_take (i := 15) (oi := _) (v := ?_) rfl (by kernel_rfl) (by kernel_rfl) (by kernel_rfl) (fun _ _ _ h => h) (Or.inl ⟨by rfl, ?_⟩) (by assumption) ?_
          rotate_left
          · intro W hSw
            go_simp
            first | done | (with_reducible rfl)
          try simp only [Act.put, sQa, sQb, sQc, gQa, gQb, gQc]
          refine' wpAnyH_take (i := 16) (oi := _) (v := ?_) rfl (by kernel_rfl) (by kernel_rfl) (by kernel_rfl) (fun _ _ _ h => h) (Or.inl ⟨by rfl, ?_⟩) (by assumption) ?_
          rotate_left
          · intro W hSw
            have hCell := (hSw.cell (World.block_lt_of_cell? _ _ e1)).trans e1
            go_simp
            first | done | (with_reducible rfl)
          try simp only [Act.put, sQa, sQb, sQc, gQa, gQb, gQc]
          refine' wpAnyH_take (i := 17) (oi := _) (v := ?_) rfl (by kernel_rfl) (by kernel_rfl) (by kernel_rfl) (fun _ _ _ h => h) (Or.inl ⟨by rfl, ?_⟩) (by assumption) ?_
          rotate_left
          · intro W hSw
            go_simp
            first | done | (with_reducible rfl)
          try simp only [Act.put, sQa, sQb, sQc, gQa, gQb, gQc]
          refine' wpAnyH_take (i := 18) (oi := _) (v := ?_) rfl (by kernel_rfl) (by kernel_rfl) (by kernel_rfl) (fun _ _ _ h => h) (Or.inl ⟨by rfl, ?_⟩) (by assumption) ?_
          rotate_left
          · intro W hSw
            go_simp
            first | done | (with_reducible rfl)
          try simp only [Act.put, sQa, sQb, sQc, gQa, gQb, gQc]
          refine' wpAnyH_take (i := 19) (oi := _) (v := ?_) rfl (by kernel_rfl) (by kernel_rfl) (by kernel_rfl) (fun _ _ _ h => h) (Or.inl ⟨by rfl, ?_⟩) (by assumption) ?_
          rotate_left
          · intro W hSw
            go_simp
            first | done | (with_reducible rfl)
          try simp only [Act.put, sQa, sQb, sQc, gQa, gQb, gQc]
          refine' wpAnyH_take (i := 20) (oi := _) (v := ?_) rfl (by kernel_rfl) (by kernel_rfl) (by kernel_rfl) (fun _ _ _ h => h) (Or.inl ⟨by rfl, ?_⟩) (by assumption) ?_
          rotate_left
          · intro W hSw
            have hCell := (hSw.cell (World.block_lt_of_cell? _ _ e2)).trans e2
            go_simp
            first | done | (with_reducible rfl)
          try simp only [Act.put, sQa, sQb, sQc, gQa, gQb, gQc]
          refine wpAnyH_ready (rs := [21]) (by kernel_rfl) (by simp) ?_
          refine AllReadyH.cons (o := _) rfl (fun K hK => ?_) AllReadyH.nil
          go_simp
          refine (hS.out _ (q1.bel hHeld) (q2.bel hHeld)).mono ?_
          rintro e w7 ⟨rfl, rfl⟩
          go_wp2_with fail
          refine hK.out _ _ ?_ (fun hHeld => ?_)
          · exact hHeld
          clear hK K
          try simp only [Act.put, sQa, sQb, sQc, gQa, gQb, gQc]
          refine' wpAnyH_take (i := 22) (oi := _) (v := ?_) rfl (by kernel_rfl) (by kernel_rfl) (by kernel_rfl) (fun _ _ _ h => h) (Or.inl ⟨by rfl, ?_⟩) (by assumption) ?_
          rotate_left
          · intro W hSw
            go_simp
            first | done | (with_reducible rfl)
          try simp only [Act.put, sQa, sQb, sQc, gQa, gQb, gQc]
          refine wpAnyH_done (by kernel_rfl) ?_ _
          refine NoPanic.normal ?_
          go_wp2
          refine wp_region_noPanic ?_
          refine wp_region_held_drew (S := fun w' => Below wr.drew.heap.size wr.drew w') (by kernel_rfl) ?_ (fun hHeld => ?_)
          · exact bel_drew wr.drew
          refine' wpAnyH_take (i := 0) (oi := _) (v := ?_) rfl (by kernel_rfl) (by kernel_rfl) (by kernel_rfl) (fun _ _ _ h => h) (Or.inl ⟨by rfl, ?_⟩) (by assumption) ?_
          rotate_left
          · intro W hSw
            go_simp
            first | done | (with_reducible rfl)
          try simp only [Act.put, sQa, sQb, sQc, gQa, gQb, gQc]
          refine' wpAnyH_take (i := 1) (oi := _) (v := ?_) rfl (by kernel_rfl) (by kernel_rfl) (by kernel_rfl) (fun _ _ _ h => h) (Or.inl ⟨by rfl, ?_⟩) (by assumption) ?_
          rotate_left
          · intro W hSw
            go_simp
            first | done | (with_reducible rfl)
          try simp only [Act.put, sQa, sQb, sQc, gQa, gQb, gQc]
          refine' wpAnyH_take (i := 2) (oi := _) (v := ?_) rfl (by kernel_rfl) (by kernel_rfl) (by kernel_rfl) (fun _ _ _ h => h) (Or.inl ⟨by rfl, ?_⟩) (by assumption) ?_
          rotate_left
          · intro W hSw
            go_simp
            first | done | (with_reducible rfl)
          try simp only [Act.put, sQa, sQb, sQc, gQa, gQb, gQc]
          refine' wpAnyH_take (i := 3) (oi := _) (v := ?_) rfl (by kernel_rfl) (by kernel_rfl) (by kernel_rfl) (fun _ _ _ h => h) (Or.inl ⟨by rfl, ?_⟩) (by assumption) ?_
          rotate_left
          · intro W hSw
            have hCell := (hSw.cell (World.block_lt_of_cell? _ _ e1)).trans e1
            go_simp
            first | done | (with_reducible rfl)
          try simp only [Act.put, sQa, sQb, sQc, gQa, gQb, gQc]
          refine' wpAnyH_take (i := 4) (oi := _) (v := ?_) rfl (by kernel_rfl) (by kernel_rfl) (by kernel_rfl) (fun _ _ _ h => h) (Or.inl ⟨by rfl, ?_⟩) (by assumption) ?_
          rotate_left
          · intro W hSw
            go_simp
            first | done | (with_reducible rfl)
          try simp only [Act.put, sQa, sQb, sQc, gQa, gQb, gQc]
          refine' wpAnyH_take (i := 5) (oi := _) (v := ?_) rfl (by kernel_rfl) (by kernel_rfl) (by kernel_rfl) (fun _ _ _ h => h) (Or.inl ⟨by rfl, ?_⟩) (by assumption) ?_
          rotate_left
          · intro W hSw
            go_simp
            first | done | (with_reducible rfl)
          try simp only [Act.put, sQa, sQb, sQc, gQa, gQb, gQc]
          refine' wpAnyH_take (i := 6) (oi := _) (v := ?_) rfl (by kernel_rfl) (by kernel_rfl) (by kernel_rfl) (fun _ _ _ h => h) (Or.inl ⟨by rfl, ?_⟩) (by assumption) ?_
          rotate_left
          · intro W hSw
            go_simp
            first | done | (with_reducible rfl)
          try simp only [Act.put, sQa, sQb, sQc, gQa, gQb, gQc]
          refine' wpAnyH_take (i := 7) (oi := _) (v := ?_) rfl (by kernel_rfl) (by kernel_rfl) (by kernel_rfl) (fun _ _ _ h => h) (Or.inl ⟨by rfl, ?_⟩) (by assumption) ?_
          rotate_left
          · intro W hSw
            have hCell := (hSw.cell (World.block_lt_of_cell? _ _ e2)).trans e2
            go_simp
            first | done | (with_reducible rfl)
          try simp only [Act.put, sQa, sQb, sQc, gQa, gQb, gQc]
          refine' wpAnyH_take (i := 8) (oi := _) (v := ?_) rfl (by kernel_rfl) (by kernel_rfl) (by kernel_rfl) (fun _ _ _ h => h) (Or.inl ⟨by rfl, ?_⟩) (by assumption) ?_
          rotate_left
          · intro W hSw
            go_simp
            first | done | (with_reducible rfl)
          try simp only [Act.put, sQa, sQb, sQc, gQa, gQb, gQc]
          refine' wpAnyH_take (i := 9) (oi := _) (v := ?_) rfl (by kernel_rfl) (by kernel_rfl) (by kernel_rfl) (fun _ _ _ h => h) (Or.inl ⟨by rfl, ?_⟩) (by assumption) ?_
          rotate_left
          · intro W hSw
            go_simp
            first | done | (with_reducible rfl)
          try simp only [Act.put, sQa, sQb, sQc, gQa, gQb, gQc]
          refine wpAnyH_done (by kernel_rfl) ?_ _
          refine NoPanic.normal ?_
          go_wp2
          go_ret2
          rw [hd.out]
          exact ⟨A1, c1, A2', c2', rfl, ⟨q1, v1, k1⟩, ⟨q2, v2, k2⟩, W6.out.trans (hb.drew.drew.mono W6.out.size)⟩
      · have hB2 : ¬ (j : Int) + 1 < (ms.length : Int) := by omega
        have hB3 : decide ((j : Int) + 1 < (ms.length : Int)) = false := decide_eq_false hB2
        rw [if_neg (fun q => hB q.2.2)] at hd
        replace hd := hid hd
        clear hfj
        go_wp2
        refine wp_region_noPanic ?_
        refine wp_region_held_drew (S := fun w' => Below wr.heap.size wr w') (by kernel_rfl) ?_ (fun hHeld => ?_)
        · exact bel_drew wr
        refine' wpAnyH_take (i := 0) (oi := _) (v := ?_) rfl (by kernel_rfl) (by kernel_rfl) (by kernel_rfl) (fun _ _ _ h => h) (Or.inl ⟨by rfl, ?_⟩) (by assumption) ?_
        rotate_left
        · intro W hSw
          go_simp
          first | done | (with_reducible rfl)
        try simp only [Act.put, sQa, sQb, sQc, gQa, gQb, gQc]
        refine' wpAnyH_take (i := 1) (oi := _) (v := ?_) rfl (by kernel_rfl) (by kernel_rfl) (by kernel_rfl) (fun _ _ _ h => h) (Or.inl ⟨by rfl, ?_⟩) (by assumption) ?_
        rotate_left
        · intro W hSw
          go_simp
          first | done | (with_reducible rfl)
        try simp only [Act.put, sQa, sQb, sQc, gQa, gQb, gQc]
        refine' wpAnyH_take (i := 2) (oi := _) (v := ?_) rfl (by kernel_rfl) (by kernel_rfl) (by kernel_rfl) (fun _ _ _ h => h) (Or.inl ⟨by rfl, ?_⟩) (by assumption) ?_
        rotate_left
        · intro W hSw
          go_simp
          first | done | (with_reducible rfl)
        try simp only [Act.put, sQa, sQb, sQc, gQa, gQb, gQc]
        refine' wpAnyH_take (i := 3) (oi := _) (v := ?_) rfl (by kernel_rfl) (by kernel_rfl) (by kernel_rfl) (fun _ _ _ h => h) (Or.inl ⟨by rfl, ?_⟩) (by assumption) ?_
        rotate_left
        · intro W hSw
          go_simp
          first | done | (with_reducible rfl)
        try simp only [Act.put, sQa, sQb, sQc, gQa, gQb, gQc]
        refine' wpAnyH_take (i := 4) (oi := _) (v := ?_) rfl (by kernel_rfl) (by kernel_rfl) (by kernel_rfl) (fun _ _ _ h => h) (Or.inl ⟨by rfl, ?_⟩) (by assumption) ?_
        rotate_left
        · intro W hSw
          go_simp
          first | done | (with_reducible rfl)
        try simp only [Act.put, sQa, sQb, sQc, gQa, gQb, gQc]
        refine' wpAnyH_take (i := 5) (oi := _) (v := ?_) rfl (by kernel_rfl) (by kernel_rfl) (by kernel_rfl) (fun _ _ _ h => h) (Or.inl ⟨by rfl, ?_⟩) (by assumption) ?_
        rotate_left
        · intro W hSw
          go_simp
          first | done | (with_reducible rfl)
        try simp only [Act.put, sQa, sQb, sQc, gQa, gQb, gQc]
        refine' wpAnyH_take (i := 6) (oi := _) (v := ?_) rfl (by kernel_rfl) (by kernel_rfl) (by kernel_rfl) (fun _ _ _ h => h) (Or.inl ⟨by rfl, ?_⟩) (by assumption) ?_
        rotate_left
        · intro W hSw
          go_simp
          first | done | (with_reducible rfl)
        try simp only [Act.put, sQa, sQb, sQc, gQa, gQb, gQc]
        refine' wpAnyH_take (i := 7) (oi := _) (v := ?_) rfl (by kernel_rfl) (by kernel_rfl) (by kernel_rfl) (fun _ _ _ h => h) (Or.inl ⟨by rfl, ?_⟩) (by assumption) ?_
        rotate_left
        · intro W hSw
          go_simp
          first | done | (with_reducible rfl)
        try simp only [Act.put, sQa, sQb, sQc, gQa, gQb, gQc]
        refine' wpAnyH_take (i := 8) (oi := _) (v := ?_) rfl (by kernel_rfl) (by kernel_rfl) (by kernel_rfl) (fun _ _ _ h => h) (Or.inl ⟨by rfl, ?_⟩) (by assumption) ?_
        rotate_left
        · intro W hSw
          go_simp
          first | done | (with_reducible rfl)
        try simp only [Act.put, sQa, sQb, sQc, gQa, gQb, gQc]
        refine' wpAnyH_take (i := 9) (oi := _) (v := ?_) rfl (by kernel_rfl) (by kernel_rfl) (by kernel_rfl) (fun _ _ _ h => h) (Or.inl ⟨by rfl, ?_⟩) (by assumption) ?_
        rotate_left
        · intro W hSw
          go_simp
          first | done | (with_reducible rfl)
        try simp only [Act.put, sQa, sQb, sQc, gQa, gQb, gQc]
        refine' wpAnyH_take (i := 10) (oi := _) (v := ?_) rfl (by kernel_rfl) (by kernel_rfl) (by kernel_rfl) (fun _ _ _ h => h) (Or.inl ⟨by rfl, ?_⟩) (by assumption) ?_
        rotate_left
        · intro W hSw
          go_simp
          first | done | (with_reducible rfl)
        try simp only [Act.put, sQa, sQb, sQc, gQa, gQb, gQc]
        refine' wpAnyH_take (i := 11) (oi := _) (v := ?_) rfl (by kernel_rfl) (by kernel_rfl) (by kernel_rfl) (fun _ _ _ h => h) (Or.inl ⟨by rfl, ?_⟩) (by assumption) ?_
        rotate_left
        · intro W hSw
          go_simp
          first | done | (with_reducible rfl)
        try simp only [Act.put, sQa, sQb, sQc, gQa, gQb, gQc]
        refine' wpAnyH_take (i := 12) (oi := _) (v := ?_) rfl (by kernel_rfl) (by kernel_rfl) (by kernel_rfl) (fun _ _ _ h => h) (Or.inl ⟨by rfl, ?_⟩) (by assumption) ?_
        rotate_left
        · intro W hSw
          go_simp
          first | done | (with_reducible rfl)
        try simp only [Act.put, sQa, sQb, sQc, gQa, gQb, gQc]
        refine' wpAnyH_take (i := 13) (oi := _) (v := _) rfl (by kernel_rfl) (by kernel_rfl) (by kernel_rfl) (fun _ _ _ h => h) (Or.inr ⟨by rfl, rfl⟩) (by assumption) ?_
        try simp only [Act.put, sQa, sQb, sQc, gQa, gQb, gQc]
        refine' wpAnyH_take (i := 14) (oi := _) (v := _) rfl (by kernel_rfl) (by kernel_rfl) (by kernel_rfl) (fun _ _ _ h => h) (Or.inr ⟨by rfl, rfl⟩) (by assumption) ?_
        try simp only [Act.put, sQa, sQb, sQc, gQa, gQb, gQc]
        refine' wpAnyH_take (i := 15) (oi := _) (v := _) rfl (by kernel_rfl) (by kernel_rfl) (by kernel_rfl) (fun _ _ _ h => h) (Or.inr ⟨by rfl, rfl⟩) (by assumption) ?_
        try simp only [Act.put, sQa, sQb, sQc, gQa, gQb, gQc]
        refine' wpAnyH_take (i := 16) (oi := _) (v := _) rfl (by kernel_rfl) (by kernel_rfl) (by kernel_rfl) (fun _ _ _ h => h) (Or.inr ⟨by rfl, rfl⟩) (by assumption) ?_
        try simp only [Act.put, sQa, sQb, sQc, gQa, gQb, gQc]
        refine' wpAnyH_take (i := 17) (oi := _) (v := _) rfl (by kernel_rfl) (by kernel_rfl) (by kernel_rfl) (fun _ _ _ h => h) (Or.inr ⟨by rfl, rfl⟩) (by assumption) ?_
        try simp only [Act.put, sQa, sQb, sQc, gQa, gQb, gQc]
        refine' wpAnyH_take (i := 18) (oi := _) (v := _) rfl (by kernel_rfl) (by kernel_rfl) (by kernel_rfl) (fun _ _ _ h => h) (Or.inr ⟨by rfl, rfl⟩) (by assumption) ?_
        try simp only [Act.put, sQa, sQb, sQc, gQa, gQb, gQc]
        refine' wpAnyH_take (i := 19) (oi := _) (v := _) rfl (by kernel_rfl) (by kernel_rfl) (by kernel_rfl) (fun _ _ _ h => h) (Or.inr ⟨by rfl, rfl⟩) (by assumption) ?_
        try simp only [Act.put, sQa, sQb, sQc, gQa, gQb, gQc]
        refine' wpAnyH_take (i := 20) (oi := _) (v := _) rfl (by kernel_rfl) (by kernel_rfl) (by kernel_rfl) (fun _ _ _ h => h) (Or.inr ⟨by rfl, rfl⟩) (by assumption) ?_
        try simp only [Act.put, sQa, sQb, sQc, gQa, gQb, gQc]
        refine' wpAnyH_take (i := 21) (oi := _) (v := _) rfl (by kernel_rfl) (by kernel_rfl) (by kernel_rfl) (fun _ _ _ h => h) (Or.inr ⟨by rfl, rfl⟩) (by assumption) ?_
        try simp only [Act.put, sQa, sQb, sQc, gQa, gQb, gQc]
        refine' wpAnyH_take (i := 22) (oi := _) (v := ?_) rfl (by kernel_rfl) (by kernel_rfl) (by kernel_rfl) (fun _ _ _ h => h) (Or.inl ⟨by rfl, ?_⟩) (by assumption) ?_
        rotate_left
        · intro W hSw
          go_simp
          first | done | (with_reducible rfl)
        try simp only [Act.put, sQa, sQb, sQc, gQa, gQb, gQc]
        refine wpAnyH_done (by kernel_rfl) ?_ _
        refine NoPanic.normal ?_
        go_wp2
        refine wp_region_noPanic ?_
        refine wp_region_held_drew (S := fun w' => Below wr.drew.heap.size wr.drew w') (by kernel_rfl) ?_ (fun hHeld => ?_)
        · exact bel_drew wr.drew
        refine' wpAnyH_take (i := 0) (oi := _) (v := ?_) rfl (by kernel_rfl) (by kernel_rfl) (by kernel_rfl) (fun _ _ _ h => h) (Or.inl ⟨by rfl, ?_⟩) (by assumption) ?_
        rotate_left
        · intro W hSw
          go_simp
          first | done | (with_reducible rfl)
        try simp only [Act.put, sQa, sQb, sQc, gQa, gQb, gQc]
        refine' wpAnyH_take (i := 1) (oi := _) (v := ?_) rfl (by kernel_rfl) (by kernel_rfl) (by kernel_rfl) (fun _ _ _ h => h) (Or.inl ⟨by rfl, ?_⟩) (by assumption) ?_
        rotate_left
        · intro W hSw
          go_simp
          first | done | (with_reducible rfl)
        try simp only [Act.put, sQa, sQb, sQc, gQa, gQb, gQc]
        refine' wpAnyH_take (i := 2) (oi := _) (v := ?_) rfl (by kernel_rfl) (by kernel_rfl) (by kernel_rfl) (fun _ _ _ h => h) (Or.inl ⟨by rfl, ?_⟩) (by assumption) ?_
        rotate_left
        · intro W hSw
          go_simp
          first | done | (with_reducible rfl)
        try simp only [Act.put, sQa, sQb, sQc, gQa, gQb, gQc]
        refine' wpAnyH_take (i := 3) (oi := _) (v := ?_) rfl (by kernel_rfl) (by kernel_rfl) (by kernel_rfl) (fun _ _ _ h => h) (Or.inl ⟨by rfl, ?_⟩) (by assumption) ?_
        rotate_left
        · intro W hSw
          have hCell := (hSw.cell (World.block_lt_of_cell? _ _ e1)).trans e1
          go_simp
          first | done | (with_reducible rfl)
        try simp only [Act.put, sQa, sQb, sQc, gQa, gQb, gQc]
        refine' wpAnyH_take (i := 4) (oi := _) (v := ?_) rfl (by kernel_rfl) (by kernel_rfl) (by kernel_rfl) (fun _ _ _ h => h) (Or.inl ⟨by rfl, ?_⟩) (by assumption) ?_
        rotate_left
        · intro W hSw
          go_simp
          first | done | (with_reducible rfl)
        try simp only [Act.put, sQa, sQb, sQc, gQa, gQb, gQc]
        refine' wpAnyH_take (i := 5) (oi := _) (v := ?_) rfl (by kernel_rfl) (by kernel_rfl) (by kernel_rfl) (fun _ _ _ h => h) (Or.inl ⟨by rfl, ?_⟩) (by assumption) ?_
        rotate_left
        · intro W hSw
          go_simp
          first | done | (with_reducible rfl)
        try simp only [Act.put, sQa, sQb, sQc, gQa, gQb, gQc]
        refine' wpAnyH_take (i := 6) (oi := _) (v := ?_) rfl (by kernel_rfl) (by kernel_rfl) (by kernel_rfl) (fun _ _ _ h => h) (Or.inl ⟨by rfl, ?_⟩) (by assumption) ?_
        rotate_left
        · intro W hSw
          go_simp
          first | done | (with_reducible rfl)
        try simp only [Act.put, sQa, sQb, sQc, gQa, gQb, gQc]
        refine' wpAnyH_take (i := 7) (oi := _) (v := ?_) rfl (by kernel_rfl) (by kernel_rfl) (by kernel_rfl) (fun _ _ _ h => h) (Or.inl ⟨by rfl, ?_⟩) (by assumption) ?_
        rotate_left
        · intro W hSw
          have hCell := (hSw.cell (World.block_lt_of_cell? _ _ e2)).trans e2
          go_simp
          first | done | (with_reducible rfl)
        try simp only [Act.put, sQa, sQb, sQc, gQa, gQb, gQc]
        refine' wpAnyH_take (i := 8) (oi := _) (v := ?_) rfl (by kernel_rfl) (by kernel_rfl) (by kernel_rfl) (fun _ _ _ h => h) (Or.inl ⟨by rfl, ?_⟩) (by assumption) ?_
        rotate_left
        · intro W hSw
          go_simp
          first | done | (with_reducible rfl)
        try simp only [Act.put, sQa, sQb, sQc, gQa, gQb, gQc]
        refine' wpAnyH_take (i := 9) (oi := _) (v := ?_) rfl (by kernel_rfl) (by kernel_rfl) (by kernel_rfl) (fun _ _ _ h => h) (Or.inl ⟨by rfl, ?_⟩) (by assumption) ?_
        rotate_left
        · intro W hSw
          go_simp
          first | done | (with_reducible rfl)
        try simp only [Act.put, sQa, sQb, sQc, gQa, gQb, gQc]
        refine wpAnyH_done (by kernel_rfl) ?_ _
        refine NoPanic.normal ?_
        go_wp2
        go_ret2
        rw [hd.out]
        exact ⟨A1, c1, A2', c2', rfl, ⟨q1, v1, k1⟩, ⟨q2, v2, k2⟩, W6.out.trans (hb.drew.drew.mono W6.out.size)⟩
    · have hA2 : ¬ (j : Int) + 1 < (ls.length : Int) := by omega
      have hA3 : decide ((j : Int) + 1 < (ls.length : Int)) = false := decide_eq_false hA2
      rw [if_neg (fun q => hA q.2.1)] at hd
      replace hd := hid hd
      clear hfj
      go_wp2
      refine wp_region_noPanic ?_
      refine wp_region_held_drew (S := fun w' => Below wr.heap.size wr w') (by kernel_rfl) ?_ (fun hHeld => ?_)
      · exact bel_drew wr
      refine' wpAnyH_take (i := 0) (oi := _) (v := ?_) rfl (by kernel_rfl) (by kernel_rfl) (by kernel_rfl) (fun _ _ _ h => h) (Or.inl ⟨by rfl, ?_⟩) (by assumption) ?_
      rotate_left
      · intro W hSw
        go_simp
        first | done | (with_reducible rfl)
      try simp only [Act.put, sQa, sQb, sQc, gQa, gQb, gQc]
      refine' wpAnyH_take (i := 1) (oi := _) (v := ?_) rfl (by kernel_rfl) (by kernel_rfl) (by kernel_rfl) (fun _ _ _ h => h) (Or.inl ⟨by rfl, ?_⟩) (by assumption) ?_
      rotate_left
      · intro W hSw
        go_simp
        first | done | (with_reducible rfl)
      try simp only [Act.put, sQa, sQb, sQc, gQa, gQb, gQc]
      refine' wpAnyH_take (i := 2) (oi := _) (v := ?_) rfl (by kernel_rfl) (by kernel_rfl) (by kernel_rfl) (fun _ _ _ h => h) (Or.inl ⟨by rfl, ?_⟩) (by assumption) ?_
      rotate_left
      · intro W hSw
        go_simp
        first | done | (with_reducible rfl)
      try simp only [Act.put, sQa, sQb, sQc, gQa, gQb, gQc]
      refine' wpAnyH_take (i := 3) (oi := _) (v := ?_) rfl (by kernel_rfl) (by kernel_rfl) (by kernel_rfl) (fun _ _ _ h => h) (Or.inl ⟨by rfl, ?_⟩) (by assumption) ?_
      rotate_left
      · intro W hSw
        go_simp
        first | done | (with_reducible rfl)
      try simp only [Act.put, sQa, sQb, sQc, gQa, gQb, gQc]
      refine' wpAnyH_take (i := 4) (oi := _) (v := ?_) rfl (by kernel_rfl) (by kernel_rfl) (by kernel_rfl) (fun _ _ _ h => h) (Or.inl ⟨by rfl, ?_⟩) (by assumption) ?_
      rotate_left
      · intro W hSw
        go_simp
        first | done | (with_reducible rfl)
      try simp only [Act.put, sQa, sQb, sQc, gQa, gQb, gQc]
      refine' wpAnyH_take (i := 5) (oi := _) (v := ?_) rfl (by kernel_rfl) (by kernel_rfl) (by kernel_rfl) (fun _ _ _ h => h) (Or.inl ⟨by rfl, ?_⟩) (by assumption) ?_
      rotate_left
      · intro W hSw
        go_simp
        first | done | (with_reducible rfl)
      try simp only [Act.put, sQa, sQb, sQc, gQa, gQb, gQc]
      refine' wpAnyH_take (i := 6) (oi := _) (v := _) rfl (by kernel_rfl) (by kernel_rfl) (by kernel_rfl) (fun _ _ _ h => h) (Or.inr ⟨by rfl, rfl⟩) (by assumption) ?_
      try simp only [Act.put, sQa, sQb, sQc, gQa, gQb, gQc]
      refine' wpAnyH_take (i := 7) (oi := _) (v := _) rfl (by kernel_rfl) (by kernel_rfl) (by kernel_rfl) (fun _ _ _ h => h) (Or.inr ⟨by rfl, rfl⟩) (by assumption) ?_
      try simp only [Act.put, sQa, sQb, sQc, gQa, gQb, gQc]
      refine' wpAnyH_take (i := 8) (oi := _) (v := _) rfl (by kernel_rfl) (by kernel_rfl) (by kernel_rfl) (fun _ _ _ h => h) (Or.inr ⟨by rfl, rfl⟩) (by assumption) ?_
      try simp only [Act.put, sQa, sQb, sQc, gQa, gQb, gQc]
      refine' wpAnyH_take (i := 9) (oi := _) (v := _) rfl (by kernel_rfl) (by kernel_rfl) (by kernel_rfl) (fun _ _ _ h => h) (Or.inr ⟨by rfl, rfl⟩) (by assumption) ?_
      try simp only [Act.put, sQa, sQb, sQc, gQa, gQb, gQc]
      refine' wpAnyH_take (i := 10) (oi := _) (v := _) rfl (by kernel_rfl) (by kernel_rfl) (by kernel_rfl) (fun _ _ _ h => h) (Or.inr ⟨by rfl, rfl⟩) (by assumption) ?_
      try simp only [Act.put, sQa, sQb, sQc, gQa, gQb, gQc]
      refine' wpAnyH_take (i := 11) (oi := _) (v := ?_) rfl (by kernel_rfl) (by kernel_rfl) (by kernel_rfl) (fun _ _ _ h => h) (Or.inl ⟨by rfl, ?_⟩) (by assumption) ?_
      rotate_left
      · intro W hSw
        go_simp
        first | done | (with_reducible rfl)
      try simp only [Act.put, sQa, sQb, sQc, gQa, gQb, gQc]
      refine' wpAnyH_take (i := 12) (oi := _) (v := ?_) rfl (by kernel_rfl) (by kernel_rfl) (by kernel_rfl) (fun _ _ _ h => h) (Or.inl ⟨by rfl, ?_⟩) (by assumption) ?_
      rotate_left
      · intro W hSw
        go_simp
        first | done | (with_reducible rfl)
      try simp only [Act.put, sQa, sQb, sQc, gQa, gQb, gQc]
      refine' wpAnyH_take (i := 13) (oi := _) (v := _) rfl (by kernel_rfl) (by kernel_rfl) (by kernel_rfl) (fun _ _ _ h => h) (Or.inr ⟨by rfl, rfl⟩) (by assumption) ?_
      try simp only [Act.put, sQa, sQb, sQc, gQa, gQb, gQc]
      refine' wpAnyH_take (i := 14) (oi := _) (v := _) rfl (by kernel_rfl) (by kernel_rfl) (by kernel_rfl) (fun _ _ _ h => h) (Or.inr ⟨by rfl, rfl⟩) (by assumption) ?_
      try simp only [Act.put, sQa, sQb, sQc, gQa, gQb, gQc]
      refine' wpAnyH_take (i := 15) (oi := _) (v := _) rfl (by kernel_rfl) (by kernel_rfl) (by kernel_rfl) (fun _ _ _ h => h) (Or.inr ⟨by rfl, rfl⟩) (by assumption) ?_
      try simp only [Act.put, sQa, sQb, sQc, gQa, gQb, gQc]
      refine' wpAnyH_take (i := 16) (oi := _) (v := _) rfl (by kernel_rfl) (by kernel_rfl) (by kernel_rfl) (fun _ _ _ h => h) (Or.inr ⟨by rfl, rfl⟩) (by assumption) ?_
      try simp only [Act.put, sQa, sQb, sQc, gQa, gQb, gQc]
      refine' wpAnyH_take (i := 17) (oi := _) (v := _) rfl (by kernel_rfl) (by kernel_rfl) (by kernel_rfl) (fun _ _ _ h => h) (Or.inr ⟨by rfl, rfl⟩) (by assumption) ?_
      try simp only [Act.put, sQa, sQb, sQc, gQa, gQb, gQc]
      refine' wpAnyH_take (i := 18) (oi := _) (v := _) rfl (by kernel_rfl) (by kernel_rfl) (by kernel_rfl) (fun _ _ _ h => h) (Or.inr ⟨by rfl, rfl⟩) (by assumption) ?_
      try simp only [Act.put, sQa, sQb, sQc, gQa, gQb, gQc]
      refine' wpAnyH_take (i := 19) (oi := _) (v := _) rfl (by kernel_rfl) (by kernel_rfl) (by kernel_rfl) (fun _ _ _ h => h) (Or.inr ⟨by rfl, rfl⟩) (by assumption) ?_
      try simp only [Act.put, sQa, sQb, sQc, gQa, gQb, gQc]
      refine' wpAnyH_take (i := 20) (oi := _) (v := _) rfl (by kernel_rfl) (by kernel_rfl) (by kernel_rfl) (fun _ _ _ h => h) (Or.inr ⟨by rfl, rfl⟩) (by assumption) ?_
      try simp only [Act.put, sQa, sQb, sQc, gQa, gQb, gQc]
      refine' wpAnyH_take (i := 21) (oi := _) (v := _) rfl (by kernel_rfl) (by kernel_rfl) (by kernel_rfl) (fun _ _ _ h => h) (Or.inr ⟨by rfl, rfl⟩) (by assumption) ?_
      try simp only [Act.put, sQa, sQb, sQc, gQa, gQb, gQc]
      refine' wpAnyH_take (i := 22) (oi := _) (v := ?_) rfl (by kernel_rfl) (by kernel_rfl) (by kernel_rfl) (fun _ _ _ h => h) (Or.inl ⟨by rfl, ?_⟩) (by assumption) ?_
      rotate_left
      · intro W hSw
        go_simp
        first | done | (with_reducible rfl)
      try simp only [Act.put, sQa, sQb, sQc, gQa, gQb, gQc]
      refine wpAnyH_done (by kernel_rfl) ?_ _
      refine NoPanic.normal ?_
      go_wp2
      refine wp_region_noPanic ?_
      refine wp_region_held_drew (S := fun w' => Below wr.drew.heap.size wr.drew w') (by kernel_rfl) ?_ (fun hHeld => ?_)
      · exact bel_drew wr.drew
      refine' wpAnyH_take (i := 0) (oi := _) (v := ?_) rfl (by kernel_rfl) (by kernel_rfl) (by kernel_rfl) (fun _ _ _ h => h) (Or.inl ⟨by rfl, ?_⟩) (by assumption) ?_
      rotate_left
      · intro W hSw
        go_simp
        first | done | (with_reducible rfl)
      try simp only [Act.put, sQa, sQb, sQc, gQa, gQb, gQc]
      refine' wpAnyH_take (i := 1) (oi := _) (v := ?_) rfl (by kernel_rfl) (by kernel_rfl) (by kernel_rfl) (fun _ _ _ h => h) (Or.inl ⟨by rfl, ?_⟩) (by assumption) ?_
      rotate_left
      · intro W hSw
        go_simp
        first | done | (with_reducible rfl)
      try simp only [Act.put, sQa, sQb, sQc, gQa, gQb, gQc]
      refine' wpAnyH_take (i := 2) (oi := _) (v := ?_) rfl (by kernel_rfl) (by kernel_rfl) (by kernel_rfl) (fun _ _ _ h => h) (Or.inl ⟨by rfl, ?_⟩) (by assumption) ?_
      rotate_left
      · intro W hSw
        go_simp
        first | done | (with_reducible rfl)
      try simp only [Act.put, sQa, sQb, sQc, gQa, gQb, gQc]
      refine' wpAnyH_take (i := 3) (oi := _) (v := ?_) rfl (by kernel_rfl) (by kernel_rfl) (by kernel_rfl) (fun _ _ _ h => h) (Or.inl ⟨by rfl, ?_⟩) (by assumption) ?_
      rotate_left
      · intro W hSw
        have hCell := (hSw.cell (World.block_lt_of_cell? _ _ e1)).trans e1
        go_simp
        first | done | (with_reducible rfl)
      try simp only [Act.put, sQa, sQb, sQc, gQa, gQb, gQc]
      refine' wpAnyH_take (i := 4) (oi := _) (v := ?_) rfl (by kernel_rfl) (by kernel_rfl) (by kernel_rfl) (fun _ _ _ h => h) (Or.inl ⟨by rfl, ?_⟩) (by assumption) ?_
      rotate_left
      · intro W hSw
        go_simp
        first | done | (with_reducible rfl)
      try simp only [Act.put, sQa, sQb, sQc, gQa, gQb, gQc]
      refine' wpAnyH_take (i := 5) (oi := _) (v := ?_) rfl (by kernel_rfl) (by kernel_rfl) (by kernel_rfl) (fun _ _ _ h => h) (Or.inl ⟨by rfl, ?_⟩) (by assumption) ?_
      rotate_left
      · intro W hSw
        go_simp
        first | done | (with_reducible rfl)
      try simp only [Act.put, sQa, sQb, sQc, gQa, gQb, gQc]
      refine' wpAnyH_take (i := 6) (oi := _) (v := ?_) rfl (by kernel_rfl) (by kernel_rfl) (by kernel_rfl) (fun _ _ _ h => h) (Or.inl ⟨by rfl, ?_⟩) (by assumption) ?_
      rotate_left
      · intro W hSw
        go_simp
        first | done | (with_reducible rfl)
      try simp only [Act.put, sQa, sQb, sQc, gQa, gQb, gQc]
      refine' wpAnyH_take (i := 7) (oi := _) (v := ?_) rfl (by kernel_rfl) (by kernel_rfl) (by kernel_rfl) (fun _ _ _ h => h) (Or.inl ⟨by rfl, ?_⟩) (by assumption) ?_
      rotate_left
      · intro W hSw
        have hCell := (hSw.cell (World.block_lt_of_cell? _ _ e2)).trans e2
        go_simp
        first | done | (with_reducible rfl)
      try simp only [Act.put, sQa, sQb, sQc, gQa, gQb, gQc]
      refine' wpAnyH_take (i := 8) (oi := _) (v := ?_) rfl (by kernel_rfl) (by kernel_rfl) (by kernel_rfl) (fun _ _ _ h => h) (Or.inl ⟨by rfl, ?_⟩) (by assumption) ?_
      rotate_left
      · intro W hSw
        go_simp
        first | done | (with_reducible rfl)
      try simp only [Act.put, sQa, sQb, sQc, gQa, gQb, gQc]
      refine' wpAnyH_take (i := 9) (oi := _) (v := ?_) rfl (by kernel_rfl) (by kernel_rfl) (by kernel_rfl) (fun _ _ _ h => h) (Or.inl ⟨by rfl, ?_⟩) (by assumption) ?_
      rotate_left
      · intro W hSw
        go_simp
        first | done | (with_reducible rfl)
      try simp only [Act.put, sQa, sQb, sQc, gQa, gQb, gQc]
      refine wpAnyH_done (by kernel_rfl) ?_ _
      refine NoPanic.normal ?_
      go_wp2
      go_ret2
      rw [hd.out]
      exact ⟨A1, c1, A2', c2', rfl, ⟨q1, v1, k1⟩, ⟨q2, v2, k2⟩, W6.out.trans (hb.drew.drew.mono W6.out.size)⟩
end Go.Proofs.YtapnhdpgogfceaaGreatDoor

/- (Ref09c)
  The document's answer for layer 9: Seek.
-/
namespace Go.Proofs.YtapnhdpgogfceaaGreatDoor
open Go.RowKit
set_option linter.unusedVariables false
set_option linter.unusedSimpArgs false
set_option maxRecDepth 100000

set_option maxHeartbeats 2000000 in
theorem RSeek_any (F G : Nat → Prop) (x y : Pf) (A A2 : Option Addr) (c c2 : Nat) (D D2 : Option Addr) (d d2 : Nat) (w : World) (hr : Rd w A x.v) (h1 : x.v.length ≤ c) (h2 : c ≤ maxLen) (hs : Row F w D x.ss) (hr2 : Rd w A2 y.v) (h3 : y.v.length ≤ c2) (h4 : c2 ≤ maxLen) (hs2 : Row G w D2 y.ss) :
    Calls Tryz.prog 9 #[.agg (pfC x A c D d).toArray, .agg (pfC y A2 c2 D2 d2).toArray] w fun e w' => ∃ A5 c5 A6 c6, e = .returned (.tuple #[.slice A5 (seekP x y).1.length c5, .slice A6 (seekP x y).2.length c6, .int .i64 (seekE x y)]) ∧ Txt w' A5 c5 (seekP x y).1 ∧ Txt w' A6 c6 (seekP x y).2 ∧ Below w.heap.size w w' := by
  obtain ⟨B1, B2, W0⟩ := boxesPPr w x y A A2 c c2 D D2 d d2 30
  have hup := Tryz.underlying30
  have p0 := hid B1.all
  have q0 := hid B2.all
  have j1 := hid (sizePfC x A c D d)
  have j2 := hid (sizePfC y A2 c2 D2 d2)
  obtain ⟨m1, hm1⟩ : ∃ m, mayF x = m := ⟨_, rfl⟩
  obtain ⟨m2, hm2⟩ : ∃ m, mayF y = m := ⟨_, rfl⟩
  obtain ⟨u, hu⟩ : ∃ u, unlikeF x y = u := ⟨_, rfl⟩
  obtain ⟨P, hP⟩ : ∃ P, seekP x y = P := ⟨_, rfl⟩
  obtain ⟨E, hE⟩ : ∃ E, seekE x y = E := ⟨_, rfl⟩
  rw [hP, hE]
  unfold seekP at hP
  unfold seekE at hE
  rw [hm1, hm2, hu] at hP hE
  have C1 := hid (fun W (h : Rd W A x.v) => RPfMay_is x A c D d m1 W h h1 h2 hm1)
  have C2 := hid (fun W (h : Rd W A2 y.v) => RPfMay_is y A2 c2 D2 d2 m2 W h h3 h4 hm2)
  have U := fun (k1 : x.v.length ≤ 1000000) (k2 : y.v.length ≤ 1000000) W (h : Rd W A x.v) (h' : Rd W A2 y.v) => RUnlike_is F G x y A A2 c c2 D D2 d d2 u W h h1 h2 k1 h' h3 h4 k2 hu
  have V := fun (k1 : mayF x = true) (k2 : mayF y = true) (hne : (firstI (inP x) (inP y)).1 ≠ (firstI (inP x) (inP y)).2) W (h : Rd W A x.v) (hs : Row F W D x.ss) (h' : Rd W A2 y.v) (hs2 : Row G W D2 y.ss) => RFirst_any x y A A2 c c2 D D2 d d2 F G _ _ W k1 k2 rfl rfl hne h h1 h2 hs h' h3 h4 hs2
  have fl : Hid (∀ W, Below w.heap.size w W → Rd W A x.v ∧ Row F W D x.ss ∧ Rd W A2 y.v ∧ Row G W D2 y.ss) := hid fun W hb => ⟨hr.bel hb, hs.bel hb, hr2.bel hb, hs2.bel hb⟩
  have sm1 := fun h => Nat.le_trans (may_small (x := x) h).1 (show 1000 ≤ 1000000 by omega)
  have sm2 := fun h => Nat.le_trans (may_small (x := y) h).1 (show 1000 ≤ 1000000 by omega)
  have cf := fun h k l => (clash_found (a := x) (b := y) h k l).1
  replace W0 := hid W0
  clear hr hr2 hs hs2 B1 B2
  generalize pfC x A c D d = cs1 at *
  generalize pfC y A2 c2 D2 d2 = cs2 at *
  cases m1 with
  | false =>
    clear V U sm1 sm2 cf
    simp only [Bool.false_and, Bool.and_false, Bool.true_and, Bool.and_true, Bool.false_eq_true, ↓reduceIte] at hP hE
    replace hP := hid hP
    replace hE := hid hE
    try simp only [Bool.false_eq_true, ↓reduceIte] at C1
    go_enter Tryz.func9, Tryz.ntmps9
    go_wp2_with (first
      | ((with_reducible refine wpList_load_rng ?_ 30 (.tmp 2) rfl w.heap.size 0 rfl cs1 _ ?_ hup rfl j1.out ?_); rfl; exact p0.out)
      | ((with_reducible refine wpList_load_rng ?_ 30 (.tmp 3) rfl (w.heap.size + 1) 0 rfl cs2 _ ?_ hup rfl j2.out ?_); rfl; exact q0.out))
    refine (C1.out _ (fl.out _ W0.out).1).mono ?_
    rintro e w1 ⟨rfl, hb1⟩
    have W1 := hid (W0.out.trans (hb1.mono W0.out.size))
    have p1 := hid (rangeBel2 hb1 p0.out)
    have q1 := hid (rangeBel2 hb1 q0.out)
    clear hb1
    go_wp2
    replace hP := hP.out
    replace hE := hE.out
    go_ret3
    refine ⟨none, 0, none, 0, ?_, ?_, ?_, W1.out⟩
    · rw [← hP, ← hE]; rfl
    · rw [← hP]; exact ⟨Rd.nil _ _, Nat.le_refl _, Nat.zero_le _⟩
    · rw [← hP]; exact ⟨Rd.nil _ _, Nat.le_refl _, Nat.zero_le _⟩
  | true =>
    try simp only [↓reduceIte] at C1
    cases m2 with
    | false =>
      clear V U sm1 sm2 cf
      simp only [Bool.false_and, Bool.and_false, Bool.true_and, Bool.and_true, Bool.false_eq_true, ↓reduceIte] at hP hE
      replace hP := hid hP
      replace hE := hid hE
      try simp only [Bool.false_eq_true, ↓reduceIte] at C2
      go_enter Tryz.func9, Tryz.ntmps9
      go_wp2_with (first
        | ((with_reducible refine wpList_load_rng ?_ 30 (.tmp 2) rfl w.heap.size 0 rfl cs1 _ ?_ hup rfl j1.out ?_); rfl; exact p0.out)
        | ((with_reducible refine wpList_load_rng ?_ 30 (.tmp 3) rfl (w.heap.size + 1) 0 rfl cs2 _ ?_ hup rfl j2.out ?_); rfl; exact q0.out))
      refine (C1.out _ (fl.out _ W0.out).1).mono ?_
      rintro e w1 ⟨rfl, hb1⟩
      have W1 := hid (W0.out.trans (hb1.mono W0.out.size))
      have p1 := hid (rangeBel2 hb1 p0.out)
      have q1 := hid (rangeBel2 hb1 q0.out)
      clear hb1
      go_wp2_with (first
        | ((with_reducible refine wpList_load_rng ?_ 30 (.tmp 2) rfl w.heap.size 0 rfl cs1 _ ?_ hup rfl j1.out ?_); rfl; exact p1.out)
        | ((with_reducible refine wpList_load_rng ?_ 30 (.tmp 3) rfl (w.heap.size + 1) 0 rfl cs2 _ ?_ hup rfl j2.out ?_); rfl; exact q1.out))
      refine (C2.out _ (fl.out _ W1.out).2.2.1).mono ?_
      rintro e w2 ⟨rfl, hb2⟩
      have W2 := hid (W1.out.trans (hb2.mono W1.out.size))
      have p2 := hid (rangeBel2 hb2 p1.out)
      have q2 := hid (rangeBel2 hb2 q1.out)
      clear hb2
      go_wp2
      replace hP := hP.out
      replace hE := hE.out
      go_ret3
      refine ⟨none, 0, none, 0, ?_, ?_, ?_, W2.out⟩
      · rw [← hP, ← hE]; rfl
      · rw [← hP]; exact ⟨Rd.nil _ _, Nat.le_refl _, Nat.zero_le _⟩
      · rw [← hP]; exact ⟨Rd.nil _ _, Nat.le_refl _, Nat.zero_le _⟩
    | true =>
      try simp only [↓reduceIte] at C2
      replace U := hid (U (sm1 hm1) (sm2 hm2))
      cases u with
      | false =>
        clear V sm1 sm2 cf
        simp only [Bool.false_and, Bool.and_false, Bool.true_and, Bool.and_true, Bool.false_eq_true, ↓reduceIte] at hP hE
        replace hP := hid hP
        replace hE := hid hE
        go_enter Tryz.func9, Tryz.ntmps9
        go_wp2_with (first
          | ((with_reducible refine wpList_load_rng ?_ 30 (.tmp 2) rfl w.heap.size 0 rfl cs1 _ ?_ hup rfl j1.out ?_); rfl; exact p0.out)
          | ((with_reducible refine wpList_load_rng ?_ 30 (.tmp 3) rfl (w.heap.size + 1) 0 rfl cs2 _ ?_ hup rfl j2.out ?_); rfl; exact q0.out))
        refine (C1.out _ (fl.out _ W0.out).1).mono ?_
        rintro e w1 ⟨rfl, hb1⟩
        have W1 := hid (W0.out.trans (hb1.mono W0.out.size))
        have p1 := hid (rangeBel2 hb1 p0.out)
        have q1 := hid (rangeBel2 hb1 q0.out)
        clear hb1
        go_wp2_with (first
          | ((with_reducible refine wpList_load_rng ?_ 30 (.tmp 2) rfl w.heap.size 0 rfl cs1 _ ?_ hup rfl j1.out ?_); rfl; exact p1.out)
          | ((with_reducible refine wpList_load_rng ?_ 30 (.tmp 3) rfl (w.heap.size + 1) 0 rfl cs2 _ ?_ hup rfl j2.out ?_); rfl; exact q1.out))
        refine (C2.out _ (fl.out _ W1.out).2.2.1).mono ?_
        rintro e w2 ⟨rfl, hb2⟩
        have W2 := hid (W1.out.trans (hb2.mono W1.out.size))
        have p2 := hid (rangeBel2 hb2 p1.out)
        have q2 := hid (rangeBel2 hb2 q1.out)
        clear hb2
        go_wp2_with (first
          | ((with_reducible refine wpList_load_rng ?_ 30 (.tmp 2) rfl w.heap.size 0 rfl cs1 _ ?_ hup rfl j1.out ?_); rfl; exact p2.out)
          | ((with_reducible refine wpList_load_rng ?_ 30 (.tmp 3) rfl (w.heap.size + 1) 0 rfl cs2 _ ?_ hup rfl j2.out ?_); rfl; exact q2.out))
        refine (U.out _ (fl.out _ W2.out).1 (fl.out _ W2.out).2.2.1).mono ?_
        rintro e w3 ⟨rfl, hb3⟩
        have W3 := hid (W2.out.trans (hb3.mono W2.out.size))
        have p3 := hid (rangeBel2 hb3 p2.out)
        have q3 := hid (rangeBel2 hb3 q2.out)
        clear hb3
        go_wp2
        replace hP := hP.out
        replace hE := hE.out
        go_ret3
        refine ⟨none, 0, none, 0, ?_, ?_, ?_, W3.out⟩
        · rw [← hP, ← hE]; rfl
        · rw [← hP]; exact ⟨Rd.nil _ _, Nat.le_refl _, Nat.zero_le _⟩
        · rw [← hP]; exact ⟨Rd.nil _ _, Nat.le_refl _, Nat.zero_le _⟩
      | true =>
        simp only [Bool.false_and, Bool.and_false, Bool.true_and, Bool.and_true, Bool.false_eq_true, ↓reduceIte] at hP hE
        rw [hP] at V cf
        replace V := hid (V hm1 hm2 (cf hm1 hm2 hu))
        clear sm1 sm2 cf hP
        replace hE := hid hE
        go_enter Tryz.func9, Tryz.ntmps9
        go_wp2_with (first
          | ((with_reducible refine wpList_load_rng ?_ 30 (.tmp 2) rfl w.heap.size 0 rfl cs1 _ ?_ hup rfl j1.out ?_); rfl; exact p0.out)
          | ((with_reducible refine wpList_load_rng ?_ 30 (.tmp 3) rfl (w.heap.size + 1) 0 rfl cs2 _ ?_ hup rfl j2.out ?_); rfl; exact q0.out))
        refine (C1.out _ (fl.out _ W0.out).1).mono ?_
        rintro e w1 ⟨rfl, hb1⟩
        have W1 := hid (W0.out.trans (hb1.mono W0.out.size))
        have p1 := hid (rangeBel2 hb1 p0.out)
        have q1 := hid (rangeBel2 hb1 q0.out)
        clear hb1
        go_wp2_with (first
          | ((with_reducible refine wpList_load_rng ?_ 30 (.tmp 2) rfl w.heap.size 0 rfl cs1 _ ?_ hup rfl j1.out ?_); rfl; exact p1.out)
          | ((with_reducible refine wpList_load_rng ?_ 30 (.tmp 3) rfl (w.heap.size + 1) 0 rfl cs2 _ ?_ hup rfl j2.out ?_); rfl; exact q1.out))
        refine (C2.out _ (fl.out _ W1.out).2.2.1).mono ?_
        rintro e w2 ⟨rfl, hb2⟩
        have W2 := hid (W1.out.trans (hb2.mono W1.out.size))
        have p2 := hid (rangeBel2 hb2 p1.out)
        have q2 := hid (rangeBel2 hb2 q1.out)
        clear hb2
        go_wp2_with (first
          | ((with_reducible refine wpList_load_rng ?_ 30 (.tmp 2) rfl w.heap.size 0 rfl cs1 _ ?_ hup rfl j1.out ?_); rfl; exact p2.out)
          | ((with_reducible refine wpList_load_rng ?_ 30 (.tmp 3) rfl (w.heap.size + 1) 0 rfl cs2 _ ?_ hup rfl j2.out ?_); rfl; exact q2.out))
        refine (U.out _ (fl.out _ W2.out).1 (fl.out _ W2.out).2.2.1).mono ?_
        rintro e w3 ⟨rfl, hb3⟩
        have W3 := hid (W2.out.trans (hb3.mono W2.out.size))
        have p3 := hid (rangeBel2 hb3 p2.out)
        have q3 := hid (rangeBel2 hb3 q2.out)
        clear hb3
        go_wp2_with (first
          | ((with_reducible refine wpList_load_rng ?_ 30 (.tmp 2) rfl w.heap.size 0 rfl cs1 _ ?_ hup rfl j1.out ?_); rfl; exact p3.out)
          | ((with_reducible refine wpList_load_rng ?_ 30 (.tmp 3) rfl (w.heap.size + 1) 0 rfl cs2 _ ?_ hup rfl j2.out ?_); rfl; exact q3.out))
        refine (V.out _ (fl.out _ W3.out).1 (fl.out _ W3.out).2.1 (fl.out _ W3.out).2.2.1 (fl.out _ W3.out).2.2.2).mono ?_
        rintro e w4 ⟨A5, c5, A6, c6, rfl, t5, t6, hb4⟩
        replace t5 := hid t5
        replace t6 := hid t6
        have W4 := hid (W3.out.trans (hb4.mono W3.out.size))
        have p4 := hid (rangeBel2 hb4 p3.out)
        have q4 := hid (rangeBel2 hb4 q3.out)
        clear hb4
        go_wp2
        go_ret3
        exact ⟨A5, c5, A6, c6, by rw [← hE.out]; rfl, t5.out, t6.out, W4.out⟩
end Go.Proofs.YtapnhdpgogfceaaGreatDoor

/- (Ref09d)
  The document's answer for layer 9: Of.
-/
namespace Go.Proofs.YtapnhdpgogfceaaGreatDoor
open Go.RowKit
set_option linter.unusedVariables false
set_option linter.unusedSimpArgs false
set_option maxRecDepth 100000

theorem boxesTPr (w : World) (A : Option Addr) (n c : Nat) (root : Int) (y : Pf) (A2 : Option Addr) (c2 : Nat) (D2 : Option Addr) (d2 : Nat) (t u : TypeId) :
    BoxT ((w.alloc (.cells #[.slice A n c, .int .i64 root] t)).alloc (.cells (pfC y A2 c2 D2 d2).toArray u)) w.heap.size A n c root ∧ BoxP ((w.alloc (.cells #[.slice A n c, .int .i64 root] t)).alloc (.cells (pfC y A2 c2 D2 d2).toArray u)) (w.heap.size + 1) y A2 c2 D2 d2 ∧
    Below w.heap.size w ((w.alloc (.cells #[.slice A n c, .int .i64 root] t)).alloc (.cells (pfC y A2 c2 D2 d2).toArray u)) := by
  have h2 := BoxP.new (w.alloc (.cells #[.slice A n c, .int .i64 root] t)) y A2 c2 D2 d2 u
  rw [World.size_alloc] at h2
  exact ⟨(BoxT.new w A n c root t).bel (ext_alloc _ _), h2, ext_trans (ext_alloc _ _) (ext_alloc _ _)⟩
set_option maxHeartbeats 4000000 in
theorem ROf9_any (F G : Nat → Prop) (A : Option Addr) (c : Nat) (ns : List Nd) (root : Int) (y : Pf) (A2 : Option Addr) (c2 : Nat) (D2 : Option Addr) (d2 : Nat) (w : World) (hr : Row F w A ns) (hc : ns.length ≤ 1000) (hv : ∀ x ∈ ns, x.v.length ≤ 1000000) (hr2 : Rd w A2 y.v) (h3 : y.v.length ≤ c2) (h4 : c2 ≤ maxLen) (hs2 : Row G w D2 y.ss) :
    Calls Tryz.prog 11 #[.agg #[.slice A ns.length c, .int .i64 root], .agg (pfC y A2 c2 D2 d2).toArray] w fun e w' => ∃ A5 c5 A6 c6, e = .returned (.tuple #[.slice A5 (ofP ⟨ns, root⟩ y).1.length c5, .slice A6 (ofP ⟨ns, root⟩ y).2.length c6, .int .i64 (ofE ⟨ns, root⟩ y)]) ∧ Txt w' A5 c5 (ofP ⟨ns, root⟩ y).1 ∧ Txt w' A6 c6 (ofP ⟨ns, root⟩ y).2 ∧ Below w.heap.size w w' := by
  obtain ⟨B1, B2, W0⟩ := boxesTPr w A ns.length c root y A2 c2 D2 d2 24 30
  have hup := Tryz.underlying30
  have hut := Tryz.underlying24
  have hu := Tryz.underlying26
  have T0 := hid B1.all
  have Q0 := hid B2.all
  have K0 := hid B2.key
  have jT := hid (show (Tryz.prog.info? 24).map (·.size) = some ([Value.slice A ns.length c, .int .i64 root]).length from sizeTr)
  have jP := hid (sizePfC y A2 c2 D2 d2)
  have jK := hid (sizeDg y.k)
  obtain ⟨m1, hm1⟩ : ∃ m, mayT ⟨ns, root⟩ = m := ⟨_, rfl⟩
  obtain ⟨m2, hm2⟩ : ∃ m, mayF y = m := ⟨_, rfl⟩
  obtain ⟨r0, hr0⟩ : ∃ r0, rootT ⟨ns, root⟩ = r0 := ⟨_, rfl⟩
  obtain ⟨fb, hfb⟩ : ∃ fb, decide (rootV y = r0) = fb := ⟨_, rfl⟩
  obtain ⟨o, ho⟩ : ∃ o, makeF ⟨ns, root⟩ y.k = o := ⟨_, rfl⟩
  obtain ⟨u, hu'⟩ : ∃ u, unlikeF o y = u := ⟨_, rfl⟩
  obtain ⟨P, hP⟩ : ∃ P, ofP ⟨ns, root⟩ y = P := ⟨_, rfl⟩
  obtain ⟨E, hE⟩ : ∃ E, ofE ⟨ns, root⟩ y = E := ⟨_, rfl⟩
  rw [hP, hE]
  unfold ofP at hP
  unfold ofE at hE
  rw [hm1, hm2, hr0, hfb, ho, hu'] at hP hE
  have C1 := hid (fun W (h : Row F W A ns) => RMayT_is F A c ns root m1 W h (by omega) hm1)
  have C2 := hid (fun W (h : Rd W A2 y.v) => RPfMay_is y A2 c2 D2 d2 m2 W h h3 h4 hm2)
  have CF := fun (hb : fitsF y r0 = fb) W (h : Rd W A2 y.v) (hs : Row G W D2 y.ss) => RVfFits_is y A2 c2 D2 d2 r0 G fb W hb h h3 h4 hs
  have CM := fun (k : mayT ⟨ns, root⟩ = true) W (h : Row F W A ns) => RPfOf_any F A c ns root y.k W h hc hv k
  rw [ho] at CM
  have CA := fun (k : mayT ⟨ns, root⟩ = true) W (h : Row F W A ns) => RAllT_any F A c ns root W h (by omega) k
  have CO : mayT ⟨ns, root⟩ = true → ∀ (G : Nat → Prop) (B : Option Addr) (d : Nat) (W : World), Row G W B (allT ⟨ns, root⟩) → Calls Tryz.prog 28 #[.slice B (allT ⟨ns, root⟩).length d, .int .i64 (0 : Int)] W fun e w' => e = .returned (.agg ((r0.1.map bv)).toArray) ∧ Below W.heap.size W w' := fun k G B d W hW => by
    obtain ⟨-, m1, m2, ho, m3⟩ := mayT_iff.1 k
    have := ROfFor ns ho hc 256 root (Nat.le_refl _) ⟨z0, m3, zr_z0⟩ G B d W hW 0 rfl
    rw [← hr0]
    exact this
  have fit : m2 = true → fitsF y r0 = fb := fun k2 => by
    unfold fitsF
    rw [hm2, k2, Bool.true_and, ← hfb]
  have om : m1 = true → mayF o = true := fun k1 => by rw [← ho]; exact makeF_may y.k (hm1.trans k1)
  have U := fun (k1 : o.v.length ≤ 1000000) (k2 : y.v.length ≤ 1000000) A c D d W (h : Rd W A o.v) (h1 : o.v.length ≤ c) (h2 : c ≤ maxLen) (h' : Rd W A2 y.v) => RUnlike_is (fun _ => True) (fun _ => True) o y A A2 c c2 D D2 d d2 u W h h1 h2 k1 h' h3 h4 k2 hu'
  have V := fun (k1 : mayF o = true) (k2 : mayF y = true) (hne : (firstI (inP o) (inP y)).1 ≠ (firstI (inP o) (inP y)).2) F A c D d W (h : Rd W A o.v) (h1 : o.v.length ≤ c) (h2 : c ≤ maxLen) (hs : Row F W D o.ss) (h' : Rd W A2 y.v) (hs2 : Row G W D2 y.ss) => RFirst_any o y A A2 c c2 D D2 d d2 F G _ _ W k1 k2 rfl rfl hne h h1 h2 hs h' h3 h4 hs2
  have fl : Hid (∀ W, Below w.heap.size w W → Row F W A ns ∧ Rd W A2 y.v ∧ Row G W D2 y.ss) := hid fun W hb => ⟨hr.bel hb, hr2.bel hb, hs2.bel hb⟩
  have sm := fun (x : Pf) h => Nat.le_trans (may_small (x := x) h).1 (show 1000 ≤ 1000000 by omega)
  have cf := fun h k l => (clash_found (a := o) (b := y) h k l).1
  have jN := fun A c D d => hid (sizePfC o A c D d)
  have jN2 := fun A c D d => hid (sizePfS o A c D d)
  have jN3 := fun A c D d => hid (show zPfC.size = (pfC o A c D d).toArray.size from Eq.trans (show zPfC.size = 67 from rfl) (by rw [List.size_toArray, len_pf]))
  have jN1 := fun A c D d => hid (one_pf o A c D d)
  replace W0 := hid W0
  clear hr hr2 hs2 B1 B2 hr0 hfb ho hv
  generalize pfC y A2 c2 D2 d2 = cs2 at *
  generalize y.k.1.map bv = dk at *
  generalize r0.1.map bv = dS at *
  generalize allT ⟨ns, root⟩ = L at *
  obtain ⟨csT, hcsT⟩ : ∃ cs, [Value.slice A ns.length c, .int .i64 root] = cs := ⟨_, rfl⟩
  have hcsA : #[Value.slice A ns.length c, .int .i64 root] = csT.toArray := by rw [← hcsT]
  rw [hcsA] at W0 T0 Q0 K0 C1 CM CA ⊢
  rw [hcsT] at T0 jT
  clear hcsA hcsT
  generalize pfC o = fN at *
  cases m1 with
  | false =>
    clear CF CM CA CO U V fit om sm cf jN jN2 jN3 jN1
    simp only [Bool.false_and, Bool.and_false, Bool.true_and, Bool.and_true, Bool.false_eq_true, ↓reduceIte] at hP hE
    replace hP := hid hP
    replace hE := hid hE
    go_enter Tryz.func11, Tryz.ntmps11
    go_wp2_with (first
      | ((with_reducible refine wpList_load_rng ?_ 24 (.tmp 2) rfl w.heap.size 0 rfl csT _ ?_ hut rfl jT.out ?_); rfl; exact T0.out))
    refine (C1.out _ (fl.out _ W0.out).1).mono ?_
    rintro e w1 ⟨rfl, hb1⟩
    have W1 := hid (W0.out.trans (hb1.mono W0.out.size))
    have T1 := hid (rangeBel2 hb1 T0.out)
    have Q1 := hid (rangeBel2 hb1 Q0.out)
    have K1 := hid (rangeBel2 hb1 K0.out)
    clear hb1
    go_wp2
    replace hP := hP.out
    replace hE := hE.out
    go_ret3
    refine ⟨none, 0, none, 0, ?_, ?_, ?_, W1.out⟩
    · rw [← hP, ← hE]; rfl
    · rw [← hP]; exact ⟨Rd.nil _ _, Nat.le_refl _, Nat.zero_le _⟩
    · rw [← hP]; exact ⟨Rd.nil _ _, Nat.le_refl _, Nat.zero_le _⟩
  | true =>
    replace CM := hid (CM hm1)
    replace CA := hid (CA hm1)
    replace CO := hid (CO hm1)
    replace om := om rfl
    cases m2 with
    | false =>
      clear CF CM CA CO U V fit om sm cf jN jN2 jN3 jN1
      simp only [Bool.false_and, Bool.and_false, Bool.true_and, Bool.and_true, Bool.false_eq_true, ↓reduceIte] at hP hE
      replace hP := hid hP
      replace hE := hid hE
      go_enter Tryz.func11, Tryz.ntmps11
      go_wp2_with (first
        | ((with_reducible refine wpList_load_rng ?_ 24 (.tmp 2) rfl w.heap.size 0 rfl csT _ ?_ hut rfl jT.out ?_); rfl; exact T0.out))
      refine (C1.out _ (fl.out _ W0.out).1).mono ?_
      rintro e w1 ⟨rfl, hb1⟩
      have W1 := hid (W0.out.trans (hb1.mono W0.out.size))
      have T1 := hid (rangeBel2 hb1 T0.out)
      have Q1 := hid (rangeBel2 hb1 Q0.out)
      have K1 := hid (rangeBel2 hb1 K0.out)
      clear hb1
      go_wp2_with (first
        | ((with_reducible refine wpList_load_rng ?_ 30 (.tmp 3) rfl (w.heap.size + 1) 0 rfl cs2 _ ?_ hup rfl jP.out ?_); rfl; exact Q1.out))
      refine (C2.out _ (fl.out _ W1.out).2.1).mono ?_
      rintro e w2 ⟨rfl, hb2⟩
      have W2 := hid (W1.out.trans (hb2.mono W1.out.size))
      have T2 := hid (rangeBel2 hb2 T1.out)
      have Q2 := hid (rangeBel2 hb2 Q1.out)
      have K2 := hid (rangeBel2 hb2 K1.out)
      clear hb2
      go_wp2
      replace hP := hP.out
      replace hE := hE.out
      go_ret3
      refine ⟨none, 0, none, 0, ?_, ?_, ?_, W2.out⟩
      · rw [← hP, ← hE]; rfl
      · rw [← hP]; exact ⟨Rd.nil _ _, Nat.le_refl _, Nat.zero_le _⟩
      · rw [← hP]; exact ⟨Rd.nil _ _, Nat.le_refl _, Nat.zero_le _⟩
    | true =>
      replace CF := hid (CF (fit rfl))
      replace U := hid (U (sm o om) (sm y hm2))
      cases fb with
      | false =>
        clear V om sm cf
        simp only [Bool.false_and, Bool.and_false, Bool.true_and, Bool.and_true, Bool.false_eq_true, ↓reduceIte] at hP hE
        replace hP := hid hP
        replace hE := hid hE
        go_enter Tryz.func11, Tryz.ntmps11
        go_wp2_with (first
          | ((with_reducible refine wpList_load_rng ?_ 24 (.tmp 2) rfl w.heap.size 0 rfl csT _ ?_ hut rfl jT.out ?_); rfl; exact T0.out))
        refine (C1.out _ (fl.out _ W0.out).1).mono ?_
        rintro e w1 ⟨rfl, hb1⟩
        have W1 := hid (W0.out.trans (hb1.mono W0.out.size))
        have T1 := hid (rangeBel2 hb1 T0.out)
        have Q1 := hid (rangeBel2 hb1 Q0.out)
        have K1 := hid (rangeBel2 hb1 K0.out)
        clear hb1
        go_wp2_with (first
          | ((with_reducible refine wpList_load_rng ?_ 30 (.tmp 3) rfl (w.heap.size + 1) 0 rfl cs2 _ ?_ hup rfl jP.out ?_); rfl; exact Q1.out))
        refine (C2.out _ (fl.out _ W1.out).2.1).mono ?_
        rintro e w2 ⟨rfl, hb2⟩
        have W2 := hid (W1.out.trans (hb2.mono W1.out.size))
        have T2 := hid (rangeBel2 hb2 T1.out)
        have Q2 := hid (rangeBel2 hb2 Q1.out)
        have K2 := hid (rangeBel2 hb2 K1.out)
        clear hb2
        go_wp2_with (first
          | ((with_reducible refine wpList_load_rng ?_ 24 (.tmp 2) rfl w.heap.size 0 rfl csT _ ?_ hut rfl jT.out ?_); rfl; exact T2.out)
          | ((with_reducible refine wpList_load_rng ?_ 26 (.tmp 19) rfl (w.heap.size + 1) 0 rfl dk _ ?_ hu rfl jK.out ?_); rfl; exact K2.out))
        refine (CM.out _ (fl.out _ W2.out).1).mono ?_
        rintro e w3 ⟨A3, c3, D3, d3, rfl, ⟨o3, o3a, o3b, s3⟩, hb3⟩
        replace o3 := hid o3.rd
        replace s3 := hid s3
        have W3 := hid (W2.out.trans (hb3.mono W2.out.size))
        have T3 := hid (rangeBel2 hb3 T2.out)
        have Q3 := hid (rangeBel2 hb3 Q2.out)
        clear hb3
        have e3 := hid (heap_alloc_new w3 (.cells zPfC 30))
        replace jN := jN A3 c3 D3 d3
        replace jN2 := jN2 A3 c3 D3 d3
        replace jN3 := jN3 A3 c3 D3 d3
        replace jN1 := jN1 A3 c3 D3 d3
        replace U := hid (U.out A3 c3 D3 d3)
        generalize fN A3 c3 D3 d3 = csN at *
        go_wp2_with (first
          | (with_reducible refine wpList_alloc_row rfl 30 rfl zPfC zInfoPf ?_)
          | ((with_reducible refine wpList_store_row rfl 30 (.tmp 7) (.tmp 21) rfl _ _ rfl rfl 30 zPfC ?_ ?_ ?_ ?_ ?_); exact e3.out; exact jN2.out; exact jN3.out; exact jN1.out; intro w4 hg4 hb4 hs4; have X4 := hid (xnewP rfl hb4); have W4 := hid (W3.out.trans (X4.out.mono W3.out.size)); have T4 := hid (rangeBel2 X4.out T3.out); have Q4 := hid (rangeBel2 X4.out Q3.out); have N4 := hid (rangeOf hg4); have o4 := hid (o3.out.bel X4.out); have s4 := hid (s3.out.bel X4.out); clear hg4 hb4 hs4))
        refine wp_region_noPanic ?_
        refine wp_region_held_drew (S := fun w' => Below w4.heap.size w4 w') (by kernel_rfl) ?_ (fun hHeld => ?_)
        · exact bel_drew w4
        refine' wpAnyH_take (i := 0) (oi := _) (v := _) rfl (by kernel_rfl) (by kernel_rfl) (by kernel_rfl) (fun _ _ _ h => h) (yieldsIf_load_mid (by rfl) _ _ rfl _ _ rfl _ _ (fun _ h => rangeBel2 h Q4.out) hup rfl jP.out) (by assumption) ?_
        try simp only [Act.put, sQa, sQb, sQc, gQa, gQb, gQc]
        refine' wpAnyH_take (i := 1) (oi := _) (v := _) rfl (by kernel_rfl) (by kernel_rfl) (by kernel_rfl) (fun _ _ _ h => h) (yieldsIf_load_mid (by rfl) _ _ rfl _ _ rfl _ _ (fun _ h => rangeBel2 h T4.out) hut rfl jT.out) (by assumption) ?_
        try simp only [Act.put, sQa, sQb, sQc, gQa, gQb, gQc]
        refine wpAnyH_ready (rs := [2]) (by kernel_rfl) (by simp) ?_
        refine AllReadyH.cons (o := _) rfl (fun K hK => ?_) AllReadyH.nil
        go_simp
        refine (CA.out _ (fl.out _ (W4.out.trans (hHeld.mono W4.out.size))).1).mono ?_
        rintro e w5 ⟨A5, c5, rfl, ho5, hB⟩
        go_wp2_with fail
        refine hK.out _ _ ?_ (fun hHeld => ?_)
        · exact hHeld.trans (hB.mono hHeld.size)
        clear hK K
        try simp only [Act.put, sQa, sQb, sQc, gQa, gQb, gQc]
        refine wpAnyH_ready (rs := [3]) (by kernel_rfl) (by simp) ?_
        refine AllReadyH.cons (o := _) rfl (fun K hK => ?_) AllReadyH.nil
        go_simp
        refine (CO.out _ _ _ _ ho5.row).mono ?_
        rintro e w6 ⟨rfl, hB⟩
        go_wp2_with fail
        refine hK.out _ _ ?_ (fun hHeld => ?_)
        · exact hHeld.trans (hB.mono hHeld.size)
        clear hK K
        try simp only [Act.put, sQa, sQb, sQc, gQa, gQb, gQc]
        refine wpAnyH_ready (rs := [4]) (by kernel_rfl) (by simp) ?_
        refine AllReadyH.cons (o := _) rfl (fun K hK => ?_) AllReadyH.nil
        go_simp
        refine (CF.out _ (fl.out _ (W4.out.trans (hHeld.mono W4.out.size))).2.1 (fl.out _ (W4.out.trans (hHeld.mono W4.out.size))).2.2).mono ?_
        rintro e w7 ⟨rfl, hB⟩
        go_wp2_with fail
        refine hK.out _ _ ?_ (fun hHeld => ?_)
        · exact hHeld.trans (hB.mono hHeld.size)
        clear hK K
        try simp only [Act.put, sQa, sQb, sQc, gQa, gQb, gQc]
        refine' wpAnyH_take (i := 5) (oi := _) (v := ?_) rfl (by kernel_rfl) (by kernel_rfl) (by kernel_rfl) (fun _ _ _ h => h) (Or.inl ⟨by rfl, ?_⟩) (by assumption) ?_
        rotate_left
        · intro W hSw
          go_simp
          first | done | (with_reducible rfl)
        try simp only [Act.put, sQa, sQb, sQc, gQa, gQb, gQc]
        refine' wpAnyH_take (i := 6) (oi := _) (v := ?_) rfl (by kernel_rfl) (by kernel_rfl) (by kernel_rfl) (fun _ _ _ h => h) (Or.inl ⟨by rfl, ?_⟩) (by assumption) ?_
        rotate_left
        · intro W hSw
          go_simp
          first | done | (with_reducible rfl)
        try simp only [Act.put, sQa, sQb, sQc, gQa, gQb, gQc]
        refine' wpAnyH_take (i := 7) (oi := _) (v := _) rfl (by kernel_rfl) (by kernel_rfl) (by kernel_rfl) (fun _ _ _ h => h) (Or.inr ⟨by rfl, rfl⟩) (by assumption) ?_
        try simp only [Act.put, sQa, sQb, sQc, gQa, gQb, gQc]
        refine' wpAnyH_take (i := 8) (oi := _) (v := _) rfl (by kernel_rfl) (by kernel_rfl) (by kernel_rfl) (fun _ _ _ h => h) (Or.inr ⟨by rfl, rfl⟩) (by assumption) ?_
        try simp only [Act.put, sQa, sQb, sQc, gQa, gQb, gQc]
        refine' wpAnyH_take (i := 9) (oi := _) (v := _) rfl (by kernel_rfl) (by kernel_rfl) (by kernel_rfl) (fun _ _ _ h => h) (Or.inr ⟨by rfl, rfl⟩) (by assumption) ?_
        try simp only [Act.put, sQa, sQb, sQc, gQa, gQb, gQc]
        refine' wpAnyH_take (i := 10) (oi := _) (v := _) rfl (by kernel_rfl) (by kernel_rfl) (by kernel_rfl) (fun _ _ _ h => h) (Or.inr ⟨by rfl, rfl⟩) (by assumption) ?_
        try simp only [Act.put, sQa, sQb, sQc, gQa, gQb, gQc]
        refine' wpAnyH_take (i := 11) (oi := _) (v := ?_) rfl (by kernel_rfl) (by kernel_rfl) (by kernel_rfl) (fun _ _ _ h => h) (Or.inl ⟨by rfl, ?_⟩) (by assumption) ?_
        rotate_left
        · intro W hSw
          go_simp
          first | done | (with_reducible rfl)
        try simp only [Act.put, sQa, sQb, sQc, gQa, gQb, gQc]
        refine wpAnyH_done (by kernel_rfl) ?_ _
        refine NoPanic.normal ?_
        have W9 := hid (W4.out.trans (hHeld.mono W4.out.size))
        go_wp2
        replace hP := hP.out
        replace hE := hE.out
        go_ret3
        refine ⟨none, 0, none, 0, ?_, ?_, ?_, W9.out⟩
        · rw [← hP, ← hE]; rfl
        · rw [← hP]; exact ⟨Rd.nil _ _, Nat.le_refl _, Nat.zero_le _⟩
        · rw [← hP]; exact ⟨Rd.nil _ _, Nat.le_refl _, Nat.zero_le _⟩
      | true =>
        cases u with
        | false =>
          clear V om sm cf
          simp only [Bool.false_and, Bool.and_false, Bool.true_and, Bool.and_true, Bool.false_eq_true, ↓reduceIte] at hP hE
          replace hP := hid hP
          replace hE := hid hE
          go_enter Tryz.func11, Tryz.ntmps11
          go_wp2_with (first
            | ((with_reducible refine wpList_load_rng ?_ 24 (.tmp 2) rfl w.heap.size 0 rfl csT _ ?_ hut rfl jT.out ?_); rfl; exact T0.out))
          refine (C1.out _ (fl.out _ W0.out).1).mono ?_
          rintro e w1 ⟨rfl, hb1⟩
          have W1 := hid (W0.out.trans (hb1.mono W0.out.size))
          have T1 := hid (rangeBel2 hb1 T0.out)
          have Q1 := hid (rangeBel2 hb1 Q0.out)
          have K1 := hid (rangeBel2 hb1 K0.out)
          clear hb1
          go_wp2_with (first
            | ((with_reducible refine wpList_load_rng ?_ 30 (.tmp 3) rfl (w.heap.size + 1) 0 rfl cs2 _ ?_ hup rfl jP.out ?_); rfl; exact Q1.out))
          refine (C2.out _ (fl.out _ W1.out).2.1).mono ?_
          rintro e w2 ⟨rfl, hb2⟩
          have W2 := hid (W1.out.trans (hb2.mono W1.out.size))
          have T2 := hid (rangeBel2 hb2 T1.out)
          have Q2 := hid (rangeBel2 hb2 Q1.out)
          have K2 := hid (rangeBel2 hb2 K1.out)
          clear hb2
          go_wp2_with (first
            | ((with_reducible refine wpList_load_rng ?_ 24 (.tmp 2) rfl w.heap.size 0 rfl csT _ ?_ hut rfl jT.out ?_); rfl; exact T2.out)
            | ((with_reducible refine wpList_load_rng ?_ 26 (.tmp 19) rfl (w.heap.size + 1) 0 rfl dk _ ?_ hu rfl jK.out ?_); rfl; exact K2.out))
          refine (CM.out _ (fl.out _ W2.out).1).mono ?_
          rintro e w3 ⟨A3, c3, D3, d3, rfl, ⟨o3, o3a, o3b, s3⟩, hb3⟩
          replace o3 := hid o3.rd
          replace s3 := hid s3
          have W3 := hid (W2.out.trans (hb3.mono W2.out.size))
          have T3 := hid (rangeBel2 hb3 T2.out)
          have Q3 := hid (rangeBel2 hb3 Q2.out)
          clear hb3
          have e3 := hid (heap_alloc_new w3 (.cells zPfC 30))
          replace jN := jN A3 c3 D3 d3
          replace jN2 := jN2 A3 c3 D3 d3
          replace jN3 := jN3 A3 c3 D3 d3
          replace jN1 := jN1 A3 c3 D3 d3
          replace U := hid (U.out A3 c3 D3 d3)
          generalize fN A3 c3 D3 d3 = csN at *
          go_wp2_with (first
            | (with_reducible refine wpList_alloc_row rfl 30 rfl zPfC zInfoPf ?_)
            | ((with_reducible refine wpList_store_row rfl 30 (.tmp 7) (.tmp 21) rfl _ _ rfl rfl 30 zPfC ?_ ?_ ?_ ?_ ?_); exact e3.out; exact jN2.out; exact jN3.out; exact jN1.out; intro w4 hg4 hb4 hs4; have X4 := hid (xnewP rfl hb4); have W4 := hid (W3.out.trans (X4.out.mono W3.out.size)); have T4 := hid (rangeBel2 X4.out T3.out); have Q4 := hid (rangeBel2 X4.out Q3.out); have N4 := hid (rangeOf hg4); have o4 := hid (o3.out.bel X4.out); have s4 := hid (s3.out.bel X4.out); clear hg4 hb4 hs4))
          refine wp_region_noPanic ?_
          refine wp_region_held_drew (S := fun w' => Below w4.heap.size w4 w') (by kernel_rfl) ?_ (fun hHeld => ?_)
          · exact bel_drew w4
          refine' wpAnyH_take (i := 0) (oi := _) (v := _) rfl (by kernel_rfl) (by kernel_rfl) (by kernel_rfl) (fun _ _ _ h => h) (yieldsIf_load_mid (by rfl) _ _ rfl _ _ rfl _ _ (fun _ h => rangeBel2 h Q4.out) hup rfl jP.out) (by assumption) ?_
          try simp only [Act.put, sQa, sQb, sQc, gQa, gQb, gQc]
          refine' wpAnyH_take (i := 1) (oi := _) (v := _) rfl (by kernel_rfl) (by kernel_rfl) (by kernel_rfl) (fun _ _ _ h => h) (yieldsIf_load_mid (by rfl) _ _ rfl _ _ rfl _ _ (fun _ h => rangeBel2 h T4.out) hut rfl jT.out) (by assumption) ?_
          try simp only [Act.put, sQa, sQb, sQc, gQa, gQb, gQc]
          refine wpAnyH_ready (rs := [2]) (by kernel_rfl) (by simp) ?_
          refine AllReadyH.cons (o := _) rfl (fun K hK => ?_) AllReadyH.nil
          go_simp
          refine (CA.out _ (fl.out _ (W4.out.trans (hHeld.mono W4.out.size))).1).mono ?_
          rintro e w5 ⟨A5, c5, rfl, ho5, hB⟩
          go_wp2_with fail
          refine hK.out _ _ ?_ (fun hHeld => ?_)
          · exact hHeld.trans (hB.mono hHeld.size)
          clear hK K
          try simp only [Act.put, sQa, sQb, sQc, gQa, gQb, gQc]
          refine wpAnyH_ready (rs := [3]) (by kernel_rfl) (by simp) ?_
          refine AllReadyH.cons (o := _) rfl (fun K hK => ?_) AllReadyH.nil
          go_simp
          refine (CO.out _ _ _ _ ho5.row).mono ?_
          rintro e w6 ⟨rfl, hB⟩
          go_wp2_with fail
          refine hK.out _ _ ?_ (fun hHeld => ?_)
          · exact hHeld.trans (hB.mono hHeld.size)
          clear hK K
          try simp only [Act.put, sQa, sQb, sQc, gQa, gQb, gQc]
          refine wpAnyH_ready (rs := [4]) (by kernel_rfl) (by simp) ?_
          refine AllReadyH.cons (o := _) rfl (fun K hK => ?_) AllReadyH.nil
          go_simp
          refine (CF.out _ (fl.out _ (W4.out.trans (hHeld.mono W4.out.size))).2.1 (fl.out _ (W4.out.trans (hHeld.mono W4.out.size))).2.2).mono ?_
          rintro e w7 ⟨rfl, hB⟩
          go_wp2_with fail
          refine hK.out _ _ ?_ (fun hHeld => ?_)
          · exact hHeld.trans (hB.mono hHeld.size)
          clear hK K
          try simp only [Act.put, sQa, sQb, sQc, gQa, gQb, gQc]
          refine' wpAnyH_take (i := 5) (oi := _) (v := ?_) rfl (by kernel_rfl) (by kernel_rfl) (by kernel_rfl) (fun _ _ _ h => h) (Or.inl ⟨by rfl, ?_⟩) (by assumption) ?_
          rotate_left
          · intro W hSw
            go_simp
            first | done | (with_reducible rfl)
          try simp only [Act.put, sQa, sQb, sQc, gQa, gQb, gQc]
          refine' wpAnyH_take (i := 6) (oi := _) (v := ?_) rfl (by kernel_rfl) (by kernel_rfl) (by kernel_rfl) (fun _ _ _ h => h) (Or.inl ⟨by rfl, ?_⟩) (by assumption) ?_
          rotate_left
          · intro W hSw
            go_simp
            first | done | (with_reducible rfl)
          try simp only [Act.put, sQa, sQb, sQc, gQa, gQb, gQc]
          refine' wpAnyH_take (i := 7) (oi := _) (v := _) rfl (by kernel_rfl) (by kernel_rfl) (by kernel_rfl) (fun _ _ _ h => h) (yieldsIf_load_mid (by rfl) _ _ rfl _ _ rfl _ _ (fun _ h => rangeBel2 h N4.out) hup rfl jN.out) (by assumption) ?_
          try simp only [Act.put, sQa, sQb, sQc, gQa, gQb, gQc]
          refine' wpAnyH_take (i := 8) (oi := _) (v := _) rfl (by kernel_rfl) (by kernel_rfl) (by kernel_rfl) (fun _ _ _ h => h) (yieldsIf_load_mid (by rfl) _ _ rfl _ _ rfl _ _ (fun _ h => rangeBel2 h Q4.out) hup rfl jP.out) (by assumption) ?_
          try simp only [Act.put, sQa, sQb, sQc, gQa, gQb, gQc]
          refine wpAnyH_ready (rs := [9]) (by kernel_rfl) (by simp) ?_
          refine AllReadyH.cons (o := _) rfl (fun K hK => ?_) AllReadyH.nil
          go_simp
          refine (U.out _ (o4.out.bel hHeld) o3a o3b (fl.out _ (W4.out.trans (hHeld.mono W4.out.size))).2.1).mono ?_
          rintro e w8 ⟨rfl, hB⟩
          go_wp2_with fail
          refine hK.out _ _ ?_ (fun hHeld => ?_)
          · exact hHeld.trans (hB.mono hHeld.size)
          clear hK K
          try simp only [Act.put, sQa, sQb, sQc, gQa, gQb, gQc]
          refine' wpAnyH_take (i := 10) (oi := _) (v := ?_) rfl (by kernel_rfl) (by kernel_rfl) (by kernel_rfl) (fun _ _ _ h => h) (Or.inl ⟨by rfl, ?_⟩) (by assumption) ?_
          rotate_left
          · intro W hSw
            go_simp
            first | done | (with_reducible rfl)
          try simp only [Act.put, sQa, sQb, sQc, gQa, gQb, gQc]
          refine' wpAnyH_take (i := 11) (oi := _) (v := ?_) rfl (by kernel_rfl) (by kernel_rfl) (by kernel_rfl) (fun _ _ _ h => h) (Or.inl ⟨by rfl, ?_⟩) (by assumption) ?_
          rotate_left
          · intro W hSw
            go_simp
            first | done | (with_reducible rfl)
          try simp only [Act.put, sQa, sQb, sQc, gQa, gQb, gQc]
          refine wpAnyH_done (by kernel_rfl) ?_ _
          refine NoPanic.normal ?_
          have W9 := hid (W4.out.trans (hHeld.mono W4.out.size))
          go_wp2
          replace hP := hP.out
          replace hE := hE.out
          go_ret3
          refine ⟨none, 0, none, 0, ?_, ?_, ?_, W9.out⟩
          · rw [← hP, ← hE]; rfl
          · rw [← hP]; exact ⟨Rd.nil _ _, Nat.le_refl _, Nat.zero_le _⟩
          · rw [← hP]; exact ⟨Rd.nil _ _, Nat.le_refl _, Nat.zero_le _⟩
        | true =>
          simp only [Bool.false_and, Bool.and_false, Bool.true_and, Bool.and_true, Bool.false_eq_true, ↓reduceIte] at hP hE
          rw [hP] at V cf
          replace V := hid (V om hm2 (cf om hm2 hu'))
          clear om sm cf hP
          replace hE := hid hE
          go_enter Tryz.func11, Tryz.ntmps11
          go_wp2_with (first
            | ((with_reducible refine wpList_load_rng ?_ 24 (.tmp 2) rfl w.heap.size 0 rfl csT _ ?_ hut rfl jT.out ?_); rfl; exact T0.out))
          refine (C1.out _ (fl.out _ W0.out).1).mono ?_
          rintro e w1 ⟨rfl, hb1⟩
          have W1 := hid (W0.out.trans (hb1.mono W0.out.size))
          have T1 := hid (rangeBel2 hb1 T0.out)
          have Q1 := hid (rangeBel2 hb1 Q0.out)
          have K1 := hid (rangeBel2 hb1 K0.out)
          clear hb1
          go_wp2_with (first
            | ((with_reducible refine wpList_load_rng ?_ 30 (.tmp 3) rfl (w.heap.size + 1) 0 rfl cs2 _ ?_ hup rfl jP.out ?_); rfl; exact Q1.out))
          refine (C2.out _ (fl.out _ W1.out).2.1).mono ?_
          rintro e w2 ⟨rfl, hb2⟩
          have W2 := hid (W1.out.trans (hb2.mono W1.out.size))
          have T2 := hid (rangeBel2 hb2 T1.out)
          have Q2 := hid (rangeBel2 hb2 Q1.out)
          have K2 := hid (rangeBel2 hb2 K1.out)
          clear hb2
          go_wp2_with (first
            | ((with_reducible refine wpList_load_rng ?_ 24 (.tmp 2) rfl w.heap.size 0 rfl csT _ ?_ hut rfl jT.out ?_); rfl; exact T2.out)
            | ((with_reducible refine wpList_load_rng ?_ 26 (.tmp 19) rfl (w.heap.size + 1) 0 rfl dk _ ?_ hu rfl jK.out ?_); rfl; exact K2.out))
          refine (CM.out _ (fl.out _ W2.out).1).mono ?_
          rintro e w3 ⟨A3, c3, D3, d3, rfl, ⟨o3, o3a, o3b, s3⟩, hb3⟩
          replace o3 := hid o3.rd
          replace s3 := hid s3
          have W3 := hid (W2.out.trans (hb3.mono W2.out.size))
          have T3 := hid (rangeBel2 hb3 T2.out)
          have Q3 := hid (rangeBel2 hb3 Q2.out)
          clear hb3
          have e3 := hid (heap_alloc_new w3 (.cells zPfC 30))
          replace jN := jN A3 c3 D3 d3
          replace jN2 := jN2 A3 c3 D3 d3
          replace jN3 := jN3 A3 c3 D3 d3
          replace jN1 := jN1 A3 c3 D3 d3
          replace U := hid (U.out A3 c3 D3 d3)
          replace V := hid (fun F => V.out F A3 c3 D3 d3)
          generalize fN A3 c3 D3 d3 = csN at *
          go_wp2_with (first
            | (with_reducible refine wpList_alloc_row rfl 30 rfl zPfC zInfoPf ?_)
            | ((with_reducible refine wpList_store_row rfl 30 (.tmp 7) (.tmp 21) rfl _ _ rfl rfl 30 zPfC ?_ ?_ ?_ ?_ ?_); exact e3.out; exact jN2.out; exact jN3.out; exact jN1.out; intro w4 hg4 hb4 hs4; have X4 := hid (xnewP rfl hb4); have W4 := hid (W3.out.trans (X4.out.mono W3.out.size)); have T4 := hid (rangeBel2 X4.out T3.out); have Q4 := hid (rangeBel2 X4.out Q3.out); have N4 := hid (rangeOf hg4); have o4 := hid (o3.out.bel X4.out); have s4 := hid (s3.out.bel X4.out); clear hg4 hb4 hs4))
          refine wp_region_noPanic ?_
          refine wp_region_held_drew (S := fun w' => Below w4.heap.size w4 w') (by kernel_rfl) ?_ (fun hHeld => ?_)
          · exact bel_drew w4
          refine' wpAnyH_take (i := 0) (oi := _) (v := _) rfl (by kernel_rfl) (by kernel_rfl) (by kernel_rfl) (fun _ _ _ h => h) (yieldsIf_load_mid (by rfl) _ _ rfl _ _ rfl _ _ (fun _ h => rangeBel2 h Q4.out) hup rfl jP.out) (by assumption) ?_
          try simp only [Act.put, sQa, sQb, sQc, gQa, gQb, gQc]
          refine' wpAnyH_take (i := 1) (oi := _) (v := _) rfl (by kernel_rfl) (by kernel_rfl) (by kernel_rfl) (fun _ _ _ h => h) (yieldsIf_load_mid (by rfl) _ _ rfl _ _ rfl _ _ (fun _ h => rangeBel2 h T4.out) hut rfl jT.out) (by assumption) ?_
          try simp only [Act.put, sQa, sQb, sQc, gQa, gQb, gQc]
          refine wpAnyH_ready (rs := [2]) (by kernel_rfl) (by simp) ?_
          refine AllReadyH.cons (o := _) rfl (fun K hK => ?_) AllReadyH.nil
          go_simp
          refine (CA.out _ (fl.out _ (W4.out.trans (hHeld.mono W4.out.size))).1).mono ?_
          rintro e w5 ⟨A5, c5, rfl, ho5, hB⟩
          go_wp2_with fail
          refine hK.out _ _ ?_ (fun hHeld => ?_)
          · exact hHeld.trans (hB.mono hHeld.size)
          clear hK K
          try simp only [Act.put, sQa, sQb, sQc, gQa, gQb, gQc]
          refine wpAnyH_ready (rs := [3]) (by kernel_rfl) (by simp) ?_
          refine AllReadyH.cons (o := _) rfl (fun K hK => ?_) AllReadyH.nil
          go_simp
          refine (CO.out _ _ _ _ ho5.row).mono ?_
          rintro e w6 ⟨rfl, hB⟩
          go_wp2_with fail
          refine hK.out _ _ ?_ (fun hHeld => ?_)
          · exact hHeld.trans (hB.mono hHeld.size)
          clear hK K
          try simp only [Act.put, sQa, sQb, sQc, gQa, gQb, gQc]
          refine wpAnyH_ready (rs := [4]) (by kernel_rfl) (by simp) ?_
          refine AllReadyH.cons (o := _) rfl (fun K hK => ?_) AllReadyH.nil
          go_simp
          refine (CF.out _ (fl.out _ (W4.out.trans (hHeld.mono W4.out.size))).2.1 (fl.out _ (W4.out.trans (hHeld.mono W4.out.size))).2.2).mono ?_
          rintro e w7 ⟨rfl, hB⟩
          go_wp2_with fail
          refine hK.out _ _ ?_ (fun hHeld => ?_)
          · exact hHeld.trans (hB.mono hHeld.size)
          clear hK K
          try simp only [Act.put, sQa, sQb, sQc, gQa, gQb, gQc]
          refine' wpAnyH_take (i := 5) (oi := _) (v := ?_) rfl (by kernel_rfl) (by kernel_rfl) (by kernel_rfl) (fun _ _ _ h => h) (Or.inl ⟨by rfl, ?_⟩) (by assumption) ?_
          rotate_left
          · intro W hSw
            go_simp
            first | done | (with_reducible rfl)
          try simp only [Act.put, sQa, sQb, sQc, gQa, gQb, gQc]
          refine' wpAnyH_take (i := 6) (oi := _) (v := ?_) rfl (by kernel_rfl) (by kernel_rfl) (by kernel_rfl) (fun _ _ _ h => h) (Or.inl ⟨by rfl, ?_⟩) (by assumption) ?_
          rotate_left
          · intro W hSw
            go_simp
            first | done | (with_reducible rfl)
          try simp only [Act.put, sQa, sQb, sQc, gQa, gQb, gQc]
          refine' wpAnyH_take (i := 7) (oi := _) (v := _) rfl (by kernel_rfl) (by kernel_rfl) (by kernel_rfl) (fun _ _ _ h => h) (yieldsIf_load_mid (by rfl) _ _ rfl _ _ rfl _ _ (fun _ h => rangeBel2 h N4.out) hup rfl jN.out) (by assumption) ?_
          try simp only [Act.put, sQa, sQb, sQc, gQa, gQb, gQc]
          refine' wpAnyH_take (i := 8) (oi := _) (v := _) rfl (by kernel_rfl) (by kernel_rfl) (by kernel_rfl) (fun _ _ _ h => h) (yieldsIf_load_mid (by rfl) _ _ rfl _ _ rfl _ _ (fun _ h => rangeBel2 h Q4.out) hup rfl jP.out) (by assumption) ?_
          try simp only [Act.put, sQa, sQb, sQc, gQa, gQb, gQc]
          refine wpAnyH_ready (rs := [9]) (by kernel_rfl) (by simp) ?_
          refine AllReadyH.cons (o := _) rfl (fun K hK => ?_) AllReadyH.nil
          go_simp
          refine (U.out _ (o4.out.bel hHeld) o3a o3b (fl.out _ (W4.out.trans (hHeld.mono W4.out.size))).2.1).mono ?_
          rintro e w8 ⟨rfl, hB⟩
          go_wp2_with fail
          refine hK.out _ _ ?_ (fun hHeld => ?_)
          · exact hHeld.trans (hB.mono hHeld.size)
          clear hK K
          try simp only [Act.put, sQa, sQb, sQc, gQa, gQb, gQc]
          refine' wpAnyH_take (i := 10) (oi := _) (v := ?_) rfl (by kernel_rfl) (by kernel_rfl) (by kernel_rfl) (fun _ _ _ h => h) (Or.inl ⟨by rfl, ?_⟩) (by assumption) ?_
          rotate_left
          · intro W hSw
            go_simp
            first | done | (with_reducible rfl)
          try simp only [Act.put, sQa, sQb, sQc, gQa, gQb, gQc]
          refine' wpAnyH_take (i := 11) (oi := _) (v := ?_) rfl (by kernel_rfl) (by kernel_rfl) (by kernel_rfl) (fun _ _ _ h => h) (Or.inl ⟨by rfl, ?_⟩) (by assumption) ?_
          rotate_left
          · intro W hSw
            go_simp
            first | done | (with_reducible rfl)
          try simp only [Act.put, sQa, sQb, sQc, gQa, gQb, gQc]
          refine wpAnyH_done (by kernel_rfl) ?_ _
          refine NoPanic.normal ?_
          have W9 := hid (W4.out.trans (hHeld.mono W4.out.size))
          have Q9 := hid (rangeBel2 hHeld Q4.out)
          have N9 := hid (rangeBel2 hHeld N4.out)
          have o9 := hid (o4.out.bel hHeld)
          have s9 := hid (s4.out.bel hHeld)
          go_wp2_with (first
            | ((with_reducible refine wpList_load_rng ?_ 30 (.tmp 7) rfl w3.heap.size 0 rfl csN _ ?_ hup rfl jN.out ?_); rfl; exact N9.out)
            | ((with_reducible refine wpList_load_rng ?_ 30 (.tmp 3) rfl (w.heap.size + 1) 0 rfl cs2 _ ?_ hup rfl jP.out ?_); rfl; exact Q9.out))
          refine (V.out _ _ o9.out o3a o3b s9.out (fl.out _ W9.out).2.1 (fl.out _ W9.out).2.2).mono ?_
          rintro e w10 ⟨A7, c7, A8, c8, rfl, t7, t8, hb10⟩
          replace t7 := hid t7
          replace t8 := hid t8
          have W10 := hid (W9.out.trans (hb10.mono W9.out.size))
          clear hb10
          go_wp2
          go_ret3
          exact ⟨A7, c7, A8, c8, by rw [← hE.out]; rfl, t7.out, t8.out, W10.out⟩
end Go.Proofs.YtapnhdpgogfceaaGreatDoor
