/-
  Contracts of the landed package clash: tellUnlike.
-/
import Derived.Test.YtapnhdpgogfceaaDoorPfC
import Derived.Test.YtapnhdpgogfceaaDoorPfM
import Derived.Test.YtapnhdpgogfceaaDoorRef07b
import Derived.Test.YtapnhdpgogfceaaDoorClP
namespace Go.Proofs.YtapnhdpgogfceaaDoor
open Go.RowKit
set_option linter.unusedVariables false
set_option linter.unusedSimpArgs false
set_option maxRecDepth 100000

set_option maxHeartbeats 2000000 in
theorem ClTell_is (F G : Nat → Prop) (x y : Pf) (A A2 : Option Addr) (c c2 : Nat) (D D2 : Option Addr) (d d2 : Nat) (b : Bool) (w : World) (hr : Rd w A x.v) (h1 : x.v.length ≤ c) (h2 : c ≤ maxLen) (hl : x.v.length ≤ 1000000) (hr2 : Rd w A2 y.v) (h3 : y.v.length ≤ c2) (h4 : c2 ≤ maxLen) (hl2 : y.v.length ≤ 1000000) (hb : unlikeF x y = b) :
    Calls Tryd.prog 22 #[.agg (pfC x A c D d).toArray, .agg (pfC y A2 c2 D2 d2).toArray] w fun e w' => e = .returned (.bool b) ∧ Below w.heap.size w w' := by
  obtain ⟨B1, B2, W0⟩ := boxesPPr w x y A A2 c c2 D D2 d d2 30
  have hu := Tryd.underlying27
  have hup := Tryd.underlying30
  have p1 := hid B1.all
  have p2 := hid B2.all
  have k1 := hid B1.key
  have k2 := hid B2.key
  have i1 := hid (sizeDg x.k)
  have i2 := hid (sizeDg y.k)
  have j1 := hid (sizePfC x A c D d)
  have j2 := hid (sizePfC y A2 c2 D2 d2)
  obtain ⟨kb, hkb⟩ : ∃ kb, decide (x.k = y.k) = kb := ⟨_, rfl⟩
  obtain ⟨t1, ht1⟩ : ∃ t1, toldF x = t1 := ⟨_, rfl⟩
  obtain ⟨t2, ht2⟩ : ∃ t2, toldF y = t2 := ⟨_, rfl⟩
  have T1 := fun W (h : Rd W A x.v) => PfTold_is x A c D d t1 W h h1 h2 hl ht1
  have T2 := fun W (h : Rd W A2 y.v) => PfTold_is y A2 c2 D2 d2 t2 W h h3 h4 hl2 ht2
  have hE : ∀ W, (Op.equalIn 10000 27 (.agg (x.k.1.map bv).toArray) (.agg (y.k.1.map bv).toArray)).run Tryd.prog W = .ok kb W := fun W => eqd_is x.k y.k kb hkb W
  obtain ⟨lx, hlx⟩ : ∃ lx, (if t1 = true then x.v else []) = lx := ⟨_, rfl⟩
  obtain ⟨ly, hly⟩ : ∃ ly, (if t2 = true then y.v else []) = ly := ⟨_, rfl⟩
  obtain ⟨vb, hvb⟩ : ∃ vb, decide (lx = ly) = vb := ⟨_, rfl⟩
  have hB : b = (kb && (t1 != t2 || !vb)) := by
    rw [← hb, ← hkb, ← hvb, ← hlx, ← hly, ← ht1, ← ht2]
    unfold unlikeF tellV
    cases toldF x <;> cases toldF y <;> simp
  simp only [hlx] at T1
  simp only [hly] at T2
  have hfl := hid (fun (W : World) (hb : Below w.heap.size w W) => (show Rd W A x.v ∧ Rd W A2 y.v from ⟨hr.bel hb, hr2.bel hb⟩))
  have hV := hid (fun A c A2 c2 W (h1 : Rd W A lx) (h2 : Rd W A2 ly) => BEqual2_is A A2 c c2 lx ly vb W h1 h2 hvb)
  replace T1 := hid T1
  replace T2 := hid T2
  clear hb hkb ht1 ht2 hlx hly hvb B1 B2 hr hr2
  generalize x.k.1.map bv = dk1 at *
  generalize y.k.1.map bv = dk2 at *
  generalize pfC x A c D d = cs1 at *
  generalize pfC y A2 c2 D2 d2 = cs2 at *
  replace hB := hid hB
  have fin : ∀ a : Bool, a = (kb && (t1 != t2 || !vb)) → Ending.returned (.bool a) = .returned (.bool b) := fun a h => by rw [h, hB.out]
  replace fin := hid fin
  clear hB
  go_enter Tryd.func22, Tryd.ntmps22
  go_wp2_with (first
    | ((with_reducible refine wpList_load_rng rfl 30 (.tmp 2) rfl w.heap.size 0 rfl cs1 _ ?_ hup rfl j1.out ?_); exact p1.out))
  refine (T1.out _ (hfl.out _ W0).1).mono ?_
  rintro e w5 ⟨A5, c5, rfl, o5, hb5⟩
  have W5 := hid (W0.trans (hb5.mono W0.size))
  have p25 := hid (rangeBel2 hb5 p2.out)
  have k15 := hid (rangeBel2 hb5 k1.out)
  have k25 := hid (rangeBel2 hb5 k2.out)
  replace o5 := hid o5.rd
  clear hb5 p1 p2 k1 k2
  go_wp2_with (first
    | ((with_reducible refine wpList_load_rng rfl 30 (.tmp 3) rfl (w.heap.size + 1) 0 rfl cs2 _ ?_ hup rfl j2.out ?_); exact p25.out))
  refine (T2.out _ (hfl.out _ W5.out).2).mono ?_
  rintro e w6 ⟨A6, c6, rfl, o6, hb6⟩
  have W6 := hid (W5.out.trans (hb6.mono W5.out.size))
  have k5 := hid (rangeBel2 hb6 k15.out)
  have k6 := hid (rangeBel2 hb6 k25.out)
  replace o5 := hid (o5.out.bel hb6)
  replace o6 := hid o6.rd
  clear hb6 k15 k25 p25 W5
  cases kb
  · go_wp2_with (first
      | ((with_reducible refine wpList_load_rng ?_ 27 (.tmp 19) rfl w.heap.size 0 rfl dk1 _ ?_ hu rfl i1.out ?_); rfl; exact k5.out)
      | ((with_reducible refine wpList_load_rng ?_ 27 (.tmp 21) rfl (w.heap.size + 1) 0 rfl dk2 _ ?_ hu rfl i2.out ?_); rfl; exact k6.out))
    go_ret
    exact ⟨fin.out _ rfl, W6.out⟩
  · rcases t1 with _ | _ <;> rcases t2 with _ | _
    · go_wp2_with (first
        | ((with_reducible refine wpList_load_rng ?_ 27 (.tmp 19) rfl w.heap.size 0 rfl dk1 _ ?_ hu rfl i1.out ?_); rfl; exact k5.out)
        | ((with_reducible refine wpList_load_rng ?_ 27 (.tmp 21) rfl (w.heap.size + 1) 0 rfl dk2 _ ?_ hu rfl i2.out ?_); rfl; exact k6.out)
        | (go_at_call 41; refine (hV.out _ _ _ _ _ o5.out o6.out).mono ?_; rintro e w7 ⟨rfl, rfl⟩))
      go_ret
      exact ⟨fin.out _ rfl, W6.out⟩
    · go_wp2_with (first
        | ((with_reducible refine wpList_load_rng ?_ 27 (.tmp 19) rfl w.heap.size 0 rfl dk1 _ ?_ hu rfl i1.out ?_); rfl; exact k5.out)
        | ((with_reducible refine wpList_load_rng ?_ 27 (.tmp 21) rfl (w.heap.size + 1) 0 rfl dk2 _ ?_ hu rfl i2.out ?_); rfl; exact k6.out))
      go_ret
      exact ⟨fin.out _ rfl, W6.out⟩
    · go_wp2_with (first
        | ((with_reducible refine wpList_load_rng ?_ 27 (.tmp 19) rfl w.heap.size 0 rfl dk1 _ ?_ hu rfl i1.out ?_); rfl; exact k5.out)
        | ((with_reducible refine wpList_load_rng ?_ 27 (.tmp 21) rfl (w.heap.size + 1) 0 rfl dk2 _ ?_ hu rfl i2.out ?_); rfl; exact k6.out))
      go_ret
      exact ⟨fin.out _ rfl, W6.out⟩
    · go_wp2_with (first
        | ((with_reducible refine wpList_load_rng ?_ 27 (.tmp 19) rfl w.heap.size 0 rfl dk1 _ ?_ hu rfl i1.out ?_); rfl; exact k5.out)
        | ((with_reducible refine wpList_load_rng ?_ 27 (.tmp 21) rfl (w.heap.size + 1) 0 rfl dk2 _ ?_ hu rfl i2.out ?_); rfl; exact k6.out)
        | (go_at_call 41; refine (hV.out _ _ _ _ _ o5.out o6.out).mono ?_; rintro e w7 ⟨rfl, rfl⟩))
      go_ret
      exact ⟨fin.out _ rfl, W6.out⟩
end Go.Proofs.YtapnhdpgogfceaaDoor
