/-
  The document's answers of layer 7: Same.
-/
import Derived.Test.YtapnhdpgogfceaaGreatDoorPfM
import Derived.Test.YtapnhdpgogfceaaGreatDoorRf6
import Derived.Test.YtapnhdpgogfceaaGreatDoorBits
namespace Go.Proofs.YtapnhdpgogfceaaGreatDoor
open Go.RowKit
set_option linter.unusedVariables false
set_option linter.unusedSimpArgs false
set_option maxRecDepth 100000

theorem RSameDg_is (F G : Nat → Prop) (A D : Option Addr) (c d : Nat) (ps qs : List Dg) (b : Bool) (w : World) (hr : Row F w A ps) (hs : Row G w D qs) (hc : ps.length ≤ 9223372036854775807) (hd : qs.length ≤ 9223372036854775807) (hb : decide (ps = qs) = b) :
    Calls Tryz.prog 30 #[.slice A ps.length c, .slice D qs.length d] w fun e w' => e = .returned (.bool b) ∧ Below w.heap.size w w' := by
  subst hb
  exact RSameDg_any F G A D c d ps qs w hr hs hc hd
theorem RSame01_is (A1 A2 : Option Addr) (c1 c2 : Nat) (l1 l2 : List UInt8) (b : Bool) (w : World) (h1 : Rd w A1 l1) (h2 : Rd w A2 l2) (he : decide (l1 = l2) = b) :
    Calls Tryz.prog 12 #[Value.slice A1 l1.length c1, .slice A2 l2.length c2] w fun e w' => e = .returned (.bool b) ∧ w = w' := by
  subst he
  by_cases h : l1 = l2
  · rw [decide_eq_true h]; exact Same_yes A1 A2 _ _ c1 c2 l1 l2 w h1 h2 rfl rfl h
  · rw [decide_eq_false h]; exact Same_no A1 A2 _ _ c1 c2 l1 l2 w h1 h2 rfl rfl h
theorem boxesPPr (w : World) (x y : Pf) (A A2 : Option Addr) (c c2 : Nat) (D D2 : Option Addr) (d d2 : Nat) (t : TypeId) :
    BoxP ((w.alloc (.cells (pfC x A c D d).toArray t)).alloc (.cells (pfC y A2 c2 D2 d2).toArray t)) w.heap.size x A c D d ∧ BoxP ((w.alloc (.cells (pfC x A c D d).toArray t)).alloc (.cells (pfC y A2 c2 D2 d2).toArray t)) (w.heap.size + 1) y A2 c2 D2 d2 ∧
    Below w.heap.size w ((w.alloc (.cells (pfC x A c D d).toArray t)).alloc (.cells (pfC y A2 c2 D2 d2).toArray t)) := by
  have h1 := BoxP.new w x A c D d t
  have h2 := BoxP.new (w.alloc (.cells (pfC x A c D d).toArray t)) y A2 c2 D2 d2 t
  rw [World.size_alloc] at h2
  exact ⟨h1.bel (ext_alloc _ _), h2, ext_trans (ext_alloc _ _) (ext_alloc _ _)⟩
set_option maxHeartbeats 2000000 in
theorem RPfSame_is (F G : Nat → Prop) (x y : Pf) (A A2 : Option Addr) (c c2 : Nat) (D D2 : Option Addr) (d d2 : Nat) (b : Bool) (w : World) (hr : Rd w A x.v) (hr2 : Rd w A2 y.v) (hs : Row F w D x.ss) (hs2 : Row G w D2 y.ss) (hl : x.v.length ≤ 1000000) (hl2 : y.v.length ≤ 1000000) (hn : x.ss.length ≤ 1000000) (hn2 : y.ss.length ≤ 1000000) (hb : decide (x = y) = b) :
    Calls Tryz.prog 14 #[.agg (pfC x A c D d).toArray, .agg (pfC y A2 c2 D2 d2).toArray] w fun e w' => e = .returned (.bool b) ∧ Below w.heap.size w w' := by
  obtain ⟨B1, B2, W0⟩ := boxesPPr w x y A A2 c c2 D D2 d d2 30
  have hu := Tryz.underlying26
  have r1 := hid (hr.bel W0)
  have r2 := hid (hr2.bel W0)
  have s1 := hid (hs.bel W0)
  have s2 := hid (hs2.bel W0)
  have k1 := hid B1.key
  have k2 := hid B2.key
  have e1 := B1.en
  have e2 := B2.en
  have o1 := hid B1.oth
  have o2 := hid B2.oth
  have v1 := B1.val
  have v2 := B2.val
  have d1 := B1.sd
  have d2' := B2.sd
  have i1 := hid (sizeDgT x.k)
  have i2 := hid (sizeDgT y.k)
  have i3 := hid (sizeDgT x.o)
  have i4 := hid (sizeDgT y.o)
  obtain ⟨kb, hkb⟩ : ∃ kb, decide (x.k = y.k) = kb := ⟨_, rfl⟩
  obtain ⟨ob, hob⟩ : ∃ ob, decide (x.o = y.o) = ob := ⟨_, rfl⟩
  obtain ⟨vb, hvb⟩ : ∃ vb, decide (x.v = y.v) = vb := ⟨_, rfl⟩
  obtain ⟨sb, hsb⟩ : ∃ sb, decide (x.ss = y.ss) = sb := ⟨_, rfl⟩
  have hE : ∀ W, (Op.equalIn 10000 26 (.agg (x.k.1.map bv).toArray) (.agg (y.k.1.map bv).toArray)).run Tryz.prog W = .ok kb W := fun W => eqd_is x.k y.k kb hkb W
  have hO : ∀ W, (Op.equalIn 10000 26 (.agg (x.o.1.map bv).toArray) (.agg (y.o.1.map bv).toArray)).run Tryz.prog W = .ok ob W := fun W => eqd_is x.o y.o ob hob W
  have hV := hid (fun W (h1 : Rd W A x.v) (h2 : Rd W A2 y.v) => RSame01_is A A2 c c2 x.v y.v vb W h1 h2 hvb)
  have hS := hid (fun W (h1 : Row F W D x.ss) (h2 : Row G W D2 y.ss) => RSameDg_is F G D D2 d d2 x.ss y.ss sb W h1 h2 (by omega) (by omega) hsb)
  obtain ⟨eb, heb⟩ : ∃ eb, ((x.e.toNat : Int) == (y.e.toNat : Int)) = eb := ⟨_, rfl⟩
  have hB : b = (kb && eb && ob && vb && sb) := by
    rw [← hb, ← hkb, ← hob, ← hvb, ← hsb, ← heb]
    obtain ⟨a1, a2, a3, a4, a5⟩ := x
    obtain ⟨b1, b2, b3, b4, b5⟩ := y
    dsimp only
    by_cases q1 : a1 = b1 <;> by_cases q2 : a2 = b2 <;> by_cases q3 : a3 = b3 <;> by_cases q4 : a4 = b4 <;> by_cases q5 : a5 = b5 <;> simp [q1, q2, q3, q4, q5]
    all_goals exact fun h => q2 (UInt8.toNat_inj.1 (by omega))
  replace e1 : (((w.alloc (.cells (pfC x A c D d).toArray 30)).alloc (.cells (pfC y A2 c2 D2 d2).toArray 30))).cell? ⟨w.heap.size, 32, none⟩ = some (.int .u8 (x.e.toNat : Int)) := e1
  replace e2 : (((w.alloc (.cells (pfC x A c D d).toArray 30)).alloc (.cells (pfC y A2 c2 D2 d2).toArray 30))).cell? ⟨w.heap.size + 1, 32, none⟩ = some (.int .u8 (y.e.toNat : Int)) := e2
  clear hb hkb hob hvb hsb B1 B2 hr hr2 hs hs2 hl hl2 hn hn2
  generalize x.e.toNat = en1 at *
  generalize y.e.toNat = en2 at *
  generalize x.k.1.map bv = dk1 at *
  generalize y.k.1.map bv = dk2 at *
  generalize x.o.1.map bv = do1 at *
  generalize y.o.1.map bv = do2 at *
  generalize x.v.length = n1 at *
  generalize y.v.length = n2 at *
  generalize x.ss.length = m1 at *
  generalize y.ss.length = m2 at *
  generalize pfC x A c D d = cs1 at *
  generalize pfC y A2 c2 D2 d2 = cs2 at *
  replace hB := hid hB
  have fin : ∀ a : Bool, a = (kb && eb && ob && vb && sb) → Ending.returned (.bool a) = .returned (.bool b) := fun a h => by rw [h, hB.out]
  replace fin := hid fin
  clear hB
  go_enter Tryz.func14, Tryz.ntmps14
  cases kb
  · go_wp2_with (first
      | ((with_reducible refine wpList_load_rng ?_ 26 (.tmp 5) rfl w.heap.size 0 rfl dk1 _ ?_ hu rfl i1.out ?_); rfl; exact k1.out)
      | ((with_reducible refine wpList_load_rng ?_ 26 (.tmp 7) rfl (w.heap.size + 1) 0 rfl dk2 _ ?_ hu rfl i2.out ?_); rfl; exact k2.out)
      | ((with_reducible refine wpList_load_rng ?_ 26 (.tmp 18) rfl w.heap.size 33 rfl do1 _ ?_ hu rfl i3.out ?_); rfl; exact o1.out)
      | ((with_reducible refine wpList_load_rng ?_ 26 (.tmp 20) rfl (w.heap.size + 1) 33 rfl do2 _ ?_ hu rfl i4.out ?_); rfl; exact o2.out))
    go_ret
    exact ⟨fin.out _ rfl, W0⟩
  cases eb
  · go_wp2_with (first
      | ((with_reducible refine wpList_load_rng ?_ 26 (.tmp 5) rfl w.heap.size 0 rfl dk1 _ ?_ hu rfl i1.out ?_); rfl; exact k1.out)
      | ((with_reducible refine wpList_load_rng ?_ 26 (.tmp 7) rfl (w.heap.size + 1) 0 rfl dk2 _ ?_ hu rfl i2.out ?_); rfl; exact k2.out)
      | ((with_reducible refine wpList_load_rng ?_ 26 (.tmp 18) rfl w.heap.size 33 rfl do1 _ ?_ hu rfl i3.out ?_); rfl; exact o1.out)
      | ((with_reducible refine wpList_load_rng ?_ 26 (.tmp 20) rfl (w.heap.size + 1) 33 rfl do2 _ ?_ hu rfl i4.out ?_); rfl; exact o2.out))
    go_ret
    exact ⟨fin.out _ rfl, W0⟩
  cases ob
  · go_wp2_with (first
      | ((with_reducible refine wpList_load_rng ?_ 26 (.tmp 5) rfl w.heap.size 0 rfl dk1 _ ?_ hu rfl i1.out ?_); rfl; exact k1.out)
      | ((with_reducible refine wpList_load_rng ?_ 26 (.tmp 7) rfl (w.heap.size + 1) 0 rfl dk2 _ ?_ hu rfl i2.out ?_); rfl; exact k2.out)
      | ((with_reducible refine wpList_load_rng ?_ 26 (.tmp 18) rfl w.heap.size 33 rfl do1 _ ?_ hu rfl i3.out ?_); rfl; exact o1.out)
      | ((with_reducible refine wpList_load_rng ?_ 26 (.tmp 20) rfl (w.heap.size + 1) 33 rfl do2 _ ?_ hu rfl i4.out ?_); rfl; exact o2.out))
    go_ret
    exact ⟨fin.out _ rfl, W0⟩
  go_wp2_with (first
    | ((with_reducible refine wpList_load_rng ?_ 26 (.tmp 5) rfl w.heap.size 0 rfl dk1 _ ?_ hu rfl i1.out ?_); rfl; exact k1.out)
    | ((with_reducible refine wpList_load_rng ?_ 26 (.tmp 7) rfl (w.heap.size + 1) 0 rfl dk2 _ ?_ hu rfl i2.out ?_); rfl; exact k2.out)
    | ((with_reducible refine wpList_load_rng ?_ 26 (.tmp 18) rfl w.heap.size 33 rfl do1 _ ?_ hu rfl i3.out ?_); rfl; exact o1.out)
    | ((with_reducible refine wpList_load_rng ?_ 26 (.tmp 20) rfl (w.heap.size + 1) 33 rfl do2 _ ?_ hu rfl i4.out ?_); rfl; exact o2.out))
  refine (hV.out _ r1.out r2.out).mono ?_
  rintro e w7 ⟨rfl, rfl⟩
  have X1 := hid (Below.refl ((w.alloc (.cells cs1.toArray 30)).alloc (.cells cs2.toArray 30)).heap.size ((w.alloc (.cells cs1.toArray 30)).alloc (.cells cs2.toArray 30)))
  have W1 := hid W0
  cases vb
  · go_wp2
    go_ret
    exact ⟨fin.out _ rfl, W1.out⟩
  have d3 := (X1.out.cell (World.block_lt_of_cell? _ _ d1)).trans d1
  have d4 := (X1.out.cell (World.block_lt_of_cell? _ _ d2')).trans d2'
  have s3 := hid (s1.out.bel X1.out)
  have s4 := hid (s2.out.bel X1.out)
  go_wp2_with fail
  refine (hS.out _ s3.out s4.out).mono ?_
  rintro e w8 ⟨rfl, hb8⟩
  cases sb
  · go_wp2
    go_ret
    exact ⟨fin.out _ rfl, W1.out.trans (hb8.mono W1.out.size)⟩
  · go_wp2
    go_ret
    exact ⟨fin.out _ rfl, W1.out.trans (hb8.mono W1.out.size)⟩
end Go.Proofs.YtapnhdpgogfceaaGreatDoor
