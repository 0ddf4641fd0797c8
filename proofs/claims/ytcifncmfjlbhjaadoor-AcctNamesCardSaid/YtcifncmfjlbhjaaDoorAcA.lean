/-
  Contracts of the landed package acct: isZero, Bytes, Read.
-/
import Derived.Test.YtcifncmfjlbhjaaDoorRef10a
import Derived.Test.YtcifncmfjlbhjaaDoorNumTake
import Derived.Test.YtcifncmfjlbhjaaDoorTagX
import Derived.Test.YtcifncmfjlbhjaaDoorNumEnd
import Derived.Test.YtcifncmfjlbhjaaDoorCatB
import Derived.Test.YtcifncmfjlbhjaaDoorMem
namespace Go.Proofs.YtcifncmfjlbhjaaDoor
open Go.RowKit
set_option linter.unusedVariables false
set_option linter.unusedSimpArgs false
set_option maxRecDepth 100000

theorem PAcZero_is (a : Ac) (ha : a.ok) (b : Bool) (hb : decide (a = ac0) = b) (w : World) :
    Calls Tryd.prog 19 #[.agg (acC a).toArray] w fun e w' => e = .returned (.bool b) ∧ Below w.heap.size w w' := by
  have hu := Tryd.underlying24
  have h0 := heap_alloc_new w (.cells (acC a).toArray 24)
  have b0 := hid (ext_alloc w (.cells (acC a).toArray 24))
  have q0 := hid (rangeOf h0)
  have ia := hid (show (Tryd.prog.info? 24).map (·.size) = some (acC a).length from sizeAc)
  have hb0 := hid built_ac0
  have hE : ∀ W, (Op.equalIn 10000 24 (.agg (acC a).toArray) (.agg (acC ac0).toArray)).run Tryd.prog W = .ok b W := fun W => eqac_is a ac0 ha ac0_ok b hb W
  clear h0 hb
  generalize acC a = ca at *
  generalize (acC ac0).toArray = cz at *
  go_enter Tryd.func19, Tryd.ntmps19
  go_wp2_with (first
    | ((with_reducible refine wpList_load_rng rfl 24 (.tmp 1) rfl w.heap.size 0 rfl ca _ ?_ hu rfl ia.out ?_); exact q0.out)
    | ((with_reducible refine wpList_built rfl 24 _ rfl cz [] ?_ ?_ ?_); exact hb0.out; rfl))
  go_ret
  exact ⟨rfl, b0.out⟩
theorem PAcBytes_any (a : Ac) (ha : a.ok) (w : World) :
    Calls Tryd.prog 15 #[.agg (acC a).toArray] w fun e w' => ∃ A c, e = .returned (.slice A (acB a).length c) ∧ Own 5 w' w.heap.size A c (acB a) ∧ Below w.heap.size w w' := by
  have h0 := heap_alloc_new w (.cells (acC a).toArray 24)
  have b0 := hid (ext_alloc w (.cells (acC a).toArray 24))
  have q0 := hid (rangeOf h0)
  have c0 := q0.out 0 _ rfl
  have c1 := q0.out 1 _ rfl
  obtain ⟨x, hx⟩ : ∃ x, be 8 a.n = x := ⟨_, rfl⟩
  obtain ⟨y, hy⟩ : ∃ y, be 8 a.b = y := ⟨_, rfl⟩
  have p1 : putE a.n 8 = 0 := by unfold putE; rw [if_pos (by decide)]; exact if_pos ha.1
  have p2 : putE a.b 8 = 0 := by unfold putE; rw [if_pos (by decide)]; exact if_pos ha.2
  have d1 := hid (fun W => Put_is a.n _ 8 x 0 W rfl ha.1 (by unfold putB; rw [if_pos p1]; exact hx) p1)
  have d2 := hid (fun W => Put_is a.b _ 8 y 0 W rfl ha.2 (by unfold putB; rw [if_pos p2]; exact hy) p2)
  have l1 : x.length = 8 := by rw [← hx]; exact be_length 8 a.n
  have l2 : y.length = 8 := by rw [← hy]; exact be_length 8 a.b
  have hB : acB a = [x, y].flatten := by unfold acB; rw [hx, hy]; simp
  rw [hB]
  have h16 : [x, y].flatten.length = 16 := by simp [l1, l2]
  have hC := hid (fun A c W (h : Rds W A [x, y]) => concatB_any A c [x, y] W h (by simp) (by rw [h16]; omega))
  generalize [x, y].flatten = z at *
  rw [h16] at hC ⊢
  clear hx hy p1 p2 h0 hB q0 h16
  go_enter Tryd.func15, Tryd.ntmps15
  go_wp2_with fail
  refine (d1.out _).mono ?_
  rintro e w1 ⟨A1, k1, rfl, o1, hb⟩
  have c11 := (hb.cell (World.block_lt_of_cell? _ _ c1)).trans c1
  have W1 := hid (b0.out.trans (hb.mono b0.out.size))
  have v1 := hid o1.cap
  have r1 := hid o1.rd
  clear hb c0 c1 d1 o1
  go_wp2_with fail
  refine (d2.out _).mono ?_
  rintro e w2 ⟨A2, k2, rfl, o2, hb⟩
  have W2 := hid (W1.out.trans (hb.mono W1.out.size))
  have r2 := hid o2.rd
  have v2 := hid o2.cap
  replace r1 := hid (r1.out.bel hb)
  have R := hid (rds_two w2 A1 A2 k1 k2 x y 28 r1.out r2.out v1.out v2.out)
  have W3 := hid (W2.out.trans ((ext_alloc w2 (.cells [Value.slice A1 x.length k1, .slice A2 y.length k2].toArray 28)).mono W2.out.size))
  rw [l1, l2] at R W3
  try rw [l2]
  clear hb o2 c11 d2 v1 v2
  go_wp2_with fail
  refine (hC.out _ _ _ R.out).mono ?_
  rintro e w3 ⟨A3, k3, rfl, o3, hb⟩
  go_wp2
  go_ret
  exact ⟨_, _, rfl, o3.base W3.out.size, W3.out.trans (hb.mono W3.out.size)⟩
end Go.Proofs.YtcifncmfjlbhjaaDoor
