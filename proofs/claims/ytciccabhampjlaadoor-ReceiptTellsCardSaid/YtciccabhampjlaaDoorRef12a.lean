/-
  The document's answers of layer 12: Deposit, May, Check, Of, Bytes.
-/
import Derived.Test.YtciccabhampjlaaDoorRc
import Derived.Test.YtciccabhampjlaaDoorRef10a
import Derived.Test.YtciccabhampjlaaDoorAppG
namespace Go.Proofs.YtciccabhampjlaaDoor
open Go.RowKit
set_option linter.unusedVariables false
set_option linter.unusedSimpArgs false
set_option maxRecDepth 100000

set_option maxHeartbeats 2000000 in
theorem RDeposit_any (x : Dp) (hx : x.ok) (w : World) : Calls Tryd.prog 14 #[.agg (dpC x).toArray] w fun e w' => e = .returned (.agg ((idD x).1.map bv).toArray) ∧ Below w.heap.size w w' := by
  have hsl := run_all32P
  have hu := Tryd.underlying23
  have B0 := BoxD.new w x 35
  have b1 := ext_alloc (w.alloc (.cells (dpC x).toArray 35)) (.cells z32 23)
  have h1 := heap_alloc_new (w.alloc (.cells (dpC x).toArray 35)) (.cells z32 23)
  rw [World.size_alloc] at h1
  have W0 := hid ((ext_alloc w (.cells (dpC x).toArray 35)).trans (b1.mono (ext_alloc w _).size))
  have hs0 : ((w.alloc (.cells (dpC x).toArray 35)).alloc (.cells z32 23)).heap.size = w.heap.size + 2 := by rw [World.size_alloc, World.size_alloc]
  have d1 := hid (fun W => Digits_any x.n 8 W (by decide) (by decide) hx.1)
  have d2 := hid (fun W => Digits_any x.a 8 W (by decide) (by decide) hx.2)
  have B1 := B0.bel b1
  have r1 := rd_keyP B1.t
  have c1 := B1.n
  have c2 := B1.a
  have lt := x.t.2
  have m1 := be_length 8 x.n
  have m2 := be_length 8 x.a
  have hB : bodyD x = be 8 x.n ++ x.t.1 ++ be 8 x.a := rfl
  obtain ⟨z2, hz2⟩ : ∃ z, be 8 x.n ++ x.t.1 = z := ⟨_, rfl⟩
  have l2 : z2.length = 40 := by rw [← hz2, List.length_append, m1, lt]
  rw [hz2] at hB
  obtain ⟨z3, hz3⟩ : ∃ z, z2 ++ be 8 x.a = z := ⟨_, rfl⟩
  have l3 : z3.length = 48 := by rw [← hz3, List.length_append, l2, m2]
  rw [hz3] at hB
  have hO := fun A c W (h : Rd W A z3) (h1 : z3.length ≤ c) (h2 : c ≤ maxLen) => ROneD_any 9 A c z3 W h ⟨h1, h2⟩ (by rw [l3]; decide)
  have hD : sha256 (tagB 9 [z3]) = (idD x).1 := by rw [← hB]; rfl
  rw [hD, l3] at hO
  replace hO := hid hO
  have z1 : (((idD x).1.map bv).toArray).size = 32 := by simp [(idD x).2]
  have o1 := bvs_all (idD x).1
  clear hB hD B0 B1 b1
  generalize (idD x).1.map bv = dk at *
  generalize dpC x = cx at *
  generalize be 8 x.n = y1 at *
  generalize be 8 x.a = y2 at *
  generalize x.t.1 = zt at *
  generalize x.n = vn at *
  generalize x.a = va at *
  replace hz2 := hid hz2
  replace hz3 := hid hz3
  go_enter Tryd.func14, Tryd.ntmps14
  have fl := hid (fun W (hb : Below (w.heap.size + 2) ((w.alloc (.cells cx.toArray 35)).alloc (.cells z32 23)) W) => (show Rd W (some ⟨w.heap.size, 1, none⟩) zt ∧ W.cell? ⟨w.heap.size, 33, none⟩ = some (.int .u64 (va : Int)) ∧ W.heap[w.heap.size + 1]? = some (.cells z32 23 (0, 0)) ∧ w.heap.size + 2 ≤ W.heap.size from ⟨r1.below hb (Nat.le_of_eq hs0), (hb.cell (by show w.heap.size < _; omega)).trans c2, (hb.block _ (by omega)).trans h1, by have := hb.size; omega⟩))
  have V0 := hid (Below.refl (w.heap.size + 2) ((w.alloc (.cells cx.toArray 35)).alloc (.cells z32 23)))
  clear r1 hs0 c2 h1
  go_wp2_with (first
    | (with_reducible refine wpList_alloc_row rfl 23 rfl z32 info32 ?_))
  refine (d1.out _).mono ?_
  rintro e w1 ⟨A1, k1, rfl, o1', hb⟩
  have V1 := hid (V0.out.trans (hb.mono (fl.out _ V0.out).2.2.2))
  have e1 := hid (o1'.base (fl.out _ V0.out).2.2.2)
  have c3 := (fl.out _ V1.out).2.1
  clear hb o1' c1
  go_wp2_with fail
  refine (d2.out _).mono ?_
  rintro e w2 ⟨A2, k2, rfl, o2, hb⟩
  have V2 := hid (V1.out.trans (hb.mono (fl.out _ V1.out).2.2.2))
  have Z1 : Zone A1 w1.heap.size w2.heap.size := fun a ha => .inl (e1.out.blk a ha).2
  have M2 := hid (show Mid A2 w1.heap.size w2.heap.size from o2.mid)
  have zz1 := hid Z1
  replace e1 := hid (e1.out.bel hb)
  have r2 := hid o2.rd
  clear hb o2 c3 Z1
  have sz2 := hid (fl.out _ V2.out).2.2.2
  go_wp2_with (first
    | (at_builtin; refine wpList_appG u8s rfl (.tmp 19) (.tmp 21) rfl (w.heap.size + 2) A1 (some ⟨w.heap.size, 1, none⟩) 8 32 k1 32 y1 zt rfl rfl m1.symm lt.symm e1.out (fl.out _ V2.out).1 (by rw [m1, lt]; decide) sz2.out ?_; intro A3 k3 w3 o3 hb3 hg3 hA3; rw [hz2.out] at o3 ⊢; have V3 := hid (V2.out.trans hb3); have s3 := hid (r2.out.zone M2.out zz1.out hg3); have sz3 := hid (Nat.le_trans sz2.out hg3.size); replace o3 := hid o3; clear hb3 hg3 hA3)
    | (at_builtin; refine wpList_appG u8s rfl (.tmp 23) (.tmp 24) rfl (w.heap.size + 2) A3 A2 40 8 k3 k2 z2 y2 rfl rfl l2.symm m2.symm o3.out s3.out (by rw [l2, m2]; decide) sz3.out ?_; intro A4 k4 w4 o4 hb4 hg4 hA4; rw [hz3.out] at o4 ⊢; have V4 := hid (V3.out.trans hb4); have q1 := o4.cap.1; have q2 := o4.cap.2; have q3 := hid o4.rd; rw [l3] at q1; have sz4 := hid (Nat.le_trans sz3.out hg4.size); clear hb4 hg4 hA4 o4))
  refine (hO.out _ _ _ q3.out q1 q2).mono ?_
  rintro e w5 ⟨rfl, hb⟩
  have V5 := hid (V4.out.trans (hb.mono sz4.out))
  have R5 := hid (fl.out _ V5.out).2.2.1
  clear hb
  go_wp2_with (first
    | ((with_reducible refine wpList_store_row rfl 23 (.tmp 2) (.tmp 26) rfl (w.heap.size + 1) _ rfl rfl 23 z32 ?_ ?_ ?_ ?_ ?_); exact R5.out; (rw [z1]; exact size32); (rw [z1]; exact z32_size); exact o1; intro w6 hg6 hb6 hs6))
  refine bodyPost_ret (v := .agg dk.toArray) ?_ rfl ⟨rfl, ?_⟩
  · exact results_cell_row Tryd.results14 _ _ (w.heap.size + 1) 23 _ (0, 0) _ rfl hg6 hu rfl (by rw [z1]; exact size32)
  · exact (W0.out.trans (V5.out.mono (by omega))).grown hb6 (W0.out.trans (V5.out.mono (by omega))).size (fun g e => by injection e with e; omega)
set_option maxHeartbeats 4000000 in
theorem RRcMay_any (x : Rc) (w : World) : Calls Tryd.prog 24 #[.agg (rcC x).toArray] w fun e w' => e = .returned (.bool (mayR x)) ∧ Below w.heap.size w w' := by
  have B0 := BoxR.new w x 26
  have W0 := hid (ext_alloc w (.cells (rcC x).toArray 26))
  have c0 := B0.k
  have c1 := B0.c
  unfold bv at c0
  obtain ⟨k1, h1⟩ : ∃ b, ((x.k.toNat : Int) == 1) = b := ⟨_, rfl⟩
  obtain ⟨k2, h2⟩ : ∃ b, ((x.k.toNat : Int) == 2) = b := ⟨_, rfl⟩
  obtain ⟨z, hz⟩ : ∃ b, (x.c == 0) = b := ⟨_, rfl⟩
  obtain ⟨o, ho⟩ : ∃ b, (x.c == 151) = b := ⟨_, rfl⟩
  obtain ⟨p, hp⟩ : ∃ b, (x.c == 150) = b := ⟨_, rfl⟩
  have e1 : (x.k = 1) ↔ k1 = true := by rw [← h1, beq_iff_eq, ← UInt8.toNat_inj]; show x.k.toNat = 1 ↔ _; omega
  have e2 : (x.k = 2) ↔ k2 = true := by rw [← h2, beq_iff_eq, ← UInt8.toNat_inj]; show x.k.toNat = 2 ↔ _; omega
  have e3 : (x.c = 0) ↔ z = true := by rw [← hz, beq_iff_eq]
  have e4 : (x.c = 151) ↔ o = true := by rw [← ho, beq_iff_eq]
  have e5 : (x.c = 150) ↔ p = true := by rw [← hp, beq_iff_eq]
  have hM : mayR x = if k1 then (z || o) else (k2 && (z || o || p)) := by
    unfold mayR
    simp only [e1, e2, e3, e4, e5]
    cases k1 <;> cases k2 <;> cases z <;> cases o <;> cases p <;> rfl
  rw [hM]
  clear hM e1 e2 e3 e4 e5 B0
  generalize rcC x = cx at *
  generalize x.k.toNat = vk at *
  generalize x.c = vc at *
  cases k1 <;> cases k2 <;> cases z <;> cases o <;> cases p
  all_goals
    go_enter Tryd.func24, Tryd.ntmps24
    go_wp2
    go_ret
    exact ⟨rfl, W0.out⟩
theorem RRcMay_is (x : Rc) (m : Bool) (hm : mayR x = m) (w : World) : Calls Tryd.prog 24 #[.agg (rcC x).toArray] w fun e w' => e = .returned (.bool m) ∧ Below w.heap.size w w' := hm ▸ RRcMay_any x w
theorem RRcCheck_any (x : Rc) (w : World) : Calls Tryd.prog 15 #[.agg (rcC x).toArray] w fun e w' => e = .returned (.int .i64 (rcE x)) ∧ Below w.heap.size w w' := by
  have hux := Tryd.underlying26
  have B0 := BoxR.new w x 26
  have W0 := hid (ext_alloc w (.cells (rcC x).toArray 26))
  have X0 := hid B0.all
  have jx := hid (sizeRc x)
  obtain ⟨m, hm⟩ : ∃ m, mayR x = m := ⟨_, rfl⟩
  have hM := hid (fun W => RRcMay_is x m hm W)
  have hE : rcE x = if m = true then 0 else 8 := by unfold rcE; rw [hm]
  rw [hE]
  clear B0 hm hE
  generalize rcC x = cx at *
  cases m
  all_goals
    go_enter Tryd.func15, Tryd.ntmps15
    go_wp2_with (first
      | ((with_reducible refine wpList_load_rng rfl 26 (.tmp 1) rfl w.heap.size 0 rfl cx _ ?_ hux rfl jx.out ?_); exact X0.out))
    refine (hM.out _).mono ?_
    rintro e w1 ⟨rfl, hb⟩
    go_wp2
    go_ret
    exact ⟨rfl, W0.out.trans (hb.mono W0.out.size)⟩
end Go.Proofs.YtciccabhampjlaaDoor
