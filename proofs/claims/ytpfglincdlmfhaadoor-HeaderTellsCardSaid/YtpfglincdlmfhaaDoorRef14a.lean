/-
  The document's answers of layer 14: May, Check, Of, Bytes, Name, Hash, Follows.
-/
import Derived.Test.YtpfglincdlmfhaaDoorHd
import Derived.Test.YtpfglincdlmfhaaDoorRef10a
import Derived.Test.YtpfglincdlmfhaaDoorAppG
namespace Go.Proofs.YtpfglincdlmfhaaDoor
open Go.RowKit
set_option linter.unusedVariables false
set_option linter.unusedSimpArgs false
set_option maxRecDepth 100000

set_option maxHeartbeats 2000000 in
theorem RHdMay_any (x : Hd) (w : World) : Calls Tryd.prog 27 #[.agg (hdC x).toArray] w fun e w' => e = .returned (.bool (mayH x)) ∧ Below w.heap.size w w' := by
  have B0 := BoxH.new w x 25
  have W0 := hid (ext_alloc w (.cells (hdC x).toArray 25))
  have c0 := B0.h
  have c1 := B0.m
  have hM := mayH_iff (x := x)
  obtain ⟨m, hm⟩ : ∃ m, mayH x = m := ⟨_, rfl⟩
  rw [hm] at hM ⊢
  clear B0 hm
  generalize hdC x = cx at *
  generalize x.h = h at *
  generalize x.m = n at *
  by_cases h1 : 0 ≤ h
  · by_cases h2 : h ≤ 1073741824
    · by_cases h3 : 0 ≤ n
      · by_cases h4 : n ≤ 256
        · have e : m = true := hM.2 ⟨h1, h2, h3, h4⟩
          subst e
          clear hM
          go_enter Tryd.func27, Tryd.ntmps27
          go_wp2
          go_ret
          exact ⟨rfl, W0.out⟩
        · have e : m = false := by cases m with | false => rfl | true => exact absurd (hM.1 rfl).2.2.2 h4
          subst e
          have q4 : decide (n ≤ 256) = false := decide_eq_false h4
          clear hM
          go_enter Tryd.func27, Tryd.ntmps27
          go_wp2
          go_ret
          exact ⟨rfl, W0.out⟩
      · have e : m = false := by cases m with | false => rfl | true => exact absurd (hM.1 rfl).2.2.1 h3
        subst e
        have q4 : decide (0 ≤ n) = false := decide_eq_false h3
        clear hM
        go_enter Tryd.func27, Tryd.ntmps27
        go_wp2
        go_ret
        exact ⟨rfl, W0.out⟩
    · have e : m = false := by cases m with | false => rfl | true => exact absurd (hM.1 rfl).2.1 h2
      subst e
      have q4 : decide (h ≤ 1073741824) = false := decide_eq_false h2
      clear hM
      go_enter Tryd.func27, Tryd.ntmps27
      go_wp2
      go_ret
      exact ⟨rfl, W0.out⟩
  · have e : m = false := by cases m with | false => rfl | true => exact absurd (hM.1 rfl).1 h1
    subst e
    have q4 : decide (0 ≤ h) = false := decide_eq_false h1
    clear hM
    go_enter Tryd.func27, Tryd.ntmps27
    go_wp2
    go_ret
    exact ⟨rfl, W0.out⟩
theorem RHdMay_is (x : Hd) (m : Bool) (hm : mayH x = m) (w : World) : Calls Tryd.prog 27 #[.agg (hdC x).toArray] w fun e w' => e = .returned (.bool m) ∧ Below w.heap.size w w' := hm ▸ RHdMay_any x w
theorem RHdCheck_any (x : Hd) (w : World) : Calls Tryd.prog 16 #[.agg (hdC x).toArray] w fun e w' => e = .returned (.int .i64 (hdE x)) ∧ Below w.heap.size w w' := by
  have hux := Tryd.underlying25
  have B0 := BoxH.new w x 25
  have W0 := hid (ext_alloc w (.cells (hdC x).toArray 25))
  have X0 := hid B0.all
  have jx := hid (sizeHd x)
  obtain ⟨m, hm⟩ : ∃ m, mayH x = m := ⟨_, rfl⟩
  have hM := hid (fun W => RHdMay_is x m hm W)
  have hE : hdE x = if m = true then 0 else 8 := by unfold hdE; rw [hm]
  rw [hE]
  clear B0 hm hE
  generalize hdC x = cx at *
  cases m
  all_goals
    go_enter Tryd.func16, Tryd.ntmps16
    go_wp2_with (first
      | ((with_reducible refine wpList_load_rng rfl 25 (.tmp 1) rfl w.heap.size 0 rfl cx _ ?_ hux rfl jx.out ?_); exact X0.out))
    refine (hM.out _).mono ?_
    rintro e w1 ⟨rfl, hb⟩
    go_wp2
    go_ret
    exact ⟨rfl, W0.out.trans (hb.mono W0.out.size)⟩
set_option maxHeartbeats 2000000 in
theorem RHdOf_any (x : Hd) (hx : mayH x = true) (w : World) : Calls Tryd.prog 28 #[.agg (hdC x).toArray] w fun e w' => ∃ A c, e = .returned (.slice A 108 c) ∧ Own 5 w' w.heap.size A c (hdB x) ∧ Below w.heap.size w w' := by
  have hsl := run_all32P
  obtain ⟨n1, n2, n3, n4⟩ := mayH_iff.1 hx
  have B0 := BoxH.new w x 25
  have W0 := hid (ext_alloc w (.cells (hdC x).toArray 25))
  have hs0 : (w.alloc (.cells (hdC x).toArray 25)).heap.size = w.heap.size + 1 := World.size_alloc _ _
  have d1 := hid (fun W => Digits_any x.h.toNat 8 W (by decide) (by decide) (by omega))
  have d2 := hid (fun W => Digits_any x.m.toNat 4 W (by decide) (by decide) (by omega))
  have r1 := rd_keyP B0.p
  have r2 := rd_keyP B0.s
  have r3 := rd_keyP B0.r
  have c1 := B0.h
  have c2 := B0.m
  have e1 : x.h = (x.h.toNat : Int) := (Int.toNat_of_nonneg n1).symm
  have e2 : x.m = (x.m.toNat : Int) := (Int.toNat_of_nonneg n3).symm
  rw [e1] at c1
  rw [e2] at c2
  have lp := x.p.2
  have ls := x.s.2
  have lr := x.r.2
  have m1 := be_length 8 x.h.toNat
  have m2 := be_length 4 x.m.toNat
  have hB : hdB x = be 8 x.h.toNat ++ x.p.1 ++ x.s.1 ++ x.r.1 ++ be 4 x.m.toNat := rfl
  rw [hB]
  have u1 : x.h.toNat < 18446744073709551616 := by omega
  have u2 : x.m.toNat < 18446744073709551616 := by omega
  have wr1 : IntKind.u64.wrap (x.h.toNat : Int) = (x.h.toNat : Int) := by rw [IntKind.wrap_u64]; omega
  have wr2 : IntKind.u64.wrap (x.m.toNat : Int) = (x.m.toNat : Int) := by rw [IntKind.wrap_u64]; omega
  obtain ⟨z2, hz2⟩ : ∃ z, be 8 x.h.toNat ++ x.p.1 = z := ⟨_, rfl⟩
  have l2 : z2.length = 40 := by rw [← hz2, List.length_append, lp, m1]
  rw [hz2]
  obtain ⟨z3, hz3⟩ : ∃ z, z2 ++ x.s.1 = z := ⟨_, rfl⟩
  have l3 : z3.length = 72 := by rw [← hz3, List.length_append, l2, ls]
  rw [hz3]
  obtain ⟨z4, hz4⟩ : ∃ z, z3 ++ x.r.1 = z := ⟨_, rfl⟩
  have l4 : z4.length = 104 := by rw [← hz4, List.length_append, l3, lr]
  rw [hz4]
  obtain ⟨z5, hz5⟩ : ∃ z, z4 ++ be 4 x.m.toNat = z := ⟨_, rfl⟩
  have l5 : z5.length = 108 := by rw [← hz5, List.length_append, l4, m2]
  rw [hz5]
  clear hB B0 e1 e2 n1 n2 n3 n4 hx
  generalize hdC x = cx at *
  generalize be 8 x.h.toNat = y1 at *
  generalize be 4 x.m.toNat = y2 at *
  generalize x.h.toNat = vh at *
  generalize x.m.toNat = vm at *
  generalize x.p.1 = zp at *
  generalize x.s.1 = zs at *
  generalize x.r.1 = zr at *
  replace hz2 := hid hz2
  replace hz3 := hid hz3
  replace hz4 := hid hz4
  replace hz5 := hid hz5
  go_enter Tryd.func28, Tryd.ntmps28
  have fl := hid (fun W (hb : Below (w.heap.size + 1) (w.alloc (.cells cx.toArray 25)) W) => (show Rd W (some ⟨w.heap.size, 1, none⟩) zp ∧ Rd W (some ⟨w.heap.size, 33, none⟩) zs ∧ Rd W (some ⟨w.heap.size, 65, none⟩) zr ∧ W.cell? ⟨w.heap.size, 97, none⟩ = some (.int .i64 (vm : Int)) ∧ w.heap.size + 1 ≤ W.heap.size from ⟨r1.below hb (Nat.le_of_eq hs0), r2.below hb (Nat.le_of_eq hs0), r3.below hb (Nat.le_of_eq hs0), (hb.cell (Nat.lt_succ_self _)).trans c2, by have := hb.size; omega⟩))
  have V0 := hid (Below.refl (w.heap.size + 1) (w.alloc (.cells cx.toArray 25)))
  clear r1 r2 r3 hs0 c2
  go_wp2_with fail
  refine (d1.out _).mono ?_
  rintro e w1 ⟨A1, k1, rfl, o1, hb⟩
  have V1 := hid (V0.out.trans (hb.mono (fl.out _ V0.out).2.2.2.2))
  have e1 := hid (o1.base (fl.out _ V0.out).2.2.2.2)
  have c3 := (fl.out _ V1.out).2.2.2.1
  clear hb o1 c1
  go_wp2_with fail
  refine (d2.out _).mono ?_
  rintro e w2 ⟨A2, k2, rfl, o2, hb⟩
  have V2 := hid (V1.out.trans (hb.mono (fl.out _ V1.out).2.2.2.2))
  have Z1 : Zone A1 w1.heap.size w2.heap.size := fun a ha => .inl (e1.out.blk a ha).2
  have M2 := hid (show Mid A2 w1.heap.size w2.heap.size from o2.mid)
  have zz1 := hid Z1
  replace e1 := hid (e1.out.bel hb)
  have r2 := hid o2.rd
  clear hb o2 c3 Z1
  have sz2 := hid (fl.out _ V2.out).2.2.2.2
  go_wp2_with (first
    | (at_builtin; refine wpList_appG u8s rfl (.tmp 21) (.tmp 23) rfl (w.heap.size + 1) A1 (some ⟨w.heap.size, 1, none⟩) 8 32 k1 32 y1 zp rfl rfl m1.symm lp.symm e1.out (fl.out _ V2.out).1 (by rw [m1, lp]; decide) sz2.out ?_; intro A3 k3 w3 o3 hb3 hg3 hA3; rw [hz2.out] at o3 ⊢; have V3 := hid (V2.out.trans hb3); have s3 := hid (r2.out.zone M2.out zz1.out hg3); have zz3 := hid (zz1.out.step (Nat.le_refl _) hA3); have sz3 := hid (Nat.le_trans sz2.out hg3.size); have t3 := hid hg3.size; replace o3 := hid o3; clear hb3 hg3 hA3)
    | (at_builtin; refine wpList_appG u8s rfl (.tmp 25) (.tmp 27) rfl (w.heap.size + 1) A3 (some ⟨w.heap.size, 33, none⟩) 40 32 k3 32 z2 zs rfl rfl l2.symm ls.symm o3.out (fl.out _ V3.out).2.1 (by rw [l2, ls]; decide) sz3.out ?_; intro A4 k4 w4 o4 hb4 hg4 hA4; rw [hz3.out] at o4 ⊢; have V4 := hid (V3.out.trans hb4); have s4 := hid (s3.out.zone M2.out zz3.out hg4); have zz4 := hid (zz3.out.step t3.out hA4); have sz4 := hid (Nat.le_trans sz3.out hg4.size); have t4 := hid (Nat.le_trans t3.out hg4.size); replace o4 := hid o4; clear hb4 hg4 hA4)
    | (at_builtin; refine wpList_appG u8s rfl (.tmp 29) (.tmp 31) rfl (w.heap.size + 1) A4 (some ⟨w.heap.size, 65, none⟩) 72 32 k4 32 z3 zr rfl rfl l3.symm lr.symm o4.out (fl.out _ V4.out).2.2.1 (by rw [l3, lr]; decide) sz4.out ?_; intro A5 k5 w5 o5 hb5 hg5 hA5; rw [hz4.out] at o5 ⊢; have V5 := hid (V4.out.trans hb5); have s5 := hid (s4.out.zone M2.out zz4.out hg5); have sz5 := hid (Nat.le_trans sz4.out hg5.size); replace o5 := hid o5; clear hb5 hg5 hA5)
    | (at_builtin; refine wpList_appG u8s rfl (.tmp 33) (.tmp 34) rfl (w.heap.size + 1) A5 A2 104 4 k5 k2 z4 y2 rfl rfl l4.symm m2.symm o5.out s5.out (by rw [l4, m2]; decide) sz5.out ?_; intro A6 k6 w6 o6 hb6 hg6 hA6; rw [hz5.out] at o6 ⊢; have V6 := hid (V5.out.trans hb6); replace o6 := hid o6; clear hb6 hg6 hA6))
  go_ret
  exact ⟨_, _, rfl, o6.out.base (Nat.le_succ _), W0.out.trans (V6.out.mono (Nat.le_succ _))⟩
set_option maxHeartbeats 2000000 in
theorem RHdName_any (x : Hd) (hx : mayH x = true) (w : World) : Calls Tryd.prog 29 #[.agg (hdC x).toArray] w fun e w' => e = .returned (.agg ((nameD x).1.map bv).toArray) ∧ Below w.heap.size w w' := by
  have hu := Tryd.underlying23
  have hux := Tryd.underlying25
  have B0 := BoxH.new w x 25
  have h1 := heap_alloc_new (w.alloc (.cells (hdC x).toArray 25)) (.cells z32 23)
  have b1 := ext_alloc (w.alloc (.cells (hdC x).toArray 25)) (.cells z32 23)
  rw [World.size_alloc] at h1
  have W1 := hid ((ext_alloc w (.cells (hdC x).toArray 25)).trans (b1.mono (ext_alloc w _).size))
  have X1 := hid (rangeBel2 b1 B0.all)
  have jx := hid (sizeHd x)
  have hBy := hid (fun W => RHdOf_any x hx W)
  have lb := hdB_len x
  have hO := fun A c W (h : Rd W A (hdB x)) (h1 : (hdB x).length ≤ c) (h2 : c ≤ maxLen) => ROneD_any 6 A c (hdB x) W h ⟨h1, h2⟩ (by rw [lb]; decide)
  have hD : sha256 (tagB 6 [hdB x]) = (nameD x).1 := rfl
  rw [hD, lb] at hO
  replace hO := hid hO
  have z1 : (((nameD x).1.map bv).toArray).size = 32 := by simp [(nameD x).2]
  have o1 := bvs_all (nameD x).1
  replace h1 := hid h1
  clear B0 b1 hD
  generalize (nameD x).1.map bv = dk at *
  generalize hdC x = cx at *
  generalize hdB x = zb at *
  go_enter Tryd.func29, Tryd.ntmps29
  go_wp2_with (first
    | (with_reducible refine wpList_alloc_row rfl 23 rfl z32 info32 ?_)
    | ((with_reducible refine wpList_load_rng rfl 25 (.tmp 1) rfl w.heap.size 0 rfl cx _ ?_ hux rfl jx.out ?_); exact X1.out))
  refine (hBy.out _).mono ?_
  rintro e w3 ⟨A3, c3, rfl, o3, hb3⟩
  have R3 := hid ((hb3.block _ (block_lt h1.out)).trans h1.out)
  have W3 := hid (W1.out.trans (hb3.mono W1.out.size))
  have q1 := o3.cap.1
  have q2 := o3.cap.2
  have q3 := hid o3.rd
  rw [lb] at q1
  clear hb3 o3
  go_wp2_with fail
  refine (hO.out _ _ _ q3.out q1 q2).mono ?_
  rintro e w4 ⟨rfl, hb4⟩
  have R4 := hid ((hb4.block _ (block_lt R3.out)).trans R3.out)
  have W4 := hid (W3.out.trans (hb4.mono W3.out.size))
  clear hb4
  go_wp2_with (first
    | ((with_reducible refine wpList_store_row rfl 23 (.tmp 2) (.tmp 5) rfl (w.heap.size + 1) _ rfl rfl 23 z32 ?_ ?_ ?_ ?_ ?_); exact R4.out; (rw [z1]; exact size32); (rw [z1]; exact z32_size); exact o1; intro w5 hg5 hb5 hs5))
  refine bodyPost_ret (v := .agg dk.toArray) ?_ rfl ⟨rfl, ?_⟩
  · exact results_cell_row Tryd.results29 _ _ (w.heap.size + 1) 23 _ (0, 0) _ rfl hg5 hu rfl (by rw [z1]; exact size32)
  · exact W4.out.grown hb5 W4.out.size (fun g e => by injection e with e; omega)
set_option maxHeartbeats 2000000 in
theorem RHdBytes_any (x : Hd) (w : World) : Calls Tryd.prog 13 #[.agg (hdC x).toArray] w fun e w' => ∃ A c, e = .returned (.tuple #[.slice A (hdO x).length c, .int .i64 (hdE x)]) ∧ Own 5 w' w.heap.size A c (hdO x) ∧ Below w.heap.size w w' := by
  have hux := Tryd.underlying25
  have B0 := BoxH.new w x 25
  have W0 := hid (ext_alloc w (.cells (hdC x).toArray 25))
  have X0 := hid B0.all
  have jx := hid (sizeHd x)
  obtain ⟨m, hm⟩ : ∃ m, mayH x = m := ⟨_, rfl⟩
  have hM := hid (fun W => RHdMay_is x m hm W)
  have hE : hdE x = if m = true then 0 else 8 := by unfold hdE; rw [hm]
  have hO : hdO x = if m = true then hdB x else [] := by unfold hdO; rw [hm]
  rw [hE, hO]
  cases m with
  | false =>
    simp only [Bool.false_eq_true, if_false]
    clear B0 hm hE hO
    generalize hdC x = cx at *
    go_enter Tryd.func13, Tryd.ntmps13
    go_wp2_with (first
      | ((with_reducible refine wpList_load_rng rfl 25 (.tmp 1) rfl w.heap.size 0 rfl cx _ ?_ hux rfl jx.out ?_); exact X0.out))
    refine (hM.out _).mono ?_
    rintro e w1 ⟨rfl, hb⟩
    go_wp2
    go_ret2
    exact ⟨none, 0, rfl, Own.nil _ _, W0.out.trans (hb.mono W0.out.size)⟩
  | true =>
    simp only [if_true]
    have hOf := hid (fun W => RHdOf_any x hm W)
    have lb := hdB_len x
    rw [lb]
    clear B0 hm hE hO
    generalize hdC x = cx at *
    generalize hdB x = zb at *
    clear lb
    go_enter Tryd.func13, Tryd.ntmps13
    go_wp2_with (first
      | ((with_reducible refine wpList_load_rng rfl 25 (.tmp 1) rfl w.heap.size 0 rfl cx _ ?_ hux rfl jx.out ?_); exact X0.out))
    refine (hM.out _).mono ?_
    rintro e w1 ⟨rfl, hb⟩
    have W1 := hid (W0.out.trans (hb.mono W0.out.size))
    have X1 := hid (rangeBel2 hb X0.out)
    clear hb
    go_wp2_with (first
      | ((with_reducible refine wpList_load_rng rfl 25 (.tmp 1) rfl w.heap.size 0 rfl cx _ ?_ hux rfl jx.out ?_); exact X1.out))
    refine (hOf.out _).mono ?_
    rintro e w2 ⟨A2, c2, rfl, o2, hb⟩
    go_wp2
    go_ret2
    exact ⟨_, _, rfl, o2.base W1.out.size, W1.out.trans (hb.mono W1.out.size)⟩
set_option maxHeartbeats 2000000 in
theorem RHdHash_any (x : Hd) (w : World) : Calls Tryd.prog 14 #[.agg (hdC x).toArray] w fun e w' => e = .returned (.tuple #[.agg ((hashH x).1.map bv).toArray, .int .i64 (hdE x)]) ∧ Below w.heap.size w w' := by
  have hu := Tryd.underlying23
  have hux := Tryd.underlying25
  have B0 := BoxH.new w x 25
  have h1 := heap_alloc_new (w.alloc (.cells (hdC x).toArray 25)) (.cells z32 23)
  have b1 := ext_alloc (w.alloc (.cells (hdC x).toArray 25)) (.cells z32 23)
  rw [World.size_alloc] at h1
  have W1 := hid ((ext_alloc w (.cells (hdC x).toArray 25)).trans (b1.mono (ext_alloc w _).size))
  have X1 := hid (rangeBel2 b1 B0.all)
  have jx := hid (sizeHd x)
  have hz := hid (show Tryd.prog.built 23 [] = some (z0.1.map bv).toArray by kernel_rfl)
  have zs : ((z0.1.map bv).toArray).size = 32 := by simp [z0.2]
  have zz := bvs_all z0.1
  replace h1 := hid h1
  obtain ⟨m, hm⟩ : ∃ m, mayH x = m := ⟨_, rfl⟩
  have hM := hid (fun W => RHdMay_is x m hm W)
  have hE : hdE x = if m = true then 0 else 8 := by unfold hdE; rw [hm]
  have hO : hashH x = if m = true then nameD x else z0 := by unfold hashH; rw [hm]; rfl
  rw [hE, hO]
  cases m with
  | false =>
    simp only [Bool.false_eq_true, if_false]
    clear B0 hm hE hO b1
    generalize hdC x = cx at *
    generalize z0.1.map bv = dz at *
    go_enter Tryd.func14, Tryd.ntmps14
    go_wp2_with (first
      | (with_reducible refine wpList_alloc_row rfl 23 rfl z32 info32 ?_)
      | ((with_reducible refine wpList_load_rng rfl 25 (.tmp 1) rfl w.heap.size 0 rfl cx _ ?_ hux rfl jx.out ?_); exact X1.out))
    refine (hM.out _).mono ?_
    rintro e w2 ⟨rfl, hb⟩
    have R2 := hid ((hb.block _ (block_lt h1.out)).trans h1.out)
    have W2 := hid (W1.out.trans (hb.mono W1.out.size))
    clear hb
    go_wp2_with (first
      | ((with_reducible refine wpList_built rfl 23 _ rfl dz.toArray [] ?_ ?_ ?_); exact hz.out; rfl)
      | ((with_reducible refine wpList_store_row rfl 23 (.tmp 2) (.tmp 7) rfl (w.heap.size + 1) _ rfl rfl 23 z32 ?_ ?_ ?_ ?_ ?_); exact R2.out; (rw [zs]; exact size32); (rw [zs]; exact z32_size); exact zz; intro w3 hg3 hb3 hs3))
    exact bodyPost_ret (res_dig rfl _ _ (w.heap.size + 1) _ rfl hg3 zs) rfl ⟨rfl, W2.out.grown hb3 W2.out.size (fun g e => by injection e with e; omega)⟩
  | true =>
    simp only [if_true]
    have hN := hid (fun W => RHdName_any x hm W)
    have zd : ((nameD x).1.map bv).toArray.size = 32 := by simp [(nameD x).2]
    have zo := bvs_all (nameD x).1
    clear B0 hm hE hO b1 hz zs zz
    generalize hdC x = cx at *
    generalize (nameD x).1.map bv = dn at *
    go_enter Tryd.func14, Tryd.ntmps14
    go_wp2_with (first
      | (with_reducible refine wpList_alloc_row rfl 23 rfl z32 info32 ?_)
      | ((with_reducible refine wpList_load_rng rfl 25 (.tmp 1) rfl w.heap.size 0 rfl cx _ ?_ hux rfl jx.out ?_); exact X1.out))
    refine (hM.out _).mono ?_
    rintro e w2 ⟨rfl, hb⟩
    have R2 := hid ((hb.block _ (block_lt h1.out)).trans h1.out)
    have W2 := hid (W1.out.trans (hb.mono W1.out.size))
    have X2 := hid (rangeBel2 hb X1.out)
    clear hb
    go_wp2_with (first
      | ((with_reducible refine wpList_load_rng rfl 25 (.tmp 1) rfl w.heap.size 0 rfl cx _ ?_ hux rfl jx.out ?_); exact X2.out))
    refine (hN.out _).mono ?_
    rintro e w3 ⟨rfl, hb⟩
    have R3 := hid ((hb.block _ (block_lt R2.out)).trans R2.out)
    have W3 := hid (W2.out.trans (hb.mono W2.out.size))
    clear hb
    go_wp2_with (first
      | ((with_reducible refine wpList_store_row rfl 23 (.tmp 2) (.tmp 9) rfl (w.heap.size + 1) _ rfl rfl 23 z32 ?_ ?_ ?_ ?_ ?_); exact R3.out; (rw [zd]; exact size32); (rw [zd]; exact z32_size); exact zo; intro w4 hg4 hb4 hs4))
    exact bodyPost_ret (res_dig rfl _ _ (w.heap.size + 1) _ rfl hg4 zd) rfl ⟨rfl, W3.out.grown hb4 W3.out.size (fun g e => by injection e with e; omega)⟩
theorem boxesHH (w : World) (x y : Hd) (t u : TypeId) : BoxH ((w.alloc (.cells (hdC x).toArray t)).alloc (.cells (hdC y).toArray u)) w.heap.size x ∧ BoxH ((w.alloc (.cells (hdC x).toArray t)).alloc (.cells (hdC y).toArray u)) (w.heap.size + 1) y ∧
    Below w.heap.size w ((w.alloc (.cells (hdC x).toArray t)).alloc (.cells (hdC y).toArray u)) := by
  have h2 := BoxH.new (w.alloc (.cells (hdC x).toArray t)) y u
  rw [World.size_alloc] at h2
  exact ⟨(BoxH.new w x t).bel (ext_alloc _ _), h2, ext_trans (ext_alloc _ _) (ext_alloc _ _)⟩
set_option maxHeartbeats 4000000 in
theorem RHdFollows_any (x y : Hd) (w : World) : Calls Tryd.prog 17 #[.agg (hdC x).toArray, .agg (hdC y).toArray] w fun e w' => e = .returned (.bool (follows x y)) ∧ Below w.heap.size w w' := by
  have hu := Tryd.underlying23
  have hux := Tryd.underlying25
  obtain ⟨B1, B2, W0⟩ := boxesHH w x y 25 25
  replace W0 := hid W0
  have X0 := hid B1.all
  have Y0 := hid B2.all
  have cx0 := hid B1.h
  have cy0 := hid B2.h
  have K0 := hid B1.p
  have jx := hid (sizeHd x)
  have jy := hid (sizeHd y)
  have jk := hid (sizeDg x.p)
  obtain ⟨m1, hm1⟩ : ∃ m, mayH x = m := ⟨_, rfl⟩
  obtain ⟨m2, hm2⟩ : ∃ m, mayH y = m := ⟨_, rfl⟩
  obtain ⟨eb, heb⟩ : ∃ b, (x.h == y.h + 1) = b := ⟨_, rfl⟩
  obtain ⟨kb, hkb⟩ : ∃ b, decide (x.p = nameD y) = b := ⟨_, rfl⟩
  have hM1 := hid (fun W => RHdMay_is x m1 hm1 W)
  have hM2 := hid (fun W => RHdMay_is y m2 hm2 W)
  have hN := hid (fun (h : m2 = true) W => RHdName_any y (hm2.trans h) W)
  have hw : Hid (m2 = true → IntKind.i64.wrap (y.h + 1) = y.h + 1) := hid fun h => by
    obtain ⟨n1, n2, _, _⟩ := mayH_iff.1 (hm2.trans h)
    rw [IntKind.wrap_i64]
    omega
  have hE : ∀ W, (Op.equalIn 10000 23 (.agg (x.p.1.map bv).toArray) (.agg ((nameD y).1.map bv).toArray)).run Tryd.prog W = .ok kb W := fun W => eqd_is x.p (nameD y) kb hkb W
  have hF : follows x y = (m1 && (m2 && (eb && kb))) := by
    unfold follows
    rw [hm1, hm2, hkb, ← heb]
    congr 3
  rw [hF]
  clear hF B1 B2 hm1 hm2 hkb
  generalize hdC x = cx at *
  generalize hdC y = cy at *
  generalize x.p.1.map bv = dk at *
  generalize (nameD y).1.map bv = dn at *
  generalize x.h = hx at *
  generalize y.h = hy at *
  go_enter Tryd.func17, Tryd.ntmps17
  go_wp2
  generalize (w.alloc (.cells cx.toArray 25)).alloc (.cells cy.toArray 25) = w1 at *
  rcases m1 with _ | _
  · skip
    refine wp_region_noPanic ?_
    refine wp_region_held_drew (S := fun w' => Below w1.heap.size w1 w') (by kernel_rfl) ?_ (fun hHeld => ?_)
    · exact bel_drew w1
    refine' wpAnyH_take (i := 0) (oi := _) (v := _) rfl (by kernel_rfl) (by kernel_rfl) (by kernel_rfl) (fun _ _ _ h => h) (yieldsIf_load_mid (by rfl) _ _ rfl _ _ rfl _ _ (fun _ h => rangeBel2 h X0.out) hux rfl jx.out) (by assumption) ?_
    try simp only [Act.put, sQa, sQb, sQc, gQa, gQb, gQc]
    refine wpAnyH_ready (rs := [1]) (by kernel_rfl) (by simp) ?_
    refine AllReadyH.cons (o := _) rfl (fun K hK => ?_) AllReadyH.nil
    go_simp
    refine (hM1.out _).mono ?_
    rintro e v1 ⟨rfl, hB⟩
    go_wp2_with fail
    refine hK.out _ _ ?_ (fun hHeld => ?_)
    · exact hHeld.trans (hB.mono hHeld.size)
    clear hK K
    try simp only [Act.put, sQa, sQb, sQc, gQa, gQb, gQc]
    refine' wpAnyH_take (i := 2) (oi := _) (v := ?_) rfl (by kernel_rfl) (by kernel_rfl) (by kernel_rfl) (fun _ _ _ h => h) (Or.inl ⟨by rfl, ?_⟩) (by assumption) ?_
    rotate_left
    · intro W hSw
      go_simp
      first | done | (with_reducible rfl)
    try simp only [Act.put, sQa, sQb, sQc, gQa, gQb, gQc]
    refine' wpAnyH_take (i := 3) (oi := _) (v := _) rfl (by kernel_rfl) (by kernel_rfl) (by kernel_rfl) (fun _ _ _ h => h) (Or.inr ⟨by rfl, rfl⟩) (by assumption) ?_
    try simp only [Act.put, sQa, sQb, sQc, gQa, gQb, gQc]
    refine' wpAnyH_take (i := 4) (oi := _) (v := _) rfl (by kernel_rfl) (by kernel_rfl) (by kernel_rfl) (fun _ _ _ h => h) (Or.inr ⟨by rfl, rfl⟩) (by assumption) ?_
    try simp only [Act.put, sQa, sQb, sQc, gQa, gQb, gQc]
    refine' wpAnyH_take (i := 5) (oi := _) (v := ?_) rfl (by kernel_rfl) (by kernel_rfl) (by kernel_rfl) (fun _ _ _ h => h) (Or.inl ⟨by rfl, ?_⟩) (by assumption) ?_
    rotate_left
    · intro W hSw
      go_simp
      first | done | (with_reducible rfl)
    try simp only [Act.put, sQa, sQb, sQc, gQa, gQb, gQc]
    refine' wpAnyH_take (i := 6) (oi := _) (v := ?_) rfl (by kernel_rfl) (by kernel_rfl) (by kernel_rfl) (fun _ _ _ h => h) (Or.inl ⟨by rfl, ?_⟩) (by assumption) ?_
    rotate_left
    · intro W hSw
      go_simp
      first | done | (with_reducible rfl)
    try simp only [Act.put, sQa, sQb, sQc, gQa, gQb, gQc]
    refine' wpAnyH_take (i := 7) (oi := _) (v := _) rfl (by kernel_rfl) (by kernel_rfl) (by kernel_rfl) (fun _ _ _ h => h) (Or.inr ⟨by rfl, rfl⟩) (by assumption) ?_
    try simp only [Act.put, sQa, sQb, sQc, gQa, gQb, gQc]
    refine' wpAnyH_take (i := 8) (oi := _) (v := _) rfl (by kernel_rfl) (by kernel_rfl) (by kernel_rfl) (fun _ _ _ h => h) (Or.inr ⟨by rfl, rfl⟩) (by assumption) ?_
    try simp only [Act.put, sQa, sQb, sQc, gQa, gQb, gQc]
    refine' wpAnyH_take (i := 9) (oi := _) (v := _) rfl (by kernel_rfl) (by kernel_rfl) (by kernel_rfl) (fun _ _ _ h => h) (Or.inr ⟨by rfl, rfl⟩) (by assumption) ?_
    try simp only [Act.put, sQa, sQb, sQc, gQa, gQb, gQc]
    refine' wpAnyH_take (i := 10) (oi := _) (v := _) rfl (by kernel_rfl) (by kernel_rfl) (by kernel_rfl) (fun _ _ _ h => h) (Or.inr ⟨by rfl, rfl⟩) (by assumption) ?_
    try simp only [Act.put, sQa, sQb, sQc, gQa, gQb, gQc]
    refine' wpAnyH_take (i := 11) (oi := _) (v := _) rfl (by kernel_rfl) (by kernel_rfl) (by kernel_rfl) (fun _ _ _ h => h) (Or.inr ⟨by rfl, rfl⟩) (by assumption) ?_
    try simp only [Act.put, sQa, sQb, sQc, gQa, gQb, gQc]
    refine' wpAnyH_take (i := 12) (oi := _) (v := _) rfl (by kernel_rfl) (by kernel_rfl) (by kernel_rfl) (fun _ _ _ h => h) (Or.inr ⟨by rfl, rfl⟩) (by assumption) ?_
    try simp only [Act.put, sQa, sQb, sQc, gQa, gQb, gQc]
    refine' wpAnyH_take (i := 13) (oi := _) (v := ?_) rfl (by kernel_rfl) (by kernel_rfl) (by kernel_rfl) (fun _ _ _ h => h) (Or.inl ⟨by rfl, ?_⟩) (by assumption) ?_
    rotate_left
    · intro W hSw
      go_simp
      first | done | (with_reducible rfl)
    try simp only [Act.put, sQa, sQb, sQc, gQa, gQb, gQc]
    refine' wpAnyH_take (i := 14) (oi := _) (v := ?_) rfl (by kernel_rfl) (by kernel_rfl) (by kernel_rfl) (fun _ _ _ h => h) (Or.inl ⟨by rfl, ?_⟩) (by assumption) ?_
    rotate_left
    · intro W hSw
      go_simp
      first | done | (with_reducible rfl)
    try simp only [Act.put, sQa, sQb, sQc, gQa, gQb, gQc]
    refine' wpAnyH_take (i := 15) (oi := _) (v := _) rfl (by kernel_rfl) (by kernel_rfl) (by kernel_rfl) (fun _ _ _ h => h) (Or.inr ⟨by rfl, rfl⟩) (by assumption) ?_
    try simp only [Act.put, sQa, sQb, sQc, gQa, gQb, gQc]
    refine' wpAnyH_take (i := 16) (oi := _) (v := _) rfl (by kernel_rfl) (by kernel_rfl) (by kernel_rfl) (fun _ _ _ h => h) (Or.inr ⟨by rfl, rfl⟩) (by assumption) ?_
    try simp only [Act.put, sQa, sQb, sQc, gQa, gQb, gQc]
    refine' wpAnyH_take (i := 17) (oi := _) (v := _) rfl (by kernel_rfl) (by kernel_rfl) (by kernel_rfl) (fun _ _ _ h => h) (Or.inr ⟨by rfl, rfl⟩) (by assumption) ?_
    try simp only [Act.put, sQa, sQb, sQc, gQa, gQb, gQc]
    refine' wpAnyH_take (i := 18) (oi := _) (v := _) rfl (by kernel_rfl) (by kernel_rfl) (by kernel_rfl) (fun _ _ _ h => h) (Or.inr ⟨by rfl, rfl⟩) (by assumption) ?_
    try simp only [Act.put, sQa, sQb, sQc, gQa, gQb, gQc]
    refine' wpAnyH_take (i := 19) (oi := _) (v := _) rfl (by kernel_rfl) (by kernel_rfl) (by kernel_rfl) (fun _ _ _ h => h) (Or.inr ⟨by rfl, rfl⟩) (by assumption) ?_
    try simp only [Act.put, sQa, sQb, sQc, gQa, gQb, gQc]
    refine' wpAnyH_take (i := 20) (oi := _) (v := ?_) rfl (by kernel_rfl) (by kernel_rfl) (by kernel_rfl) (fun _ _ _ h => h) (Or.inl ⟨by rfl, ?_⟩) (by assumption) ?_
    rotate_left
    · intro W hSw
      go_simp
      first | done | (with_reducible rfl)
    try simp only [Act.put, sQa, sQb, sQc, gQa, gQb, gQc]
    refine' wpAnyH_take (i := 21) (oi := _) (v := ?_) rfl (by kernel_rfl) (by kernel_rfl) (by kernel_rfl) (fun _ _ _ h => h) (Or.inl ⟨by rfl, ?_⟩) (by assumption) ?_
    rotate_left
    · intro W hSw
      go_simp
      first | done | (with_reducible rfl)
    try simp only [Act.put, sQa, sQb, sQc, gQa, gQb, gQc]
    refine wpAnyH_done (by kernel_rfl) ?_ _
    refine NoPanic.normal ?_
    go_wp2
    go_ret
    exact ⟨rfl, W0.out.trans (hHeld.mono W0.out.size)⟩
  rcases m2 with _ | _
  · skip
    refine wp_region_noPanic ?_
    refine wp_region_held_drew (S := fun w' => Below w1.heap.size w1 w') (by kernel_rfl) ?_ (fun hHeld => ?_)
    · exact bel_drew w1
    refine' wpAnyH_take (i := 0) (oi := _) (v := _) rfl (by kernel_rfl) (by kernel_rfl) (by kernel_rfl) (fun _ _ _ h => h) (yieldsIf_load_mid (by rfl) _ _ rfl _ _ rfl _ _ (fun _ h => rangeBel2 h X0.out) hux rfl jx.out) (by assumption) ?_
    try simp only [Act.put, sQa, sQb, sQc, gQa, gQb, gQc]
    refine wpAnyH_ready (rs := [1]) (by kernel_rfl) (by simp) ?_
    refine AllReadyH.cons (o := _) rfl (fun K hK => ?_) AllReadyH.nil
    go_simp
    refine (hM1.out _).mono ?_
    rintro e v1 ⟨rfl, hB⟩
    go_wp2_with fail
    refine hK.out _ _ ?_ (fun hHeld => ?_)
    · exact hHeld.trans (hB.mono hHeld.size)
    clear hK K
    try simp only [Act.put, sQa, sQb, sQc, gQa, gQb, gQc]
    refine' wpAnyH_take (i := 2) (oi := _) (v := ?_) rfl (by kernel_rfl) (by kernel_rfl) (by kernel_rfl) (fun _ _ _ h => h) (Or.inl ⟨by rfl, ?_⟩) (by assumption) ?_
    rotate_left
    · intro W hSw
      go_simp
      first | done | (with_reducible rfl)
    try simp only [Act.put, sQa, sQb, sQc, gQa, gQb, gQc]
    refine' wpAnyH_take (i := 3) (oi := _) (v := _) rfl (by kernel_rfl) (by kernel_rfl) (by kernel_rfl) (fun _ _ _ h => h) (yieldsIf_load_mid (by rfl) _ _ rfl _ _ rfl _ _ (fun _ h => rangeBel2 h Y0.out) hux rfl jy.out) (by assumption) ?_
    try simp only [Act.put, sQa, sQb, sQc, gQa, gQb, gQc]
    refine wpAnyH_ready (rs := [4]) (by kernel_rfl) (by simp) ?_
    refine AllReadyH.cons (o := _) rfl (fun K hK => ?_) AllReadyH.nil
    go_simp
    refine (hM2.out _).mono ?_
    rintro e v2 ⟨rfl, hB⟩
    go_wp2_with fail
    refine hK.out _ _ ?_ (fun hHeld => ?_)
    · exact hHeld.trans (hB.mono hHeld.size)
    clear hK K
    try simp only [Act.put, sQa, sQb, sQc, gQa, gQb, gQc]
    refine' wpAnyH_take (i := 5) (oi := _) (v := ?_) rfl (by kernel_rfl) (by kernel_rfl) (by kernel_rfl) (fun _ _ _ h => h) (Or.inl ⟨by rfl, ?_⟩) (by assumption) ?_
    rotate_left
    · intro W hSw
      go_simp
      first | done | (with_reducible rfl)
    try simp only [Act.put, sQa, sQb, sQc, gQa, gQb, gQc]
    refine' wpAnyH_take (i := 6) (oi := _) (v := ?_) rfl (by kernel_rfl) (by kernel_rfl) (by kernel_rfl) (fun _ _ _ h => h) (Or.inl ⟨by rfl, ?_⟩) (by assumption) ?_
    rotate_left
    · intro W hSw
      go_simp
      first | done | (with_reducible rfl)
    try simp only [Act.put, sQa, sQb, sQc, gQa, gQb, gQc]
    refine' wpAnyH_take (i := 7) (oi := _) (v := _) rfl (by kernel_rfl) (by kernel_rfl) (by kernel_rfl) (fun _ _ _ h => h) (Or.inr ⟨by rfl, rfl⟩) (by assumption) ?_
    try simp only [Act.put, sQa, sQb, sQc, gQa, gQb, gQc]
    refine' wpAnyH_take (i := 8) (oi := _) (v := _) rfl (by kernel_rfl) (by kernel_rfl) (by kernel_rfl) (fun _ _ _ h => h) (Or.inr ⟨by rfl, rfl⟩) (by assumption) ?_
    try simp only [Act.put, sQa, sQb, sQc, gQa, gQb, gQc]
    refine' wpAnyH_take (i := 9) (oi := _) (v := _) rfl (by kernel_rfl) (by kernel_rfl) (by kernel_rfl) (fun _ _ _ h => h) (Or.inr ⟨by rfl, rfl⟩) (by assumption) ?_
    try simp only [Act.put, sQa, sQb, sQc, gQa, gQb, gQc]
    refine' wpAnyH_take (i := 10) (oi := _) (v := _) rfl (by kernel_rfl) (by kernel_rfl) (by kernel_rfl) (fun _ _ _ h => h) (Or.inr ⟨by rfl, rfl⟩) (by assumption) ?_
    try simp only [Act.put, sQa, sQb, sQc, gQa, gQb, gQc]
    refine' wpAnyH_take (i := 11) (oi := _) (v := _) rfl (by kernel_rfl) (by kernel_rfl) (by kernel_rfl) (fun _ _ _ h => h) (Or.inr ⟨by rfl, rfl⟩) (by assumption) ?_
    try simp only [Act.put, sQa, sQb, sQc, gQa, gQb, gQc]
    refine' wpAnyH_take (i := 12) (oi := _) (v := _) rfl (by kernel_rfl) (by kernel_rfl) (by kernel_rfl) (fun _ _ _ h => h) (Or.inr ⟨by rfl, rfl⟩) (by assumption) ?_
    try simp only [Act.put, sQa, sQb, sQc, gQa, gQb, gQc]
    refine' wpAnyH_take (i := 13) (oi := _) (v := ?_) rfl (by kernel_rfl) (by kernel_rfl) (by kernel_rfl) (fun _ _ _ h => h) (Or.inl ⟨by rfl, ?_⟩) (by assumption) ?_
    rotate_left
    · intro W hSw
      go_simp
      first | done | (with_reducible rfl)
    try simp only [Act.put, sQa, sQb, sQc, gQa, gQb, gQc]
    refine' wpAnyH_take (i := 14) (oi := _) (v := ?_) rfl (by kernel_rfl) (by kernel_rfl) (by kernel_rfl) (fun _ _ _ h => h) (Or.inl ⟨by rfl, ?_⟩) (by assumption) ?_
    rotate_left
    · intro W hSw
      go_simp
      first | done | (with_reducible rfl)
    try simp only [Act.put, sQa, sQb, sQc, gQa, gQb, gQc]
    refine' wpAnyH_take (i := 15) (oi := _) (v := _) rfl (by kernel_rfl) (by kernel_rfl) (by kernel_rfl) (fun _ _ _ h => h) (Or.inr ⟨by rfl, rfl⟩) (by assumption) ?_
    try simp only [Act.put, sQa, sQb, sQc, gQa, gQb, gQc]
    refine' wpAnyH_take (i := 16) (oi := _) (v := _) rfl (by kernel_rfl) (by kernel_rfl) (by kernel_rfl) (fun _ _ _ h => h) (Or.inr ⟨by rfl, rfl⟩) (by assumption) ?_
    try simp only [Act.put, sQa, sQb, sQc, gQa, gQb, gQc]
    refine' wpAnyH_take (i := 17) (oi := _) (v := _) rfl (by kernel_rfl) (by kernel_rfl) (by kernel_rfl) (fun _ _ _ h => h) (Or.inr ⟨by rfl, rfl⟩) (by assumption) ?_
    try simp only [Act.put, sQa, sQb, sQc, gQa, gQb, gQc]
    refine' wpAnyH_take (i := 18) (oi := _) (v := _) rfl (by kernel_rfl) (by kernel_rfl) (by kernel_rfl) (fun _ _ _ h => h) (Or.inr ⟨by rfl, rfl⟩) (by assumption) ?_
    try simp only [Act.put, sQa, sQb, sQc, gQa, gQb, gQc]
    refine' wpAnyH_take (i := 19) (oi := _) (v := _) rfl (by kernel_rfl) (by kernel_rfl) (by kernel_rfl) (fun _ _ _ h => h) (Or.inr ⟨by rfl, rfl⟩) (by assumption) ?_
    try simp only [Act.put, sQa, sQb, sQc, gQa, gQb, gQc]
    refine' wpAnyH_take (i := 20) (oi := _) (v := ?_) rfl (by kernel_rfl) (by kernel_rfl) (by kernel_rfl) (fun _ _ _ h => h) (Or.inl ⟨by rfl, ?_⟩) (by assumption) ?_
    rotate_left
    · intro W hSw
      go_simp
      first | done | (with_reducible rfl)
    try simp only [Act.put, sQa, sQb, sQc, gQa, gQb, gQc]
    refine' wpAnyH_take (i := 21) (oi := _) (v := ?_) rfl (by kernel_rfl) (by kernel_rfl) (by kernel_rfl) (fun _ _ _ h => h) (Or.inl ⟨by rfl, ?_⟩) (by assumption) ?_
    rotate_left
    · intro W hSw
      go_simp
      first | done | (with_reducible rfl)
    try simp only [Act.put, sQa, sQb, sQc, gQa, gQb, gQc]
    refine wpAnyH_done (by kernel_rfl) ?_ _
    refine NoPanic.normal ?_
    go_wp2
    go_ret
    exact ⟨rfl, W0.out.trans (hHeld.mono W0.out.size)⟩
  have hw2 := hw.out rfl
  rcases eb with _ | _
  · skip
    refine wp_region_noPanic ?_
    refine wp_region_held_drew (S := fun w' => Below w1.heap.size w1 w') (by kernel_rfl) ?_ (fun hHeld => ?_)
    · exact bel_drew w1
    refine' wpAnyH_take (i := 0) (oi := _) (v := _) rfl (by kernel_rfl) (by kernel_rfl) (by kernel_rfl) (fun _ _ _ h => h) (yieldsIf_load_mid (by rfl) _ _ rfl _ _ rfl _ _ (fun _ h => rangeBel2 h X0.out) hux rfl jx.out) (by assumption) ?_
    try simp only [Act.put, sQa, sQb, sQc, gQa, gQb, gQc]
    refine wpAnyH_ready (rs := [1]) (by kernel_rfl) (by simp) ?_
    refine AllReadyH.cons (o := _) rfl (fun K hK => ?_) AllReadyH.nil
    go_simp
    refine (hM1.out _).mono ?_
    rintro e v1 ⟨rfl, hB⟩
    go_wp2_with fail
    refine hK.out _ _ ?_ (fun hHeld => ?_)
    · exact hHeld.trans (hB.mono hHeld.size)
    clear hK K
    try simp only [Act.put, sQa, sQb, sQc, gQa, gQb, gQc]
    refine' wpAnyH_take (i := 2) (oi := _) (v := ?_) rfl (by kernel_rfl) (by kernel_rfl) (by kernel_rfl) (fun _ _ _ h => h) (Or.inl ⟨by rfl, ?_⟩) (by assumption) ?_
    rotate_left
    · intro W hSw
      go_simp
      first | done | (with_reducible rfl)
    try simp only [Act.put, sQa, sQb, sQc, gQa, gQb, gQc]
    refine' wpAnyH_take (i := 3) (oi := _) (v := _) rfl (by kernel_rfl) (by kernel_rfl) (by kernel_rfl) (fun _ _ _ h => h) (yieldsIf_load_mid (by rfl) _ _ rfl _ _ rfl _ _ (fun _ h => rangeBel2 h Y0.out) hux rfl jy.out) (by assumption) ?_
    try simp only [Act.put, sQa, sQb, sQc, gQa, gQb, gQc]
    refine wpAnyH_ready (rs := [4]) (by kernel_rfl) (by simp) ?_
    refine AllReadyH.cons (o := _) rfl (fun K hK => ?_) AllReadyH.nil
    go_simp
    refine (hM2.out _).mono ?_
    rintro e v2 ⟨rfl, hB⟩
    go_wp2_with fail
    refine hK.out _ _ ?_ (fun hHeld => ?_)
    · exact hHeld.trans (hB.mono hHeld.size)
    clear hK K
    try simp only [Act.put, sQa, sQb, sQc, gQa, gQb, gQc]
    refine' wpAnyH_take (i := 5) (oi := _) (v := ?_) rfl (by kernel_rfl) (by kernel_rfl) (by kernel_rfl) (fun _ _ _ h => h) (Or.inl ⟨by rfl, ?_⟩) (by assumption) ?_
    rotate_left
    · intro W hSw
      go_simp
      first | done | (with_reducible rfl)
    try simp only [Act.put, sQa, sQb, sQc, gQa, gQb, gQc]
    refine' wpAnyH_take (i := 6) (oi := _) (v := ?_) rfl (by kernel_rfl) (by kernel_rfl) (by kernel_rfl) (fun _ _ _ h => h) (Or.inl ⟨by rfl, ?_⟩) (by assumption) ?_
    rotate_left
    · intro W hSw
      go_simp
      first | done | (with_reducible rfl)
    try simp only [Act.put, sQa, sQb, sQc, gQa, gQb, gQc]
    refine' wpAnyH_take (i := 7) (oi := _) (v := ?_) rfl (by kernel_rfl) (by kernel_rfl) (by kernel_rfl) (fun _ _ _ h => h) (Or.inl ⟨by rfl, ?_⟩) (by assumption) ?_
    rotate_left
    · intro W hSw
      go_simp
      first | done | (with_reducible rfl)
    try simp only [Act.put, sQa, sQb, sQc, gQa, gQb, gQc]
    refine' wpAnyH_take (i := 8) (oi := _) (v := ?_) rfl (by kernel_rfl) (by kernel_rfl) (by kernel_rfl) (fun _ _ _ h => h) (Or.inl ⟨by rfl, ?_⟩) (by assumption) ?_
    rotate_left
    · intro W hSw
      have hCell := (hSw.cell (World.block_lt_of_cell? _ _ cx0.out)).trans cx0.out
      go_simp
      first | done | (with_reducible rfl)
    try simp only [Act.put, sQa, sQb, sQc, gQa, gQb, gQc]
    refine' wpAnyH_take (i := 9) (oi := _) (v := ?_) rfl (by kernel_rfl) (by kernel_rfl) (by kernel_rfl) (fun _ _ _ h => h) (Or.inl ⟨by rfl, ?_⟩) (by assumption) ?_
    rotate_left
    · intro W hSw
      go_simp
      first | done | (with_reducible rfl)
    try simp only [Act.put, sQa, sQb, sQc, gQa, gQb, gQc]
    refine' wpAnyH_take (i := 10) (oi := _) (v := ?_) rfl (by kernel_rfl) (by kernel_rfl) (by kernel_rfl) (fun _ _ _ h => h) (Or.inl ⟨by rfl, ?_⟩) (by assumption) ?_
    rotate_left
    · intro W hSw
      have hCell := (hSw.cell (World.block_lt_of_cell? _ _ cy0.out)).trans cy0.out
      go_simp
      first | done | (with_reducible rfl)
    try simp only [Act.put, sQa, sQb, sQc, gQa, gQb, gQc]
    refine' wpAnyH_take (i := 11) (oi := _) (v := ?_) rfl (by kernel_rfl) (by kernel_rfl) (by kernel_rfl) (fun _ _ _ h => h) (Or.inl ⟨by rfl, ?_⟩) (by assumption) ?_
    rotate_left
    · intro W hSw
      go_simp
      first | done | (with_reducible rfl)
    try simp only [Act.put, sQa, sQb, sQc, gQa, gQb, gQc]
    refine' wpAnyH_take (i := 12) (oi := _) (v := ?_) rfl (by kernel_rfl) (by kernel_rfl) (by kernel_rfl) (fun _ _ _ h => h) (Or.inl ⟨by rfl, ?_⟩) (by assumption) ?_
    rotate_left
    · intro W hSw
      go_simp
      first | done | (with_reducible rfl)
    try simp only [Act.put, sQa, sQb, sQc, gQa, gQb, gQc]
    refine' wpAnyH_take (i := 13) (oi := _) (v := ?_) rfl (by kernel_rfl) (by kernel_rfl) (by kernel_rfl) (fun _ _ _ h => h) (Or.inl ⟨by rfl, ?_⟩) (by assumption) ?_
    rotate_left
    · intro W hSw
      go_simp
      first | done | (with_reducible rfl)
    try simp only [Act.put, sQa, sQb, sQc, gQa, gQb, gQc]
    refine' wpAnyH_take (i := 14) (oi := _) (v := ?_) rfl (by kernel_rfl) (by kernel_rfl) (by kernel_rfl) (fun _ _ _ h => h) (Or.inl ⟨by rfl, ?_⟩) (by assumption) ?_
    rotate_left
    · intro W hSw
      go_simp
      first | done | (with_reducible rfl)
    try simp only [Act.put, sQa, sQb, sQc, gQa, gQb, gQc]
    refine' wpAnyH_take (i := 15) (oi := _) (v := _) rfl (by kernel_rfl) (by kernel_rfl) (by kernel_rfl) (fun _ _ _ h => h) (Or.inr ⟨by rfl, rfl⟩) (by assumption) ?_
    try simp only [Act.put, sQa, sQb, sQc, gQa, gQb, gQc]
    refine' wpAnyH_take (i := 16) (oi := _) (v := _) rfl (by kernel_rfl) (by kernel_rfl) (by kernel_rfl) (fun _ _ _ h => h) (Or.inr ⟨by rfl, rfl⟩) (by assumption) ?_
    try simp only [Act.put, sQa, sQb, sQc, gQa, gQb, gQc]
    refine' wpAnyH_take (i := 17) (oi := _) (v := _) rfl (by kernel_rfl) (by kernel_rfl) (by kernel_rfl) (fun _ _ _ h => h) (Or.inr ⟨by rfl, rfl⟩) (by assumption) ?_
    try simp only [Act.put, sQa, sQb, sQc, gQa, gQb, gQc]
    refine' wpAnyH_take (i := 18) (oi := _) (v := _) rfl (by kernel_rfl) (by kernel_rfl) (by kernel_rfl) (fun _ _ _ h => h) (Or.inr ⟨by rfl, rfl⟩) (by assumption) ?_
    try simp only [Act.put, sQa, sQb, sQc, gQa, gQb, gQc]
    refine' wpAnyH_take (i := 19) (oi := _) (v := _) rfl (by kernel_rfl) (by kernel_rfl) (by kernel_rfl) (fun _ _ _ h => h) (Or.inr ⟨by rfl, rfl⟩) (by assumption) ?_
    try simp only [Act.put, sQa, sQb, sQc, gQa, gQb, gQc]
    refine' wpAnyH_take (i := 20) (oi := _) (v := ?_) rfl (by kernel_rfl) (by kernel_rfl) (by kernel_rfl) (fun _ _ _ h => h) (Or.inl ⟨by rfl, ?_⟩) (by assumption) ?_
    rotate_left
    · intro W hSw
      go_simp
      first | done | (with_reducible rfl)
    try simp only [Act.put, sQa, sQb, sQc, gQa, gQb, gQc]
    refine' wpAnyH_take (i := 21) (oi := _) (v := ?_) rfl (by kernel_rfl) (by kernel_rfl) (by kernel_rfl) (fun _ _ _ h => h) (Or.inl ⟨by rfl, ?_⟩) (by assumption) ?_
    rotate_left
    · intro W hSw
      go_simp
      first | done | (with_reducible rfl)
    try simp only [Act.put, sQa, sQb, sQc, gQa, gQb, gQc]
    refine wpAnyH_done (by kernel_rfl) ?_ _
    refine NoPanic.normal ?_
    go_wp2
    go_ret
    exact ⟨rfl, W0.out.trans (hHeld.mono W0.out.size)⟩
  have hN2 := hid (hN.out rfl)
  clear hN hw
  refine wp_region_noPanic ?_
  refine wp_region_held_drew (S := fun w' => Below w1.heap.size w1 w') (by kernel_rfl) ?_ (fun hHeld => ?_)
  · exact bel_drew w1
  refine' wpAnyH_take (i := 0) (oi := _) (v := _) rfl (by kernel_rfl) (by kernel_rfl) (by kernel_rfl) (fun _ _ _ h => h) (yieldsIf_load_mid (by rfl) _ _ rfl _ _ rfl _ _ (fun _ h => rangeBel2 h X0.out) hux rfl jx.out) (by assumption) ?_
  try simp only [Act.put, sQa, sQb, sQc, gQa, gQb, gQc]
  refine wpAnyH_ready (rs := [1]) (by kernel_rfl) (by simp) ?_
  refine AllReadyH.cons (o := _) rfl (fun K hK => ?_) AllReadyH.nil
  go_simp
  refine (hM1.out _).mono ?_
  rintro e v1 ⟨rfl, hB⟩
  go_wp2_with fail
  refine hK.out _ _ ?_ (fun hHeld => ?_)
  · exact hHeld.trans (hB.mono hHeld.size)
  clear hK K
  try simp only [Act.put, sQa, sQb, sQc, gQa, gQb, gQc]
  refine' wpAnyH_take (i := 2) (oi := _) (v := ?_) rfl (by kernel_rfl) (by kernel_rfl) (by kernel_rfl) (fun _ _ _ h => h) (Or.inl ⟨by rfl, ?_⟩) (by assumption) ?_
  rotate_left
  · intro W hSw
    go_simp
    first | done | (with_reducible rfl)
  try simp only [Act.put, sQa, sQb, sQc, gQa, gQb, gQc]
  refine' wpAnyH_take (i := 3) (oi := _) (v := _) rfl (by kernel_rfl) (by kernel_rfl) (by kernel_rfl) (fun _ _ _ h => h) (yieldsIf_load_mid (by rfl) _ _ rfl _ _ rfl _ _ (fun _ h => rangeBel2 h Y0.out) hux rfl jy.out) (by assumption) ?_
  try simp only [Act.put, sQa, sQb, sQc, gQa, gQb, gQc]
  refine wpAnyH_ready (rs := [4]) (by kernel_rfl) (by simp) ?_
  refine AllReadyH.cons (o := _) rfl (fun K hK => ?_) AllReadyH.nil
  go_simp
  refine (hM2.out _).mono ?_
  rintro e v2 ⟨rfl, hB⟩
  go_wp2_with fail
  refine hK.out _ _ ?_ (fun hHeld => ?_)
  · exact hHeld.trans (hB.mono hHeld.size)
  clear hK K
  try simp only [Act.put, sQa, sQb, sQc, gQa, gQb, gQc]
  refine' wpAnyH_take (i := 5) (oi := _) (v := ?_) rfl (by kernel_rfl) (by kernel_rfl) (by kernel_rfl) (fun _ _ _ h => h) (Or.inl ⟨by rfl, ?_⟩) (by assumption) ?_
  rotate_left
  · intro W hSw
    go_simp
    first | done | (with_reducible rfl)
  try simp only [Act.put, sQa, sQb, sQc, gQa, gQb, gQc]
  refine' wpAnyH_take (i := 6) (oi := _) (v := ?_) rfl (by kernel_rfl) (by kernel_rfl) (by kernel_rfl) (fun _ _ _ h => h) (Or.inl ⟨by rfl, ?_⟩) (by assumption) ?_
  rotate_left
  · intro W hSw
    go_simp
    first | done | (with_reducible rfl)
  try simp only [Act.put, sQa, sQb, sQc, gQa, gQb, gQc]
  refine' wpAnyH_take (i := 7) (oi := _) (v := ?_) rfl (by kernel_rfl) (by kernel_rfl) (by kernel_rfl) (fun _ _ _ h => h) (Or.inl ⟨by rfl, ?_⟩) (by assumption) ?_
  rotate_left
  · intro W hSw
    go_simp
    first | done | (with_reducible rfl)
  try simp only [Act.put, sQa, sQb, sQc, gQa, gQb, gQc]
  refine' wpAnyH_take (i := 8) (oi := _) (v := ?_) rfl (by kernel_rfl) (by kernel_rfl) (by kernel_rfl) (fun _ _ _ h => h) (Or.inl ⟨by rfl, ?_⟩) (by assumption) ?_
  rotate_left
  · intro W hSw
    have hCell := (hSw.cell (World.block_lt_of_cell? _ _ cx0.out)).trans cx0.out
    go_simp
    first | done | (with_reducible rfl)
  try simp only [Act.put, sQa, sQb, sQc, gQa, gQb, gQc]
  refine' wpAnyH_take (i := 9) (oi := _) (v := ?_) rfl (by kernel_rfl) (by kernel_rfl) (by kernel_rfl) (fun _ _ _ h => h) (Or.inl ⟨by rfl, ?_⟩) (by assumption) ?_
  rotate_left
  · intro W hSw
    go_simp
    first | done | (with_reducible rfl)
  try simp only [Act.put, sQa, sQb, sQc, gQa, gQb, gQc]
  refine' wpAnyH_take (i := 10) (oi := _) (v := ?_) rfl (by kernel_rfl) (by kernel_rfl) (by kernel_rfl) (fun _ _ _ h => h) (Or.inl ⟨by rfl, ?_⟩) (by assumption) ?_
  rotate_left
  · intro W hSw
    have hCell := (hSw.cell (World.block_lt_of_cell? _ _ cy0.out)).trans cy0.out
    go_simp
    first | done | (with_reducible rfl)
  try simp only [Act.put, sQa, sQb, sQc, gQa, gQb, gQc]
  refine' wpAnyH_take (i := 11) (oi := _) (v := ?_) rfl (by kernel_rfl) (by kernel_rfl) (by kernel_rfl) (fun _ _ _ h => h) (Or.inl ⟨by rfl, ?_⟩) (by assumption) ?_
  rotate_left
  · intro W hSw
    go_simp
    first | done | (with_reducible rfl)
  try simp only [Act.put, sQa, sQb, sQc, gQa, gQb, gQc]
  refine' wpAnyH_take (i := 12) (oi := _) (v := ?_) rfl (by kernel_rfl) (by kernel_rfl) (by kernel_rfl) (fun _ _ _ h => h) (Or.inl ⟨by rfl, ?_⟩) (by assumption) ?_
  rotate_left
  · intro W hSw
    go_simp
    first | done | (with_reducible rfl)
  try simp only [Act.put, sQa, sQb, sQc, gQa, gQb, gQc]
  refine' wpAnyH_take (i := 13) (oi := _) (v := ?_) rfl (by kernel_rfl) (by kernel_rfl) (by kernel_rfl) (fun _ _ _ h => h) (Or.inl ⟨by rfl, ?_⟩) (by assumption) ?_
  rotate_left
  · intro W hSw
    go_simp
    first | done | (with_reducible rfl)
  try simp only [Act.put, sQa, sQb, sQc, gQa, gQb, gQc]
  refine' wpAnyH_take (i := 14) (oi := _) (v := ?_) rfl (by kernel_rfl) (by kernel_rfl) (by kernel_rfl) (fun _ _ _ h => h) (Or.inl ⟨by rfl, ?_⟩) (by assumption) ?_
  rotate_left
  · intro W hSw
    go_simp
    first | done | (with_reducible rfl)
  try simp only [Act.put, sQa, sQb, sQc, gQa, gQb, gQc]
  refine' wpAnyH_take (i := 15) (oi := _) (v := ?_) rfl (by kernel_rfl) (by kernel_rfl) (by kernel_rfl) (fun _ _ _ h => h) (Or.inl ⟨by rfl, ?_⟩) (by assumption) ?_
  rotate_left
  · intro W hSw
    go_simp
    first | done | (with_reducible rfl)
  try simp only [Act.put, sQa, sQb, sQc, gQa, gQb, gQc]
  refine' wpAnyH_take (i := 16) (oi := _) (v := _) rfl (by kernel_rfl) (by kernel_rfl) (by kernel_rfl) (fun _ _ _ h => h) (yieldsIf_load_mid (by rfl) _ _ rfl _ _ rfl _ _ (fun _ h => rangeBel2 h K0.out) hu rfl jk.out) (by assumption) ?_
  try simp only [Act.put, sQa, sQb, sQc, gQa, gQb, gQc]
  refine' wpAnyH_take (i := 17) (oi := _) (v := _) rfl (by kernel_rfl) (by kernel_rfl) (by kernel_rfl) (fun _ _ _ h => h) (yieldsIf_load_mid (by rfl) _ _ rfl _ _ rfl _ _ (fun _ h => rangeBel2 h Y0.out) hux rfl jy.out) (by assumption) ?_
  try simp only [Act.put, sQa, sQb, sQc, gQa, gQb, gQc]
  refine wpAnyH_ready (rs := [18]) (by kernel_rfl) (by simp) ?_
  refine AllReadyH.cons (o := _) rfl (fun K hK => ?_) AllReadyH.nil
  go_simp
  refine (hN2.out _).mono ?_
  rintro e v3 ⟨rfl, hB⟩
  go_wp2_with fail
  refine hK.out _ _ ?_ (fun hHeld => ?_)
  · exact hHeld.trans (hB.mono hHeld.size)
  clear hK K
  try simp only [Act.put, sQa, sQb, sQc, gQa, gQb, gQc]
  refine' wpAnyH_take (i := 19) (oi := _) (v := ?_) rfl (by kernel_rfl) (by kernel_rfl) (by kernel_rfl) (fun _ _ _ h => h) (Or.inl ⟨by rfl, ?_⟩) (by assumption) ?_
  rotate_left
  · intro W hSw
    go_simp
    first | done | (with_reducible rfl)
  try simp only [Act.put, sQa, sQb, sQc, gQa, gQb, gQc]
  refine' wpAnyH_take (i := 20) (oi := _) (v := ?_) rfl (by kernel_rfl) (by kernel_rfl) (by kernel_rfl) (fun _ _ _ h => h) (Or.inl ⟨by rfl, ?_⟩) (by assumption) ?_
  rotate_left
  · intro W hSw
    go_simp
    first | done | (with_reducible rfl)
  try simp only [Act.put, sQa, sQb, sQc, gQa, gQb, gQc]
  refine' wpAnyH_take (i := 21) (oi := _) (v := ?_) rfl (by kernel_rfl) (by kernel_rfl) (by kernel_rfl) (fun _ _ _ h => h) (Or.inl ⟨by rfl, ?_⟩) (by assumption) ?_
  rotate_left
  · intro W hSw
    go_simp
    first | done | (with_reducible rfl)
  try simp only [Act.put, sQa, sQb, sQc, gQa, gQb, gQc]
  refine wpAnyH_done (by kernel_rfl) ?_ _
  refine NoPanic.normal ?_
  go_wp2
  go_ret
  exact ⟨by cases kb <;> rfl, W0.out.trans (hHeld.mono W0.out.size)⟩
end Go.Proofs.YtpfglincdlmfhaaDoor
