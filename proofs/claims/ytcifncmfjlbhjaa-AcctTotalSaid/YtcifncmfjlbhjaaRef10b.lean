/-
  The document's answers of layer 10: Held, In, Sum.
-/
import Derived.Test.YtcifncmfjlbhjaaRef10a
import Derived.Test.YtcifncmfjlbhjaaRefE
namespace Go.Proofs.Ytcifncmfjlbhjaa
open Go.RowKit
set_option linter.unusedVariables false
set_option linter.unusedSimpArgs false
set_option maxRecDepth 100000

theorem held_step {ps : List Pr} {j : Nat} (hj : j < ps.length) : heldP (ps.take (j + 1)) = (heldP (ps.take j) && decide (acE ps[j].v = 0)) := by
  unfold heldP
  rw [List.take_succ_eq_append_getElem hj, List.all_append]
  simp
theorem held_no {ps : List Pr} {j : Nat} (hj : j < ps.length) (h : acE ps[j].v ≠ 0) : heldP ps = false := by
  refine Bool.eq_false_iff.2 fun q => h (held_iff.1 q _ (List.getElem_mem hj))
theorem read_codes (l : List UInt8) : acE l = 10 ∨ acE l = 11 ∨ acE l = 8 ∨ acE l = 0 := by
  unfold acE
  split
  · exact .inl rfl
  · split
    · exact .inr (.inl rfl)
    · split
      · exact .inr (.inr (.inl rfl))
      · exact .inr (.inr (.inr rfl))
set_option maxHeartbeats 2000000 in
theorem RHeld_any (F : Nat → Prop) (A : Option Addr) (c n : Nat) (ps : List Pr) (w : World) (hr : Row F w A ps) (hn : n = ps.length) (hc : ps.length ≤ 1000000) :
    Calls Try.prog 46 #[.slice A n c] w fun e w' => e = .returned (.bool (heldP ps)) ∧ Below w.heap.size w w' := by
  subst hn
  obtain ⟨ans, ha⟩ : ∃ ans, heldP ps = ans := ⟨_, rfl⟩
  rw [ha]
  replace ha := hid ha
  go_enter Try.func46, Try.ntmps46
  go_wp2
  go_loopw [3] (fun i wr => ∃ k : Nat, k ≤ ps.length ∧ i = .int .i64 k ∧ heldP (ps.take k) = true ∧ Below w.heap.size w wr) (fun i _ => ps.length - (intOf i).toNat)
  case atStart => exact ⟨0, Nat.zero_le _, rfl, rfl, Below.refl _ _⟩
  case round =>
    obtain ⟨k, hk, rfl, hrel, hbw⟩ := hrel
    by_cases hlt : k < ps.length
    · have hR := hr.bel hbw
      obtain ⟨b, o, hA, r1, A', c', hcell, _, h1, h2, h3⟩ := row_pr hR hlt
      subst hA
      have hS := held_step hlt
      rw [hrel, Bool.true_and] at hS
      have hno := hid (held_no hlt)
      obtain ⟨eb, heb⟩ : ∃ eb, (acE ps[k].v != 0) = eb := ⟨_, rfl⟩
      have hE1 : eb = true → acE ps[k].v ≠ 0 := fun h => by rw [h] at heb; simpa using heb
      have hE2 : eb = false → acE ps[k].v = 0 := fun h => by rw [h] at heb; simpa using heb
      replace hS := hid hS
      replace hrel := hid hrel
      replace hE1 := hid hE1
      replace hE2 := hid hE2
      have hRd := hid h3.rd
      have hc1 := hid (show ps[k].v.length ≤ c' from h1)
      have hRA := hid (fun W (h : Rd W A' ps[k].v) => RAcRead_any A' c' ps[k].v W h h1 h2)
      generalize ps[k].v = v at *
      generalize acE v = ev at *
      generalize acOf v = av at *
      have nb := hid (one_ac av)
      clear h3 hR r1
      go_wp2_with fail
      refine (hRA.out _ hRd.out).mono ?_
      rintro e w2 ⟨rfl, hb⟩
      have W2 := hid (hbw.trans (hb.mono hbw.size))
      have e2 := hid (heap_alloc_new w2 (.cells (acC ac0).toArray 29))
      clear hb hbw hRd hRA
      cases eb
      · go_wp2_with (first
          | (with_reducible refine wpList_alloc_row rfl 29 rfl (acC ac0).toArray zInfoAc ?_)
          | ((with_reducible refine wpList_store_row rfl 29 (.tmp 4) (.tmp 19) rfl w2.heap.size _ rfl rfl 29 (acC ac0).toArray ?_ ?_ ?_ ?_ ?_); exact e2.out; exact sizeAc; rfl; exact nb.out; intro w3 hg3 hb3 hs3; have X3 := hid (xnewP rfl hb3)))
        go_roundw
        case rel => exact ⟨k + 1, by omega, by go_num, by rw [hS.out, hE2.out (by first | trivial | rfl)]; rfl, W2.out.trans (X3.out.mono W2.out.size)⟩
        case measure => simp [intOf]; omega
      · go_wp2_with (first
          | (with_reducible refine wpList_alloc_row rfl 29 rfl (acC ac0).toArray zInfoAc ?_)
          | ((with_reducible refine wpList_store_row rfl 29 (.tmp 4) (.tmp 19) rfl w2.heap.size _ rfl rfl 29 (acC ac0).toArray ?_ ?_ ?_ ?_ ?_); exact e2.out; exact sizeAc; rfl; exact nb.out; intro w3 hg3 hb3 hs3; have X3 := hid (xnewP rfl hb3)))
        go_ret
        exact ⟨ret_b (by rw [← ha.out, hno.out (hE1.out (by first | trivial | rfl))]), W2.out.trans (X3.out.mono W2.out.size)⟩
    · have hkl : k = ps.length := by omega
      subst hkl
      rw [List.take_length] at hrel
      replace hrel := hid hrel
      go_wp2
      go_ret
      exact ⟨ret_b (by rw [← ha.out, hrel.out]), hbw⟩
theorem acC0 (a : Ac) : (acC a).toArray.size = 2 := rfl
set_option maxHeartbeats 2000000 in
theorem RIn_any (F : Nat → Prop) (A : Option Addr) (c n : Nat) (ps : List Pr) (k : Dg) (w : World) (hr : Row F w A ps) (hn : n = ps.length) (hc : ps.length ≤ 1000000) (hs : Srt ps) :
    Calls Try.prog 25 #[.slice A n c, .agg (k.1.map bv).toArray] w fun e w' => e = .returned (.agg (acC (inA ps k)).toArray) ∧ Below w.heap.size w w' := by
  subst hn
  have hu := Try.underlying26
  have hua := Try.underlying29
  have h0 := heap_alloc_new w (.cells (k.1.map bv).toArray 26)
  have b0 := ext_alloc w (.cells (k.1.map bv).toArray 26)
  have h1 := heap_alloc_new (w.alloc (.cells (k.1.map bv).toArray 26)) (.cells (acC ac0).toArray 29)
  have b1 := ext_alloc (w.alloc (.cells (k.1.map bv).toArray 26)) (.cells (acC ac0).toArray 29)
  rw [World.size_alloc] at h1
  have K1 := hid (rangeBel2 b1 (rangeOf h0))
  have W1 := hid (b0.trans (b1.mono b0.size))
  have i1 := hid (sizeDg k)
  have r1 := hid ((hr.bel b0).bel b1)
  replace h1 := hid h1
  have hF := fun W hW => RFind_any F A c ps.length ps k W hW rfl (by omega)
  have hb0 := hid built_ac0
  have n0 := hid (one_ac ac0)
  by_cases hh : hasP ps k = true
  · obtain ⟨j, hj, hf, hk⟩ := fndI_has hh
    rw [hf] at hF
    have hin : inA ps k = acOf ps[j].v := by unfold inA; rw [← hk, getV_mem hs (List.getElem_mem hj)]
    obtain ⟨av, hav⟩ : ∃ a, acOf ps[j].v = a := ⟨_, rfl⟩
    rw [hin, hav]
    replace hav := hid hav
    replace hF := hid hF
    have q1 : decide ((j : Int) < 0) = false := decide_eq_false (by omega)
    clear h0 b0 b1 hr hf hh hin hs
    generalize k.1.map bv = dk at *
    go_enter Try.func25, Try.ntmps25
    go_wp2_with (first
      | (with_reducible refine wpList_alloc_row rfl 29 rfl (acC ac0).toArray zInfoAc ?_)
      | ((with_reducible refine wpList_load_rng rfl 26 (.tmp 3) rfl w.heap.size 0 rfl dk _ ?_ hu rfl i1.out ?_); exact K1.out))
    refine (hF.out _ r1.out).mono ?_
    rintro e w2 ⟨rfl, hb⟩
    have W2 := hid (W1.out.trans (hb.mono W1.out.size))
    have h2 := hid ((hb.block _ (block_lt h1.out)).trans h1.out)
    have r2 := hid (r1.out.bel hb)
    clear hb hF r1 h1 K1
    obtain ⟨b, o, hA, _, A', c', hcell, _, g1, g2, g3⟩ := row_pr r2.out hj
    subst hA
    have hRd := hid g3.rd
    have hRA := fun W (h : Rd W A' ps[j].v) => RAcRead_any A' c' ps[j].v W h g1 g2
    rw [hav.out] at hRA
    replace hRA := hid hRA
    clear g3 r2 hav
    generalize ps[j].v = v at *
    generalize acE v = ev at *
    have nb := hid (one_ac av)
    have iv := hid (show (Try.prog.info? 29).map (·.size) = some (acC av).length from sizeAc)
    go_wp2_with fail
    refine (hRA.out _ hRd.out).mono ?_
    rintro e w3 ⟨rfl, hb⟩
    have W3 := hid (W2.out.trans (hb.mono W2.out.size))
    have h3 := hid ((hb.block _ (block_lt h2.out)).trans h2.out)
    have e3 := hid (heap_alloc_new w3 (.cells (acC ac0).toArray 29))
    have l3 := hid (block_lt h3.out)
    clear hb hRA hRd h2 hcell
    go_wp2_with (first
      | (with_reducible refine wpList_alloc_row rfl 29 rfl (acC ac0).toArray zInfoAc ?_)
      | ((with_reducible refine wpList_store_row rfl 29 (.tmp 6) (.tmp 21) rfl w3.heap.size _ rfl rfl 29 (acC ac0).toArray ?_ ?_ ?_ ?_ ?_); exact e3.out; exact sizeAc; rfl; exact nb.out; intro w4 hgS hbS hsS; have X4 := hid (xnewP rfl hbS); have q4 := hid (rangeOf hgS); have h4 := hid ((X4.out.block _ l3.out).trans h3.out); have W4 := hid (W3.out.trans (X4.out.mono W3.out.size)); clear hgS hbS hsS)
      | ((with_reducible refine wpList_load_rng rfl 29 (.tmp 6) rfl w3.heap.size 0 rfl (acC av) _ ?_ hua rfl iv.out ?_); exact q4.out)
      | ((with_reducible refine wpList_store_row rfl 29 (.tmp 4) (.tmp 23) rfl (w.heap.size + 1) _ rfl rfl 29 (acC ac0).toArray ?_ ?_ ?_ ?_ ?_); exact h4.out; exact sizeAc; rfl; exact nb.out; intro w5 hg5 hb5 hs5))
    refine bodyPost_ret (v := .agg (acC av).toArray) ?_ rfl ⟨rfl, ?_⟩
    · exact results_cell_row Try.results25 _ _ (w.heap.size + 1) 29 _ (0, 0) _ rfl hg5 hua rfl sizeAc
    · exact W4.out.grown hb5 W4.out.size (fun g e => by injection e with e; omega)
  · have hh := Bool.eq_false_iff.2 hh
    rw [fndI_no hh] at hF
    rw [inA_none hh]
    replace hF := hid hF
    clear h0 b0 b1 hr hh hs
    generalize k.1.map bv = dk at *
    go_enter Try.func25, Try.ntmps25
    go_wp2_with (first
      | (with_reducible refine wpList_alloc_row rfl 29 rfl (acC ac0).toArray zInfoAc ?_)
      | ((with_reducible refine wpList_load_rng rfl 26 (.tmp 3) rfl w.heap.size 0 rfl dk _ ?_ hu rfl i1.out ?_); exact K1.out))
    refine (hF.out _ r1.out).mono ?_
    rintro e w2 ⟨rfl, hb⟩
    have W2 := hid (W1.out.trans (hb.mono W1.out.size))
    have h2 := hid ((hb.block _ (block_lt h1.out)).trans h1.out)
    clear hb hF r1 h1 K1
    go_wp2_with (first
      | ((with_reducible refine wpList_built rfl 29 _ rfl (acC ac0).toArray [] ?_ ?_ ?_); exact hb0.out; rfl)
      | ((with_reducible refine wpList_store_row rfl 29 (.tmp 4) (.tmp 13) rfl (w.heap.size + 1) _ rfl rfl 29 (acC ac0).toArray ?_ ?_ ?_ ?_ ?_); exact h2.out; exact sizeAc; rfl; exact n0.out; intro w5 hg5 hb5 hs5))
    refine bodyPost_ret (v := .agg (acC ac0).toArray) ?_ rfl ⟨rfl, ?_⟩
    · exact results_cell_row Try.results25 _ _ (w.heap.size + 1) 29 _ (0, 0) _ rfl hg5 hua rfl sizeAc
    · exact W2.out.grown hb5 W2.out.size (fun g e => by injection e with e; omega)
/-! ### totals -/
def totH (ps : List Pr) : Nat := totP ps / 18446744073709551616
def totL (ps : List Pr) : Nat := totP ps % 18446744073709551616
theorem tot_step {ps : List Pr} {j : Nat} (hj : j < ps.length) : totP (ps.take (j + 1)) = totP (ps.take j) + (acOf ps[j].v).b := by
  rw [List.take_succ_eq_append_getElem hj, tot_app]
  simp [totP]
theorem tot_le : ∀ ps : List Pr, totP ps ≤ ps.length * 18446744073709551615
  | [] => by simp [totP]
  | p :: ps => by
    have h1 := tot_le ps
    have h2 := (acOf_ok p.v).2
    rw [tot_cons, List.length_cons]
    omega
theorem tot_div (t b : Nat) (hb : b < 18446744073709551616) : (t + b) / 18446744073709551616 = if 18446744073709551615 - t % 18446744073709551616 < b then t / 18446744073709551616 + 1 else t / 18446744073709551616 := by
  split <;> omega
theorem tot_mod (t b : Nat) (hb : b < 18446744073709551616) : (t + b) % 18446744073709551616 = (t % 18446744073709551616 + b) % 18446744073709551616 := by omega
set_option maxHeartbeats 2000000 in
theorem RSumA_any (F : Nat → Prop) (A : Option Addr) (c n : Nat) (ps : List Pr) (w : World) (hr : Row F w A ps) (hn : n = ps.length) (hc : ps.length ≤ 1000000) :
    Calls Try.prog 36 #[.slice A n c] w fun e w' => e = .returned (.tuple #[.int .u64 (totH ps : Int), .int .u64 (totL ps : Int)]) ∧ Below w.heap.size w w' := by
  subst hn
  obtain ⟨H, hH⟩ : ∃ H, totH ps = H := ⟨_, rfl⟩
  obtain ⟨L, hL⟩ : ∃ L, totL ps = L := ⟨_, rfl⟩
  rw [hH, hL]
  replace hH := hid hH
  replace hL := hid hL
  go_enter Try.func36, Try.ntmps36
  go_wp2
  go_loopw [4, 5, 6] (fun h l i wr => ∃ k : Nat, k ≤ ps.length ∧ h = .int .u64 (totH (ps.take k) : Int) ∧ l = .int .u64 (totL (ps.take k) : Int) ∧ i = .int .i64 k ∧ Below w.heap.size w wr) (fun _ _ i _ => ps.length - (intOf i).toNat)
  case atStart => exact ⟨0, Nat.zero_le _, by simp [totH, totP], by simp [totL, totP], rfl, Below.refl _ _⟩
  case round =>
    obtain ⟨k, hk, rfl, rfl, rfl, hbw⟩ := hrel
    by_cases hlt : k < ps.length
    · have hR := hr.bel hbw
      obtain ⟨b, o, hA, r1, A', c', hcell, _, h1, h2, h3⟩ := row_pr hR hlt
      subst hA
      have hS := tot_step hlt
      have hT := tot_le (ps.take k)
      rw [List.length_take] at hT
      have hb2 := (acOf_ok ps[k].v).2
      have hD := tot_div (totP (ps.take k)) (acOf ps[k].v).b hb2
      have hM := tot_mod (totP (ps.take k)) (acOf ps[k].v).b hb2
      rw [← hS] at hD hM
      have hD : totH (ps.take (k + 1)) = if 18446744073709551615 - totL (ps.take k) < (acOf ps[k].v).b then totH (ps.take k) + 1 else totH (ps.take k) := hD
      have hM : totL (ps.take (k + 1)) = (totL (ps.take k) + (acOf ps[k].v).b) % 18446744073709551616 := hM
      have hH1 : totH (ps.take k) ≤ 1000000 := by unfold totH; omega
      have hL1 : totL (ps.take k) < 18446744073709551616 := Nat.mod_lt _ (by decide)
      have hRd := hid h3.rd
      have hRA := hid (fun W (h : Rd W A' ps[k].v) => RAcRead_any A' c' ps[k].v W h h1 h2)
      generalize ps[k].v = v at *
      generalize acE v = ev at *
      generalize acOf v = av at *
      generalize totH (ps.take k) = th at *
      generalize totL (ps.take k) = tl at *
      have nb := hid (one_ac av)
      obtain ⟨eb, heb⟩ : ∃ eb, decide ((18446744073709551615 - (tl : Int)) < (av.b : Int)) = eb := ⟨_, rfl⟩
      have hE : (18446744073709551615 - tl < av.b) ↔ eb = true := by rw [← heb, decide_eq_true_eq]; omega
      have w1 : IntKind.u64.wrap (18446744073709551615 - (tl : Int)) = 18446744073709551615 - (tl : Int) := by rw [IntKind.wrap_u64]; omega
      have w2' : IntKind.u64.wrap ((th : Int) + 1) = ((th + 1 : Nat) : Int) := by rw [IntKind.wrap_u64]; omega
      have w3' : IntKind.u64.wrap ((tl : Int) + (av.b : Int)) = (((tl + av.b) % 18446744073709551616 : Nat) : Int) := by rw [IntKind.wrap_u64]; omega
      rw [← hM] at w3'
      replace hD := hid hD
      replace hE := hid hE
      clear h3 hR r1 hS hT hb2 hM hH1 hL1
      go_wp2_with fail
      refine (hRA.out _ hRd.out).mono ?_
      rintro e w2 ⟨rfl, hb⟩
      have W2 := hid (hbw.trans (hb.mono hbw.size))
      have e2 := hid (heap_alloc_new w2 (.cells (acC ac0).toArray 29))
      clear hb hbw hRd hRA
      cases eb
      · have hD2 := hid (show totH (ps.take (k + 1)) = th from by rw [hD.out, if_neg (fun q => by cases hE.out.1 q)])
        clear hD hE
        go_wp2_with (first
          | (with_reducible refine wpList_alloc_row rfl 29 rfl (acC ac0).toArray zInfoAc ?_)
          | ((with_reducible refine wpList_store_row rfl 29 (.tmp 7) (.tmp 22) rfl w2.heap.size _ rfl rfl 29 (acC ac0).toArray ?_ ?_ ?_ ?_ ?_); exact e2.out; exact sizeAc; rfl; exact nb.out; intro w3 hg3 hb3 hs3; have X3 := hid (xnewP rfl hb3); have q1 := rangeOf (l := acC av) hg3 1 _ rfl))
        go_roundw
        case rel => exact ⟨k + 1, by omega, by rw [hD2.out], rfl, by go_num, W2.out.trans (X3.out.mono W2.out.size)⟩
        case measure => simp [intOf]; omega
      · have hD2 := hid (show totH (ps.take (k + 1)) = th + 1 from by rw [hD.out, if_pos (hE.out.2 rfl)])
        clear hD hE
        go_wp2_with (first
          | (with_reducible refine wpList_alloc_row rfl 29 rfl (acC ac0).toArray zInfoAc ?_)
          | ((with_reducible refine wpList_store_row rfl 29 (.tmp 7) (.tmp 22) rfl w2.heap.size _ rfl rfl 29 (acC ac0).toArray ?_ ?_ ?_ ?_ ?_); exact e2.out; exact sizeAc; rfl; exact nb.out; intro w3 hg3 hb3 hs3; have X3 := hid (xnewP rfl hb3); have q1 := rangeOf (l := acC av) hg3 1 _ rfl))
        go_roundw
        case rel => exact ⟨k + 1, by omega, by rw [hD2.out, Int.natCast_add]; rfl, rfl, by go_num, W2.out.trans (X3.out.mono W2.out.size)⟩
        case measure => simp [intOf]; omega
    · have hkl : k = ps.length := by omega
      subst hkl
      rw [List.take_length]
      go_wp2
      go_ret2
      exact ⟨by rw [hH.out, hL.out]; rfl, hbw⟩
end Go.Proofs.Ytcifncmfjlbhjaa
