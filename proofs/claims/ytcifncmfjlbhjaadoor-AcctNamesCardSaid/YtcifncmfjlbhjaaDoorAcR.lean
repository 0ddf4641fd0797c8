/-
  Contracts of the landed package acct: Read.
-/
import Derived.Test.YtcifncmfjlbhjaaDoorAcA
namespace Go.Proofs.YtcifncmfjlbhjaaDoor
open Go.RowKit
set_option linter.unusedVariables false
set_option linter.unusedSimpArgs false
set_option maxRecDepth 100000

theorem take_yes {l : List UInt8} (h : 8 ≤ l.length) : takeE l 8 = 0 := by
  unfold takeE; rw [if_pos (by decide), if_neg (by omega)]
theorem take_no {l : List UInt8} (h : l.length < 8) : takeE l 8 = 10 := by
  unfold takeE; rw [if_pos (by decide), if_pos (by omega)]
set_option maxHeartbeats 4000000 in
theorem PAcRead_any (A : Option Addr) (c : Nat) (l : List UInt8) (w : World) (hr : Rd w A l) (hc : l.length ≤ c) (hm : c ≤ maxLen) (hl47 : l.length ≤ 140737488351232) :
    Calls Tryd.prog 5 #[.slice A l.length c] w fun e w' => e = .returned (.tuple #[.agg (acC (acOf l)).toArray, .int .i64 (acE l)]) ∧ Below w.heap.size w w' := by
  have hu := Tryd.underlying24
  have h0 := hid (heap_alloc_new w (.cells (acC ac0).toArray 24))
  have b0 := hid (ext_alloc w (.cells (acC ac0).toArray 24))
  have hb0 := hid built_ac0
  have n0 := hid (one_ac ac0)
  obtain ⟨o, ho⟩ : ∃ o, l.take 16 = o := ⟨_, rfl⟩
  have hol : o.length = min 16 l.length := by rw [← ho, List.length_take]
  have r0 : Rd (w.alloc (.cells (acC ac0).toArray 24)) A o := by rw [← ho]; exact (hr.take 16).alloc _
  have hmi : min (l.length : Int) 16 = (o.length : Int) := by omega
  have hm2 : c ≤ 9223372036854775807 := by unfold maxLen at hm; omega
  have hcut := fun W => run_upto slotU8k A l.length c o.length (by omega) W
  replace r0 := hid r0
  by_cases h8 : l.length < 8
  · have e1 : acE l = 10 := by unfold acE; rw [if_pos (by omega)]
    have e2 : acOf l = ac0 := acOf_no (by rw [e1]; decide)
    rw [e1, e2]
    have T1 := hid (fun W (h : Rd W A o) => Take_is A o.length c o 8 0 [] 10 W h rfl (by omega) hm2 (by omega) (by unfold takeN; rw [take_no (by omega)]; rfl) (by unfold takeR; rw [take_no (by omega)]; rfl) (take_no (by omega)))
    clear e1 e2 ho hr hc hol
    generalize o.length = k at *
    go_enter Tryd.func5, Tryd.ntmps5
    go_wp2_with (first
      | (with_reducible refine wpList_alloc_row rfl 24 rfl (acC ac0).toArray zInfoAc ?_))
    refine (T1.out _ r0.out).mono ?_
    rintro e w1 ⟨A1, c1, rfl, -, hb⟩
    have h1 := hid ((hb.block _ (block_lt h0.out)).trans h0.out)
    have W1 := hid (b0.out.trans (hb.mono b0.out.size))
    clear hb
    go_wp2_with (first
      | ((with_reducible refine wpList_built rfl 24 _ rfl (acC ac0).toArray [] ?_ ?_ ?_); exact hb0.out; rfl)
      | ((with_reducible refine wpList_store_row rfl 24 (.tmp 2) (.tmp 25) rfl w.heap.size _ rfl rfl 24 (acC ac0).toArray ?_ ?_ ?_ ?_ ?_); exact h1.out; exact sizeAc; rfl; exact n0.out; intro w3 hg3 hb3 hs3))
    exact bodyPost_ret (res_ac rfl _ _ w.heap.size ac0 rfl hg3) rfl ⟨rfl, W1.out.grown hb3 W1.out.size (fun g e => by injection e with e; omega)⟩
  have hN1 : takeN o 8 = num (l.take 8) := by unfold takeN; rw [take_yes (by omega), if_pos rfl, ← ho, List.take_take]; rfl
  have T1 := hid (fun W (h : Rd W A o) => Take_is A o.length c o 8 (num (l.take 8) : Int) (o.drop 8) 0 W h rfl (by omega) hm2 (by omega) (by rw [hN1]) (by unfold takeR; rw [take_yes (by omega)]; rfl) (take_yes (by omega)))
  by_cases h16 : l.length < 16
  · have e1 : acE l = 10 := by unfold acE; rw [if_pos (by omega)]
    have e2 : acOf l = ac0 := acOf_no (by rw [e1]; decide)
    rw [e1, e2]
    have hd : (o.drop 8).length < 8 := by rw [List.length_drop]; omega
    have T2f := hid (fun A1 c1 W (h : Rd W A1 (o.drop 8)) (q1 : (o.drop 8).length ≤ c1) (q2 : c1 ≤ maxLen) => Take_is A1 (o.drop 8).length c1 (o.drop 8) 8 0 [] 10 W h rfl q1 (by unfold maxLen at q2; omega) (by omega) (by unfold takeN; rw [take_no hd]; rfl) (by unfold takeR; rw [take_no hd]; rfl) (take_no hd))
    clear e1 e2 ho hr hc hol hN1 hd
    generalize o.drop 8 = y at *
    generalize o.length = k at *
    generalize num (l.take 8) = n1 at *
    go_enter Tryd.func5, Tryd.ntmps5
    go_wp2_with (first
      | (with_reducible refine wpList_alloc_row rfl 24 rfl (acC ac0).toArray zInfoAc ?_))
    refine (T1.out _ r0.out).mono ?_
    rintro e w1 ⟨A1, c1, rfl, o1, hb⟩
    have h1 := hid ((hb.block _ (block_lt h0.out)).trans h0.out)
    have W1 := hid (b0.out.trans (hb.mono b0.out.size))
    have r1 := hid o1.rd
    have k1 := o1.cap
    have T2 := hid (T2f.out A1 c1 w1 r1.out k1.1 k1.2)
    clear hb k1 o1
    go_wp2_with fail
    refine T2.out.mono ?_
    rintro e w2 ⟨A2, c2, rfl, -, hb⟩
    have h2 := hid ((hb.block _ (block_lt h1.out)).trans h1.out)
    have W2 := hid (W1.out.trans (hb.mono W1.out.size))
    clear hb T2
    go_wp2_with (first
      | ((with_reducible refine wpList_built rfl 24 _ rfl (acC ac0).toArray [] ?_ ?_ ?_); exact hb0.out; rfl)
      | ((with_reducible refine wpList_store_row rfl 24 (.tmp 2) (.tmp 35) rfl w.heap.size _ rfl rfl 24 (acC ac0).toArray ?_ ?_ ?_ ?_ ?_); exact h2.out; exact sizeAc; rfl; exact n0.out; intro w3 hg3 hb3 hs3))
    exact bodyPost_ret (res_ac rfl _ _ w.heap.size ac0 rfl hg3) rfl ⟨rfl, W2.out.grown hb3 W2.out.size (fun g e => by injection e with e; omega)⟩
  have hd : o.drop 8 = (l.drop 8).take 8 := by rw [← ho, List.drop_take]
  have hd8 : (o.drop 8).length = 8 := by rw [List.length_drop]; omega
  have hko : o.length = 16 := by omega
  have hN2 : takeN (o.drop 8) 8 = num ((l.drop 8).take 8) := by unfold takeN; rw [take_yes (by omega), if_pos rfl, hd, List.take_take]; rfl
  have T2f := hid (fun A1 c1 W (h : Rd W A1 (o.drop 8)) (q1 : (o.drop 8).length ≤ c1) (q2 : c1 ≤ maxLen) => Take_is A1 (o.drop 8).length c1 (o.drop 8) 8 (num ((l.drop 8).take 8) : Int) ((o.drop 8).drop 8) 0 W h rfl q1 (by unfold maxLen at q2; omega) (by omega) (by rw [hN2]) (by unfold takeR; rw [take_yes (by omega)]; rfl) (take_yes (by omega)))
  have E3 := hid (fun A n c W (hn : n = l.length - 16) => End_is A n c (l.drop 16) (endE (l.drop 16)) W (by rw [List.length_drop, hn]) rfl)
  have hee : endE (l.drop 16) = if 16 < l.length then 11 else 0 := by unfold endE; rw [List.length_drop]; split <;> split <;> omega
  rw [hko] at T1 hmi hcut
  by_cases h17 : 16 < l.length
  · have e1 : acE l = 11 := by unfold acE; rw [if_neg h16, if_pos h17]
    have e2 : acOf l = ac0 := acOf_no (by rw [e1]; decide)
    rw [e1, e2]
    rw [hee, if_pos h17] at E3
    clear e1 e2 ho hr hol hN1 hN2 hd hd8 hee hko
    generalize (o.drop 8).drop 8 = z at *
    generalize o.drop 8 = y at *
    generalize num (l.take 8) = n1 at *
    generalize num ((l.drop 8).take 8) = n2 at *
    go_enter Tryd.func5, Tryd.ntmps5
    go_wp2_with (first
      | (with_reducible refine wpList_alloc_row rfl 24 rfl (acC ac0).toArray zInfoAc ?_))
    refine (T1.out _ r0.out).mono ?_
    rintro e w1 ⟨A1, c1, rfl, o1, hb⟩
    have h1 := hid ((hb.block _ (block_lt h0.out)).trans h0.out)
    have W1 := hid (b0.out.trans (hb.mono b0.out.size))
    have r1 := hid o1.rd
    have k1 := o1.cap
    have T2 := hid (T2f.out A1 c1 w1 r1.out k1.1 k1.2)
    clear hb k1 o1
    go_wp2_with fail
    refine T2.out.mono ?_
    rintro e w2 ⟨A2, c2, rfl, -, hb⟩
    have h2 := hid ((hb.block _ (block_lt h1.out)).trans h1.out)
    have W2 := hid (W1.out.trans (hb.mono W1.out.size))
    clear hb T2
    go_wp2_with fail
    all_goals
      refine (E3.out _ _ _ _ (by omega)).mono ?_
      rintro e w4 ⟨rfl, rfl⟩
      go_wp2_with (first
        | ((with_reducible refine wpList_built rfl 24 _ rfl (acC ac0).toArray [] ?_ ?_ ?_); exact hb0.out; rfl)
        | ((with_reducible refine wpList_store_row rfl 24 (.tmp 2) (.tmp 44) rfl w.heap.size _ rfl rfl 24 (acC ac0).toArray ?_ ?_ ?_ ?_ ?_); exact h2.out; exact sizeAc; rfl; exact n0.out; intro w3 hg3 hb3 hs3))
      exact bodyPost_ret (res_ac rfl _ _ w.heap.size ac0 rfl hg3) rfl ⟨rfl, W2.out.grown hb3 W2.out.size (fun g e => by injection e with e; omega)⟩
  have hl : l.length = 16 := by omega
  rw [hee, if_neg h17] at E3
  have hdl : (l.drop 8).take 8 = l.drop 8 := List.take_of_length_le (by rw [List.length_drop]; omega)
  rw [hdl] at T2f
  obtain ⟨n1, hn1⟩ : ∃ n, num (l.take 8) = n := ⟨_, rfl⟩
  obtain ⟨n2, hn2⟩ : ∃ n, num (l.drop 8) = n := ⟨_, rfl⟩
  have a1 : n1 < 18446744073709551616 := by rw [← hn1]; exact num_lt8 (by rw [List.length_take]; omega)
  have a2 : n2 < 18446744073709551616 := by rw [← hn2]; exact num_lt8 (by rw [List.length_drop]; omega)
  have hE : acE l = if (⟨n1, n2⟩ : Ac) = ac0 then 8 else 0 := by
    unfold acE
    rw [if_neg h16, if_neg h17, hn1, hn2]
    by_cases hz : n1 = 0 ∧ n2 = 0
    · rw [if_pos hz, if_pos (ac_ext hz.1 hz.2)]
    · rw [if_neg hz, if_neg fun q => hz ⟨congrArg (·.n) q, congrArg (·.b) q⟩]
  have hO : acOf l = ⟨n1, n2⟩ := by
    unfold acOf
    rw [hE, hn1, hn2]
    by_cases hz : (⟨n1, n2⟩ : Ac) = ac0
    · rw [if_pos hz, hz]; rfl
    · rw [if_neg hz]; rfl
  rw [hn1] at T1
  rw [hn2] at T2f
  rw [hE, hO]
  obtain ⟨zb, hzb⟩ : ∃ b, decide ((⟨n1, n2⟩ : Ac) = ac0) = b := ⟨_, rfl⟩
  have Z := hid (fun W => PAcZero_is ⟨n1, n2⟩ ⟨a1, a2⟩ zb hzb W)
  have hbl := hid (built_ac n1 n2)
  have nb := hid (one_ac ⟨n1, n2⟩)
  have ia := hid (show (Tryd.prog.info? 24).map (·.size) = some (acC ⟨n1, n2⟩).length from sizeAc)
  have hif : (if (⟨n1, n2⟩ : Ac) = ac0 then (8 : Int) else 0) = if zb = true then 8 else 0 := by
    rw [← hzb]
    simp only [decide_eq_true_eq]
  have hz0 : Hid (zb = true → (⟨n1, n2⟩ : Ac) = ac0) := hid fun h => by rw [h] at hzb; exact of_decide_eq_true hzb
  rw [hif]
  clear ho hr hol hN1 hN2 hd hd8 hee hko hE hO hn1 hn2 hdl hzb hif a1 a2
  generalize (o.drop 8).drop 8 = z at *
  generalize o.drop 8 = y at *
  cases zb
  all_goals
    go_enter Tryd.func5, Tryd.ntmps5
    go_wp2_with (first
      | (with_reducible refine wpList_alloc_row rfl 24 rfl (acC ac0).toArray zInfoAc ?_))
    refine (T1.out _ r0.out).mono ?_
    rintro e w1 ⟨A1, c1, rfl, o1, hb⟩
    have h1 := hid ((hb.block _ (block_lt h0.out)).trans h0.out)
    have W1 := hid (b0.out.trans (hb.mono b0.out.size))
    have r1 := hid o1.rd
    have k1 := o1.cap
    have T2 := hid (T2f.out A1 c1 w1 r1.out k1.1 k1.2)
    clear hb k1 o1
    go_wp2_with fail
    refine T2.out.mono ?_
    rintro e w2 ⟨A2, c2, rfl, -, hb⟩
    have h2 := hid ((hb.block _ (block_lt h1.out)).trans h1.out)
    have W2 := hid (W1.out.trans (hb.mono W1.out.size))
    clear hb T2
    go_wp2_with fail
    all_goals
      refine (E3.out _ _ _ _ (by omega)).mono ?_
      rintro e w4 ⟨rfl, rfl⟩
      have e2 := hid (heap_alloc_new w2 (.cells (acC ac0).toArray 24))
      go_wp2_with (first
        | ((with_reducible refine wpList_built rfl 24 _ rfl (acC ⟨n1, n2⟩).toArray [(0, .int .u64 (n1 : Int)), (1, .int .u64 (n2 : Int))] ?_ ?_ ?_); exact hbl.out; rfl)
        | (with_reducible refine wpList_alloc_row rfl 24 rfl (acC ac0).toArray zInfoAc ?_)
        | ((with_reducible refine wpList_store_row rfl 24 (.tmp 11) (.tmp 48) rfl w2.heap.size _ rfl rfl 24 (acC ac0).toArray ?_ ?_ ?_ ?_ ?_); exact e2.out; exact sizeAc; rfl; exact nb.out; intro w5 hgS hbS hsS; have X5 := hid (xnewP rfl hbS); have q5 := hid (rangeOf (l := acC ⟨n1, n2⟩) hgS); have h5 := hid ((X5.out.block _ (block_lt h2.out)).trans h2.out); have W5 := hid (W2.out.trans (X5.out.mono W2.out.size)); clear hgS hbS hsS)
        | ((with_reducible refine wpList_load_rng rfl 24 (.tmp 11) rfl w2.heap.size 0 rfl (acC ⟨n1, n2⟩) _ ?_ hu rfl ia.out ?_); exact q5.out))
      refine (Z.out _).mono ?_
      rintro e w6 ⟨rfl, hb⟩
      have h6 := hid ((hb.block _ (block_lt h5.out)).trans h5.out)
      have q6 := hid (rangeBel2 hb q5.out)
      have W6 := hid (W5.out.trans (hb.mono W5.out.size))
      clear hb
      go_wp2_with (first
        | ((with_reducible refine wpList_built rfl 24 _ rfl (acC ac0).toArray [] ?_ ?_ ?_); exact hb0.out; rfl)
        | ((with_reducible refine wpList_load_rng rfl 24 (.tmp 11) rfl w2.heap.size 0 rfl (acC ⟨n1, n2⟩) _ ?_ hu rfl ia.out ?_); exact q6.out)
        | ((with_reducible refine wpList_store_row rfl 24 (.tmp 2) (.tmp 51) rfl w.heap.size _ rfl rfl 24 (acC ac0).toArray ?_ ?_ ?_ ?_ ?_); exact h6.out; exact sizeAc; rfl; exact n0.out; intro w3 hg3 hb3 hs3)
        | ((with_reducible refine wpList_store_row rfl 24 (.tmp 2) (.tmp 52) rfl w.heap.size _ rfl rfl 24 (acC ac0).toArray ?_ ?_ ?_ ?_ ?_); exact h6.out; exact sizeAc; rfl; exact nb.out; intro w3 hg3 hb3 hs3))
      first
        | exact bodyPost_ret (res_ac rfl _ _ w.heap.size ⟨n1, n2⟩ rfl hg3) rfl ⟨rfl, W6.out.grown hb3 W6.out.size (fun g e => by injection e with e; omega)⟩
        | (rw [hz0.out (by first | trivial | rfl)]; exact bodyPost_ret (res_ac rfl _ _ w.heap.size ac0 rfl hg3) rfl ⟨rfl, W6.out.grown hb3 W6.out.size (fun g e => by injection e with e; omega)⟩)
end Go.Proofs.YtcifncmfjlbhjaaDoor
