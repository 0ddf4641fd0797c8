/-
  Contracts of the landed package acct: Get.
-/
import Derived.Test.YtcifncmfjlbhjaaAcC
import Derived.Test.YtcifncmfjlbhjaaTreeLj
namespace Go.Proofs.Ytcifncmfjlbhjaa
open Go.RowKit
set_option linter.unusedVariables false
set_option linter.unusedSimpArgs false
set_option maxRecDepth 100000

theorem getA_yes {t : Tr} {k : Dg} (hm : mayA t = true) (hh : getTB t k = true) : acE (getTL t k) = 0 ∧ acOf (getTL t k) = getA t k ∧ (getTL t k).length ≤ 100000 := by
  have hm' := hm
  unfold mayA at hm
  simp only [Bool.and_eq_true] at hm
  have hl : getTL t k = getV (allT t) k := by unfold getTL; rw [if_pos hh]
  unfold getTB at hh
  simp only [Bool.and_eq_true] at hh
  obtain ⟨p, hp, rfl⟩ := hasP_mem.1 hh.2
  have hv := getV_mem (all_spec hm.1).1 hp
  rw [hl, hv]
  have hz := held_iff.1 hm.2 p hp
  refine ⟨hz, ?_, by have := acE_len hz; omega⟩
  unfold getA inA
  rw [if_pos hm', hv]
theorem getA_no {t : Tr} {k : Dg} (hm : mayA t = true) (hh : getTB t k = false) : getA t k = ac0 := by
  have hm' := hm
  unfold mayA at hm
  simp only [Bool.and_eq_true] at hm
  unfold getTB at hh
  rw [hm.1, Bool.true_and] at hh
  unfold getA
  rw [if_pos hm']
  exact inA_none hh
set_option maxHeartbeats 4000000 in
theorem PAcGet_any (F : Nat → Prop) (A : Option Addr) (c : Nat) (ns : List Nd) (root : Int) (k : Dg) (w : World) (hr : Row F w A ns) (hc : ns.length ≤ 1000000) :
    Calls Try.prog 8 #[.agg #[.slice A ns.length c, .int .i64 root], .agg (k.1.map bv).toArray] w fun e w' => e = .returned (.tuple #[.agg (acC (getA ⟨ns, root⟩ k)).toArray, .int .i64 (if mayA ⟨ns, root⟩ = true then 0 else 8)]) ∧ Below w.heap.size w w' := by
  have hut := Try.underlying24
  have hu := Try.underlying26
  obtain ⟨T0, K0, W0⟩ := boxesTDp w A ns.length c root k 24 26
  have h2 := heap_alloc_new ((w.alloc (.cells #[.slice A ns.length c, .int .i64 root] 24)).alloc (.cells (k.1.map bv).toArray 26)) (.cells (acC ac0).toArray 29)
  have b2 := ext_alloc ((w.alloc (.cells #[.slice A ns.length c, .int .i64 root] 24)).alloc (.cells (k.1.map bv).toArray 26)) (.cells (acC ac0).toArray 29)
  simp only [World.size_alloc] at h2
  have X0 := hid (rangeBel2 b2 T0.all)
  replace K0 := hid (rangeBel2 b2 K0)
  replace W0 := hid (W0.trans (b2.mono W0.size))
  have jT := hid (show (Try.prog.info? 24).map (·.size) = some ([Value.slice A ns.length c, .int .i64 root]).length from sizeTr)
  have i1 := hid (sizeDg k)
  have r0 := hid (hr.bel W0.out)
  have hb0 := hid built_ac0
  have n0 := hid (one_ac ac0)
  replace h2 := hid h2
  obtain ⟨m, hm⟩ : ∃ m, mayA ⟨ns, root⟩ = m := ⟨_, rfl⟩
  obtain ⟨hb, hhb⟩ : ∃ hb, getTB ⟨ns, root⟩ k = hb := ⟨_, rfl⟩
  have hC := fun W hW => PAcCheck_any F A c ns root W hW hc
  have hG := fun W hW => PGetT_any F A c ns root k W hW hc
  obtain ⟨csT, hcs⟩ : ∃ cs, [Value.slice A ns.length c, .int .i64 root] = cs := ⟨_, rfl⟩
  have hcsA : #[Value.slice A ns.length c, .int .i64 root] = csT.toArray := by rw [← hcs]
  rw [hm] at hC ⊢
  rw [hhb] at hG
  have hno : m = false → getA ⟨ns, root⟩ k = ac0 := fun h => by unfold getA; rw [hm, h]; rfl
  have hyes : m = true → hb = true → acE (getTL ⟨ns, root⟩ k) = 0 ∧ acOf (getTL ⟨ns, root⟩ k) = getA ⟨ns, root⟩ k ∧ (getTL ⟨ns, root⟩ k).length ≤ 100000 := fun h h' => getA_yes (hm.trans h) (hhb.trans h')
  have hno2 : m = true → hb = false → getA ⟨ns, root⟩ k = ac0 := fun h h' => getA_no (hm.trans h) (hhb.trans h')
  generalize getA ⟨ns, root⟩ k = av at *
  generalize getTL ⟨ns, root⟩ k = v at *
  rw [hcsA] at W0 X0 r0 hC hG K0 h2 ⊢
  rw [hcs] at X0 jT
  replace hC := hid hC
  replace hG := hid hG
  clear T0 hcs hcsA hm hhb b2
  have nb := hid (one_ac av)
  generalize k.1.map bv = dk at *
  cases m with
  | false =>
    obtain rfl := hno rfl
    simp only [Bool.false_eq_true, if_false]
    simp only [Bool.false_eq_true, if_false] at hC
    clear hno hyes hno2
    go_enter Try.func8, Try.ntmps8
    go_wp2_with (first
      | (with_reducible refine wpList_alloc_row rfl 29 rfl (acC ac0).toArray zInfoAc ?_)
      | ((with_reducible refine wpList_load_rng ?_ 24 (.tmp 2) rfl w.heap.size 0 rfl csT _ ?_ hut rfl jT.out ?_); rfl; exact X0.out))
    refine (hC.out _ r0.out).mono ?_
    rintro e w1 ⟨rfl, hb⟩
    have W1 := hid (W0.out.trans (hb.mono W0.out.size))
    have h3 := hid ((hb.block _ (block_lt h2.out)).trans h2.out)
    clear hb
    go_wp2_with (first
      | ((with_reducible refine wpList_built rfl 29 _ rfl (acC ac0).toArray [] ?_ ?_ ?_); exact hb0.out; rfl)
      | ((with_reducible refine wpList_store_row rfl 29 (.tmp 4) (.tmp 13) rfl (w.heap.size + 1 + 1) _ rfl rfl 29 (acC ac0).toArray ?_ ?_ ?_ ?_ ?_); exact h3.out; exact sizeAc; rfl; exact n0.out; intro w5 hg5 hb5 hs5))
    exact bodyPost_ret (res_ac rfl _ _ (w.heap.size + 1 + 1) ac0 rfl hg5) rfl ⟨rfl, W1.out.grown hb5 W1.out.size (fun g e => by injection e with e; omega)⟩
  | true =>
    simp only [if_true] at hC ⊢
    have yes := hid (hyes rfl)
    have no := hid (hno2 rfl)
    clear hno hyes hno2
    go_enter Try.func8, Try.ntmps8
    go_wp2_with (first
      | (with_reducible refine wpList_alloc_row rfl 29 rfl (acC ac0).toArray zInfoAc ?_)
      | ((with_reducible refine wpList_load_rng ?_ 24 (.tmp 2) rfl w.heap.size 0 rfl csT _ ?_ hut rfl jT.out ?_); rfl; exact X0.out))
    refine (hC.out _ r0.out).mono ?_
    rintro e w1 ⟨rfl, hB⟩
    have W1 := hid (W0.out.trans (hB.mono W0.out.size))
    have h3 := hid ((hB.block _ (block_lt h2.out)).trans h2.out)
    have X1 := hid (rangeBel2 hB X0.out)
    have K1 := hid (rangeBel2 hB K0.out)
    have r1 := hid (r0.out.bel hB)
    clear hB X0 K0 r0 h2
    go_wp2_with (first
      | ((with_reducible refine wpList_load_rng ?_ 24 (.tmp 2) rfl w.heap.size 0 rfl csT _ ?_ hut rfl jT.out ?_); rfl; exact X1.out)
      | ((with_reducible refine wpList_load_rng rfl 26 (.tmp 3) rfl (w.heap.size + 1) 0 rfl dk _ ?_ hu rfl i1.out ?_); exact K1.out))
    refine (hG.out _ r1.out).mono ?_
    rintro e w2 ⟨A1, c1, rfl, o1, hB⟩
    have W2 := hid (W1.out.trans (hB.mono W1.out.size))
    have h4 := hid ((hB.block _ (block_lt h3.out)).trans h3.out)
    have v1 := hid o1.rd
    have v2 := hid o1.cap
    clear hB X1 K1 r1 h3 o1
    cases hb with
    | false =>
      obtain rfl := no.out (by first | trivial | rfl)
      go_wp2_with (first
        | ((with_reducible refine wpList_built rfl 29 _ rfl (acC ac0).toArray [] ?_ ?_ ?_); exact hb0.out; rfl)
        | ((with_reducible refine wpList_store_row rfl 29 (.tmp 4) (.tmp 23) rfl (w.heap.size + 1 + 1) _ rfl rfl 29 (acC ac0).toArray ?_ ?_ ?_ ?_ ?_); exact h4.out; exact sizeAc; rfl; exact n0.out; intro w5 hg5 hb5 hs5))
      exact bodyPost_ret (res_ac rfl _ _ (w.heap.size + 1 + 1) ac0 rfl hg5) rfl ⟨rfl, W2.out.grown hb5 W2.out.size (fun g e => by injection e with e; omega)⟩
    | true =>
      obtain ⟨y1, y2, y3⟩ := yes.out (by first | trivial | rfl)
      have hR := PAcRead_any A1 c1 v w2 v1.out v2.out.1 v2.out.2 (by omega)
      rw [y1, y2] at hR
      replace hR := hid hR
      clear y1 y2 y3
      go_wp2_with fail
      refine hR.out.mono ?_
      rintro e w3 ⟨rfl, hB⟩
      have W3 := hid (W2.out.trans (hB.mono W2.out.size))
      have h5 := hid ((hB.block _ (block_lt h4.out)).trans h4.out)
      clear hB
      go_wp2_with (first
        | ((with_reducible refine wpList_store_row rfl 29 (.tmp 4) (.tmp 26) rfl (w.heap.size + 1 + 1) _ rfl rfl 29 (acC ac0).toArray ?_ ?_ ?_ ?_ ?_); exact h5.out; exact sizeAc; rfl; exact nb.out; intro w5 hg5 hb5 hs5))
      exact bodyPost_ret (res_ac rfl _ _ (w.heap.size + 1 + 1) av rfl hg5) rfl ⟨rfl, W3.out.grown hb5 W3.out.size (fun g e => by injection e with e; omega)⟩
end Go.Proofs.Ytcifncmfjlbhjaa
