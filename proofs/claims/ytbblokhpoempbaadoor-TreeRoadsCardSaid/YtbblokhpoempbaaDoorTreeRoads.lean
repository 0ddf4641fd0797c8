/-
  The Go function TreeRoads returns true: where a key's road ends, and its sides, or the error, are the document's: any tree and key; its arguments read afterwards as before.
  Conditions: none. The frame around the walk was written by program (proof-skeleton.mjs).
-/
import Derived.Test.YtbblokhpoempbaaDoorRows
import Derived.Test.YtbblokhpoempbaaDoorDoor
import Derived.WalkKit
import Derived.ProofKit
import Derived.OpenShut
import Derived.ShutString
import Derived.ChangeOld
import Derived.Below
import Derived.Test.YtbblokhpoempbaaDoorRef06h
import Derived.Test.YtbblokhpoempbaaDoorRef06e
import Derived.Test.YtbblokhpoempbaaDoorRef06f
import Derived.Test.YtbblokhpoempbaaDoorTreeB
namespace Go.Proofs.YtbblokhpoempbaaDoor.treeRoads
open Go.ChangeShapes Go.WideShapes Go.ChangeAt Go.RowKit
open Go.ChangeMaps (open_string shut_string)
set_option linter.unusedVariables false

theorem own : ownKnob Tryd.prog.godebug = none := by kernel_rfl
theorem laidOut : laidOutB Tryd.prog = true := by kernel_rfl

/-- WHAT THE WALK IS TOLD OF A SLICE OF INTEGERS THAT CAME IN: it is nil; or it leads to a row of 'cap' cells, the numbers 'zs' (the first 'len' are its elements, the rest its spare room), each fitting its kind. -/
def IsRow (k : IntKind) (w : World) (a : Option Addr) (len cap : Nat) (zs : List Int) : Prop :=
  (a = none ∧ len = 0 ∧ cap = 0 ∧ zs = []) ∨
  ∃ x, a = some x ∧ len ≤ cap ∧ cap ≤ maxLen ∧ zs.length = cap ∧ (∀ i, i < zs.length → w.cell? (x.add i) = some (.int k (zs.getD i 0))) ∧ ∀ n ∈ zs, (Lit.int k n).wf = true

/-! ### the walk -/
open Go.Proofs.YtbblokhpoempbaaDoor
theorem grownDrew {w w' : World} {r : Option Nat} (h : w.grownBy w' r) : w.grownBy w'.drew r := ⟨h.os, h.tape, h.output, h.size, h.block⟩
set_option maxRecDepth 100000 in
set_option maxHeartbeats 4000000 in
theorem walk (x0 : Tr) (vs0 : List Value) (l1 : List UInt8) (w : World) (w0 : Enc.rep (fun b => b < w.heap.size) w x0 vs0) (w1 : l1.length = 32) (hT : Tab w) :
    Calls Tryd.prog 10 #[.agg vs0.toArray, .agg (l1.map bv).toArray] w fun e w' => e = .returned (.bool true) ∧ Below w.heap.size w w' := by
  obtain ⟨A0, c0, rfl, hc0, hm0, hr, hI⟩ := rep_tr w0
  obtain ⟨ns, root⟩ := x0
  obtain ⟨k, rfl⟩ : ∃ k : Dg, l1 = k.1 := ⟨⟨l1, w1⟩, rfl⟩
  dsimp only at *
  have hcm : ns.length ≤ 9223372036854775807 := by unfold maxLen at hm0; omega
  obtain ⟨T0, k0, B0⟩ := boxesTD w A0 ns.length c0 root k 49 23
  have hu := Tryd.underlying23
  have hut := Tryd.underlying49
  have hun := Tryd.underlying55
  have hi := hid (sizeDgT k)
  have hiT := hid (show (Tryd.prog.info? 49).map (·.size) = some ([Value.slice A0 ns.length c0, .int .i64 root]).length from sizeTr)
  have r0 := hid (hr.bel B0)
  have hT0 := hid (hT.bel B0 hT.low)
  have hlow := hid hT.low
  obtain ⟨gb, hgb⟩ : ∃ gb, greatT ns 600 = gb := ⟨_, rfl⟩
  have hGr := fun W hW => RGreatT_any (fun b => b < w.heap.size) A0 c0 600 ns root W hW hcm
  rw [hgb] at hGr
  replace hGr := hid hGr
  replace hgb := hid hgb
  clear hr hT w0 w1 hI
  generalize hdk : k.1.map bv = dk at *
  replace hdk := hid hdk
  go_enter Tryd.func10, Tryd.ntmps10
  go_wp2_with (first
    | ((with_reducible refine wpList_load_rng rfl 49 (.tmp 2) rfl w.heap.size 0 rfl [Value.slice A0 ns.length c0, .int .i64 root] _ ?_ hut rfl hiT.out ?_); exact T0.all))
  generalize (w.alloc (.cells #[.slice A0 ns.length c0, .int .i64 root] 49)).alloc (.cells dk.toArray 23) = w0 at *
  refine (hGr.out _ r0.out).mono ?_
  rintro e w1 ⟨rfl, hb⟩
  have T1 := T0.bel hb
  have k1 := rangeBel2 hb k0
  have r1 := hid (r0.out.bel hb)
  have hT1 := hid (hT0.out.bel hb (Nat.lt_of_lt_of_le hlow.out B0.size))
  have W1 := hid (B0.trans (hb.mono B0.size))
  clear T0 k0 r0 hT0 hb B0 hGr
  cases gb with
  | true =>
    go_wp2
    go_ret
    exact ⟨rfl, W1.out⟩
  | false =>
    obtain ⟨hlen, hvs⟩ := greatT_no hgb.out
    have hvs2 : ∀ x ∈ ns, x.v.length ≤ 1000000 := fun x hx => Nat.le_trans (hvs x hx) (by decide)
    clear hgb
    have hTw := fun W hW => RTwinT_any (fun b => b < w.heap.size) A0 c0 ns root W hW (by omega) hvs2
    have hPR := fun F A c W hW hTW => PRoad_any F A c ns root k W hW (by omega) hTW
    have hRR := fun W hW => RRoad_any (fun b => b < w.heap.size) A0 c0 ns root k W hW (by omega) hvs2
    have hSm := fun F G A D c d W hW hV => RSameT_eq F G A D c d ns root W hW hV (by omega)
    rw [hdk.out] at hPR hRR
    have hxv : (endN ⟨ns, root⟩ k).v.length ≤ 1000000 := by
      unfold endN
      split
      · split
        · simp [nd0]
        · unfold ndAt
          rw [List.getD_eq_getElem?_getD]
          cases hq : ns[(wayP ns k 256 root).1.toNat - 1]? with
          | none => simp [nd0]
          | some y => exact hvs2 y (List.mem_of_getElem? hq)
      · simp [nd0]
    generalize (if mayT ⟨ns, root⟩ = true then (0 : Int) else 8) = z at *
    generalize endN ⟨ns, root⟩ k = x at *
    generalize sidesM ⟨ns, root⟩ k = L at *
    replace hTw := hid hTw
    replace hPR := hid hPR
    replace hRR := hid hRR
    replace hSm := hid hSm
    replace hvs := trivial
    replace hvs2 := trivial
    go_wp2_with (first
      | ((with_reducible refine wpList_load_rng rfl 49 (.tmp 2) rfl w.heap.size 0 rfl [Value.slice A0 ns.length c0, .int .i64 root] _ ?_ hut rfl hiT.out ?_); exact T1.all))
    refine (hTw.out _ r1.out).mono ?_
    rintro e w2 ⟨A4, c4, rfl, ho4, hb⟩
    have T2 := T1.bel hb
    have k2 := rangeBel2 hb k1
    have r2 := hid (r1.out.bel hb)
    have hT2 := hid (hT1.out.bel hb (Nat.lt_of_lt_of_le hlow.out W1.out.size))
    have W2 := hid (W1.out.trans (hb.mono W1.out.size))
    have o2 := hid ((OwnR.row ho4).mono (G := fun b => b < w2.heap.size) fun b _ h => h)
    have e2 := hid (heap_alloc_new w2 (.cells zTrC 49))
    have hiO := hid (show (Tryd.prog.info? 49).map (·.size) = some ([Value.slice A4 ns.length c4, .int .i64 root]).length from sizeTr)
    clear T1 k1 r1 hT1 hb ho4 hTw
    go_wp2_with (first
      | (with_reducible refine wpList_alloc_row rfl 49 rfl zTrC zInfoTr ?_)
      | ((with_reducible refine wpList_store_row rfl 49 (.tmp 5) (.tmp 17) rfl _ _ rfl rfl 49 zTrC ?_ ?_ ?_ ?_ ?_); exact e2.out; exact sizeTr; rfl; exact one_tr A4 ns.length c4 root; intro w3 hg3 hb3 hs3; have X3 := hid (xnew_ rfl hb3); have O3 := BoxT.of (rangeOf (l := [Value.slice A4 ns.length c4, .int .i64 root]) hg3); have T3 := T2.bel X3.out; have k3 := rangeBel2 X3.out k2; have r3 := hid (r2.out.bel X3.out); have o3 := hid (o2.out.bel X3.out); have hT3 := hid (hT2.out.bel X3.out (Nat.lt_of_lt_of_le hlow.out W2.out.size)); have W3 := hid (W2.out.trans (X3.out.mono W2.out.size)); have s3 := hid X3.out.size; have lt3 := hid (block_lt hg3); clear hg3 hb3 hs3)
      | ((with_reducible refine wpList_load_rng rfl 49 (.tmp 5) rfl w2.heap.size 0 rfl [Value.slice A4 ns.length c4, .int .i64 root] _ ?_ hut rfl hiO.out ?_); exact O3.all)
      | ((with_reducible refine wpList_load_rng rfl 23 (.tmp 3) rfl (w.heap.size + 1) 0 rfl dk _ ?_ hu rfl hi.out ?_); exact k3))
    refine (hPR.out _ A4 c4 _ o3.out hT3.out).mono ?_
    rintro e w4 ⟨A5, c5, A6, c6, rfl, ho5, ho6, hb⟩
    have T4 := T3.bel hb
    have O4 := O3.bel hb
    have k4 := rangeBel2 hb k3
    have r4 := hid (r3.out.bel hb)
    have o4 := hid (o3.out.bel hb)
    have W4 := hid (W3.out.trans (hb.mono W3.out.size))
    have b5 := hid ho5.blk
    have q6 := hid ho6.cap
    have x4 := hid ho5
    have L4 := hid ho6.row
    have e4 := hid (heap_alloc_new w4 (.cells zNdC 55))
    have hiN := fun A2 c2 => hid (show (Tryd.prog.info? 55).map (·.size) = some (ndC x A2 c2).length by rw [len_nd]; exact sizeNd)
    have hiS := fun A2 c2 => hid (show (Tryd.prog.info? 55).map (·.size) = some (ndC x A2 c2).toArray.size by rw [List.size_toArray, len_nd]; exact sizeNd)
    have hzs := fun A2 c2 => hid (show zNdC.size = (ndC x A2 c2).toArray.size by rw [zSizeNd, List.size_toArray, len_nd])
    have hone := fun A2 c2 => hid (one_nd x A2 c2)
    have hBN := hid (fun (A2 : Option Addr) (c2 : Nat) (W : World) (g : Nat) (tt : TypeId) (h : W.heap[g]? = some (.cells (ndC x A2 c2).toArray tt (0, 0))) => BoxN.heap h)
    have s4 := hid (Nat.le_trans s3.out hb.size)
    clear T3 O3 k3 r3 o3 W3 hb ho5 ho6 hPR hT3 e2 X3
    go_wp2_with (first
      | (with_reducible refine wpList_alloc_row rfl 55 rfl zNdC zInfoNd ?_)
      | ((with_reducible refine wpList_store_row rfl 55 (.tmp 6) (.tmp 22) rfl _ _ rfl rfl 55 zNdC ?_ ?_ ?_ ?_ ?_); exact e4.out; exact (hiS A5 c5).out; exact (hzs A5 c5).out; exact (hone A5 c5).out; intro w5 hg5 hb5 hs5; have X5 := hid (xnew_ rfl hb5); have N5 := hBN.out _ _ _ _ _ hg5; have T5 := T4.bel X5.out; have O5 := O4.bel X5.out; have k5 := rangeBel2 X5.out k4; have r5 := hid (r4.out.bel X5.out); have o5 := hid (o4.out.bel X5.out); have W5 := hid (W4.out.trans (X5.out.mono W4.out.size)); have x5 := hid (x4.out.bel X5.out); have L5 := hid (L4.out.bel X5.out); clear hg5 hb5 hs5)
      | ((with_reducible refine wpList_load_rng rfl 49 (.tmp 2) rfl w.heap.size 0 rfl [Value.slice A0 ns.length c0, .int .i64 root] _ ?_ hut rfl hiT.out ?_); exact T5.all)
      | ((with_reducible refine wpList_load_rng rfl 23 (.tmp 3) rfl (w.heap.size + 1) 0 rfl dk _ ?_ hu rfl hi.out ?_); exact k5))
    refine (hRR.out _ r5.out).mono ?_
    rintro e w6 ⟨A7, c7, A8, c8, rfl, hr7, hr8, hc8, hb⟩
    have T6 := T5.bel hb
    have O6 := O5.bel hb
    have N6 := N5.bel hb
    have r6 := hid (r5.out.bel hb)
    have o6 := hid (o5.out.bel hb)
    have W6 := hid (W5.out.trans (hb.mono W5.out.size))
    have x6 := hid (x5.out.bel hb)
    have L6 := hid (L5.out.bel hb)
    have e6 := hid (heap_alloc_new w6 (.cells zNdC 55))
    replace hr7 := hid hr7
    replace hr8 := hid hr8
    clear T4 O4 k4 r4 o4 W4 x4 L4 e4 T5 O5 N5 k5 r5 o5 W5 x5 L5 X5 hb hRR
    have hE : ∀ W, (Op.equalIn 10000 23 (.agg (x.k.1.map bv).toArray) (.agg (x.k.1.map bv).toArray)).run Tryd.prog W = .ok true W := fun W => eqd_is x.k x.k true (decide_eq_true rfl) W
    have hik := hid (sizeDgT x.k)
    have f1 : (x.leaf == x.leaf) = true := by simp
    have f2 : (x.l == x.l) = true := by simp
    have f3 : (x.r == x.r) = true := by simp
    have f4 : (z == z) = true := by simp
    go_wp2_with (first
      | (with_reducible refine wpList_alloc_row rfl 55 rfl zNdC zInfoNd ?_)
      | ((with_reducible refine wpList_store_row rfl 55 (.tmp 9) (.tmp 29) rfl _ _ rfl rfl 55 zNdC ?_ ?_ ?_ ?_ ?_); exact e6.out; exact (hiS A7 c7).out; exact (hzs A7 c7).out; exact (hone A7 c7).out; intro w7 hg7 hb7 hs7; have X7 := hid (xnew_ rfl hb7); have M7 := hBN.out _ _ _ _ _ hg7; have N7 := N6.bel X7.out; have T7 := T6.bel X7.out; have O7 := O6.bel X7.out; have r7 := hid (r6.out.bel X7.out); have o7 := hid (o6.out.bel X7.out); have W7 := hid (W6.out.trans (X7.out.mono W6.out.size)); have x7 := hid (x6.out.bel X7.out); have L7 := hid (L6.out.bel X7.out); have p7 := hid (hr7.out.bel X7.out); have P7 := hid (hr8.out.bel X7.out); have u1 := N7.leaf; have u2 := M7.leaf; have u3 := N7.val; have u4 := M7.val; have u5 := N7.l; have u6 := M7.l; have u7 := N7.r; have u8 := M7.r; have n7 := hid N7.key; have m7 := hid M7.key; clear hg7 hb7 hs7)
      | ((with_reducible refine wpList_load_rng ?_ 23 (.tmp 38) rfl w4.heap.size 1 rfl (x.k.1.map bv) _ ?_ hu rfl hik.out ?_); rfl; exact n7.out)
      | ((with_reducible refine wpList_load_rng ?_ 23 (.tmp 40) rfl w6.heap.size 1 rfl (x.k.1.map bv) _ ?_ hu rfl hik.out ?_); rfl; exact m7.out))
    refine (Same_is A5 A7 c5 c7 x.v x.v true _ x7.out.rd p7.out (decide_eq_true rfl)).mono ?_
    rintro e w8 ⟨rfl, rfl⟩
    go_wp2_with fail
    refine (RSameDg_any _ _ A6 A8 c6 c8 L L _ L7.out P7.out (by have := q6.out; unfold maxLen at this; omega) (by have := q6.out; unfold maxLen at this; omega)).mono ?_
    rintro e w9 ⟨rfl, hb⟩
    rw [decide_eq_true rfl]
    have u9 := (N7.bel hb).val
    have T9 := hid (T7.bel hb).all
    have O9 := hid (O7.bel hb).all
    have r9 := hid (r7.out.bel hb)
    have o9 := hid (o7.out.bel hb)
    have W9 := hid (W7.out.trans (hb.mono W7.out.size))
    have x9 := hid (x7.out.bel hb)
    have g6 := hid (N7.bel hb).lt
    clear T6 O6 N6 r6 o6 W6 x6 L6 e6 hr7 hr8 hc8 X7 M7 N7 T7 O7 r7 o7 W7 x7 L7 p7 P7 u1 u2 u3 u4 u5 u6 u7 u8 n7 m7 hb f1 f2 f3 hE
    go_wp2
    go_loopw [13] (fun i wr => ∃ j : Nat, j ≤ x.v.length ∧ i = .int .i64 j ∧ w9.grownBy wr (A5.map (·.block)) ∧ (0 < x.v.length → ∃ (g : Nat) (cs : Array Value), A5 = some ⟨g, 0, none⟩ ∧ wr.heap[g]? = some (.cells cs 5 (0, 0)) ∧ ∀ m, m < x.v.length → ∃ n : Int, cs[m]? = some (.int .u8 n))) (fun i _ => x.v.length - (intOf i).toNat)
    case atStart =>
      refine ⟨0, Nat.zero_le _, rfl, World.grownBy.refl _ _, fun h0 => ?_⟩
      obtain ⟨g, cur, hA, hB, hg, hcs, ht⟩ := x9.out.form h0
      refine ⟨g, cur, hA, hg, fun m hm => ?_⟩
      have h2 : (x.v.map bv)[m]? = some (bv x.v[m]) := by simp [hm]
      rw [← ht, List.getElem?_take, if_pos hm] at h2
      exact ⟨x.v[m].toNat, by simpa [bv] using h2⟩
    case round =>
      obtain ⟨j, hj, rfl, hG, hcs⟩ := hrel
      have y := (World.cell?_of_block (a := ⟨w4.heap.size, 33, none⟩) (hG.block w4.heap.size g6.out (ne_map b5.out))).trans u9
      replace hG := hid hG
      replace hcs := hid hcs
      by_cases hlt : j < x.v.length
      · obtain ⟨g, cs, hA, hg2, hc2⟩ := hcs.out (by omega)
        obtain ⟨n, hn⟩ := hc2 j hlt
        subst hA
        have hc := block_cell hg2 j
        rw [hn] at hc
        have hf := block_frozen hg2 j
        have Hg2 := hid hg2
        have Hc2 := hid hc2
        clear hn hg2 hc2 hcs
        have i1 : (0 : Int) ≤ (j : Int) := by omega
        have i2 : (j : Int) < (x.v.length : Int) := by omega
        have i3 : (j : Int).toNat = j := by omega
        go_wp2
        go_still_tail 10, (by kernel_rfl)
        go_wp2
        go_roundw
        case rel =>
          refine ⟨j + 1, by omega, by go_num, ?_, fun _ => ⟨g, _, rfl, block_set (w := wr.drew) Hg2.out _ _, fun m hm => ?_⟩⟩
          · have hb := hG.out
            refine ⟨hb.os, hb.tape, hb.output, by simpa [World.setCell] using hb.size, fun i hi hne => (Below.heap_setCell _ _ _ i (fun e => hne (by rw [e]; rfl))).trans (hb.block i hi hne)⟩
          · rw [Array.getElem?_setIfInBounds]
            by_cases he : j = m
            · subst he
              obtain ⟨n2, hn2⟩ := Hc2.out j hlt
              have hsz : j < cs.size := (Array.getElem?_eq_some_iff.1 hn2).1
              exact ⟨_, by rw [if_pos rfl, if_pos hsz]⟩
            · rw [if_neg he]
              exact Hc2.out m hm
        case measure => simp [intOf]; omega
      · obtain rfl : j = x.v.length := by omega
        have ne9 : ∀ b, b < w3.heap.size → some b ≠ A5.map (·.block) := fun b hb e => by
          rcases A5 with _ | a
          · cases e
          · have h1 := (b5.out a rfl).1
            have e2 : b = a.block := Option.some.inj e
            omega
        have T10 := hid (rangeAt_kept T9.out (w' := wr) (fun hl => hG.out.block _ hl (ne9 _ (by have := W2.out.size; have := lt3.out; omega))))
        have O10 := hid (rangeAt_kept O9.out (w' := wr) (fun hl => hG.out.block _ hl (ne9 _ lt3.out)))
        have r10 := hid (r9.out.kept (w' := wr) (fun b hb hl => hG.out.block b hl (ne9 b (by have := W2.out.size; have := s3.out; omega))) hG.out.size)
        have o10 := hid (o9.out.kept (w' := wr) (fun b hb hl => hG.out.block b hl (ne9 b (by have := s3.out; omega))) hG.out.size)
        have W10 := hid (W9.out.grown hG.out W9.out.size (fun g e => by
          rcases A5 with _ | a
          · cases e
          · have h1 := (b5.out a rfl).1
            have e2 : _ = _ := Option.some.inj e
            dsimp only at e2
            have := W2.out.size; have := s3.out; omega))
        clear T9 O9 r9 o9 W9 hG hcs x9
        go_wp2_with (first
          | ((with_reducible refine wpList_load_rng ?_ 49 (.tmp 5) rfl w2.heap.size 0 rfl [Value.slice A4 ns.length c4, .int .i64 root] _ ?_ hut rfl hiO.out ?_); rfl; exact O10.out)
          | ((with_reducible refine wpList_load_rng ?_ 49 (.tmp 2) rfl w.heap.size 0 rfl [Value.slice A0 ns.length c0, .int .i64 root] _ ?_ hut rfl hiT.out ?_); rfl; exact T10.out))
        refine (hSm.out _ _ A4 A0 c4 c0 _ o10.out r10.out).mono ?_
        rintro e w11 ⟨rfl, hb⟩
        go_wp2
        go_ret
        exact ⟨rfl, W10.out.trans (hb.mono W10.out.size)⟩

/-! ### WHAT THE WALK GIVES, FOR EVERY ARGUMENT AND EVERY WORLD THAT HOLDS THE TABLE -/
set_option maxRecDepth 100000 in
theorem contract (H : Type) (enc : TypeId × Value → H) (W : World) (base : Nat) (args : Array Value) (ds gs : List (DataW H)) (before : List MemPlace)
    (hval0 : ∀ (j : Nat) t v, Tryd.f10.params[j]? = some t → args[j]? = some v → Value.okWide Tryd.prog W .any base t v)
    (hW : DataW.Whole enc Tryd.prog Tryd.f10.params.toList Rows.treeRoadsSpec.vars false W args.toList ds gs before) (hL : laidMetH Tryd.prog Rows.treeRoadsRow.laid W) :
    Calls Tryd.prog 10 args W fun e W' => ∃ v, e = .returned v ∧ Rows.treeRoadsSpec.post enc Tryd.prog Tryd.f10 false true false false W args v W' := by
  have hval : ∀ (j : Nat) t v, Tryd.f10.params[j]? = some t → args[j]? = some v → Value.okWide Tryd.prog W .any base t v := hval0
  have hW' := hW
  obtain ⟨p, q, hA0, hV, rfl, hfz, hnd⟩ := hW
  have hA : DataW.TrodAll enc Tryd.prog W 0 (fun _ => true) true Tryd.f10.params.toList args.toList ds p := hA0
  rw [Tryd.params10] at hA hval
  obtain ⟨v0, vs0, d0, ds0, p0, q0, hargs, rfl, rfl, h0, r0⟩ := trodAll_cons hA
  obtain ⟨v1, vs1, d1, ds1, p1, q1, rfl, rfl, rfl, h1, r1⟩ := trodAll_cons r0
  obtain ⟨rfl, rfl, rfl⟩ := trodAll_nil r1
  obtain rfl : args = #[v0, v1] := by cases args; simp_all
  obtain ⟨rfl, rfl⟩ := trodVars_none hV
  have k0 := h0
  have lt0 : ∀ x ∈ p0, x.block < W.heap.size := by obtain ⟨m, hm⟩ := k0; exact DataW.trod_lt m _ _ _ hm
  obtain ⟨x0, vs0, rfl, w0⟩ := open_struct opensTr Tryd.underlying49 (hval 0 49 v0 rfl rfl) h0
  have k1 := h1
  have lt1 : ∀ x ∈ p1, x.block < W.heap.size := by obtain ⟨m, hm⟩ := k1; exact DataW.trod_lt m _ _ _ hm
  obtain ⟨l1, w1, rfl⟩ := open_dig Tryd.underlying23 Tryd.underlying5 cellsByte cellsDig (hval 1 23 v1 rfl rfl) h1
  clear hA0 hval0
  refine (walk x0 vs0 l1 W w0 w1 (tab_of hL)).mono fun e W' ⟨he, bel⟩ => ?_
  subst he
  exact ⟨_, rfl, _, _, _, [], _, [], hW', trodAll_mk1 (shut_bool Tryd.underlying4 _), (trodAll_cons_mk (Below.trod laidOut (by kernel_rfl) (of_decide_eq_true (by kernel_rfl)) k0 bel lt0) (trodAll_cons_mk (Below.trod laidOut (by kernel_rfl) (of_decide_eq_true (by kernel_rfl)) k1 bel lt1) trodAll_mk0)), rfl, bel.frame _, fun h => by cases h⟩

theorem laid_met (os : Os) : laidMet Tryd.prog Rows.treeRoadsRow.laid ((laidWorld os).forCall (fun _ _ => 0) ⟨#[], #[.agg zTrC, .agg z32], []⟩).memory :=
  laidMet_of_run' 8 (by kernel_rfl) (by kernel_rfl)
theorem reads (os : Os) {H : Type} (enc : TypeId × Value → H) : ∃ places, DataW.whole enc Tryd.prog ((laidWorld os).forCall (fun _ _ => 0) ⟨#[], #[.agg zTrC, .agg z32], []⟩).memory Tryd.f10.params.toList Rows.treeRoadsSpec.vars false (#[.agg zTrC, .agg z32] : Array Value).toList 8 = some ([.agg [.nil, .lit (.int .i64 0)], .agg (List.replicate 32 (.lit (.int .u8 0)))], [], places) :=
  ⟨[], by kernel_rfl⟩
set_option maxRecDepth 100000 in
theorem lifted (os : Os) (started : os.Started) (H : Type) (enc : TypeId × Value → H) (F : Stop.Interp) :
    ReturnsInHanded {} Tryd.checked os 10 .any ((OpenSpec.ofChange Rows.treeRoadsSpec).preRow enc Tryd.prog Tryd.f10 Rows.treeRoadsRow.domain false Rows.treeRoadsRow.laid) (((OpenSpec.ofChange Rows.treeRoadsSpec).at F).post enc Tryd.prog Tryd.f10 false true false false) := by
  obtain ⟨places, hx⟩ := reads os enc
  refine returnsInHanded_of_row (C := Tryd.checked) (s := OpenSpec.ofChange Rows.treeRoadsSpec) own started (by kernel_rfl) Tryd.func10
    (witness_row_at (enc := enc) (C := Tryd.checked) false (laidWorld os) #[.agg zTrC, .agg z32] rfl (by kernel_rfl) (by kernel_rfl) (by kernel_rfl)
      (OpenSpec.preRow_of_cond 8 hx (by kernel_rfl) (fun k hk => by cases hk) (by kernel_rfl) (laid_met os))) ?_
  intro W base args ds gs before hval hW _ _ _ hL _ _
  exact contract H enc W base args ds gs before hval hW hL
theorem said : Rows.TreeRoadsSaid :=
  OpenClaim.holds_of_cond 10 Tryd.f10 rfl rfl rfl rfl rfl rfl rfl ⟨rfl, rfl, rfl, rfl, rfl⟩ rfl rfl rfl rfl rfl (by kernel_rfl) Tryd.func10 (by kernel_rfl)
    (of_decide_eq_true (by kernel_rfl)) (by unfold Func.isWrapper; first | (rw [if_pos (by decide +kernel)]; kernel_rfl) | (rw [if_neg (by decide +kernel)]; exact ⟨rfl, rfl⟩))
    (fun os started H enc _ F => by rw [OpenClaim.pre_eq_preRow]; exact lifted os started H enc F)
set_option maxRecDepth 100000 in
/-- No parameter wants a stand-in; the program's own looks are off: what the card asks. -/
theorem plain (f : FuncId) (fn : Func) (hf : Tryd.pinned.checked.prog.funcNamed "beadroll/beadrolllaw06.TreeRoads" = some f) (hfn : Tryd.pinned.checked.prog.funcs[f]? = some fn) :
    false = Tryd.pinned.checked.prog.looks [] ∧ ∀ (j : Nat) t, fn.params[j]? = some t → Tryd.pinned.checked.prog.wantsStandIn t = false := by
  obtain rfl : f = 10 := Option.some.inj ((show Tryd.prog.funcNamed "beadroll/beadrolllaw06.TreeRoads" = some 10 by kernel_rfl).symm.trans hf) |>.symm
  obtain rfl : fn = Tryd.f10 := (Option.some.inj (Tryd.func10.symm.trans hfn)).symm
  refine ⟨by kernel_rfl, fun j t ht => ?_⟩
  rw [Tryd.params10] at ht
  have hm := Array.mem_of_getElem? ht
  simp only [List.mem_toArray, List.mem_cons, List.not_mem_nil, or_false] at hm
  rcases hm with rfl | rfl
  all_goals first | exact (show Tryd.prog.wantsStandIn 49 = false by kernel_rfl) | exact (show Tryd.prog.wantsStandIn 23 = false by kernel_rfl)
set_option maxRecDepth 100000 in
/-- ████ THE CARD ████ -/
theorem proved : Rows.TreeRoadsCardSaid :=
  Claim7.holds_tied_plain_at .later [] _ _ _ _ said (fun _ h => by cases h) (by kernel_rfl) (fun _ h => by cases h) treeRoads_row_tie rfl ⟨rfl, rfl⟩ (by kernel_rfl) rfl plain (by kernel_rfl)
#print axioms proved
end Go.Proofs.YtbblokhpoempbaaDoor.treeRoads
