/-
  Contracts of the landed package tree: Check, twinNode.
-/
import Derived.Test.YtminmkmkaoocaaaTreeLc
import Derived.Test.YtminmkmkaoocaaaBits
namespace Go.Proofs.Ytminmkmkaoocaaa
open Go.RowKit
set_option linter.unusedVariables false
set_option linter.unusedSimpArgs false
set_option maxRecDepth 100000

theorem built_trie (A : Option Addr) (n c : Nat) (root : Int) : Try.prog.built 60 [(0, .agg #[.slice A n c, .int .i64 root])] = some #[Value.slice A n c, .int .i64 root] := by kernel_rfl
theorem nd_set (x : Nd) (A A2 : Option Addr) (c c2 : Nat) : (ndC x A c).toArray.setIfInBounds 33 (.slice A2 x.v.length c2) = (ndC x A2 c2).toArray := by
  apply Array.ext'
  have hl : (x.k.1.map bv).length = 32 := by rw [List.length_map]; exact x.k.2
  simp only [Array.toList_setIfInBounds, ndC, List.cons_append, List.nil_append, List.set_cons_succ]
  rw [List.set_append_right _ _ (by omega), hl]
  rfl
set_option maxHeartbeats 1000000 in
theorem PTCheck_any (F : Nat → Prop) (A : Option Addr) (c : Nat) (ns : List Nd) (root : Int) (w : World) (hr : Row F w A ns) (hc : ns.length ≤ 9223372036854775807) :
    Calls Try.prog 25 #[.agg #[.slice A ns.length c, .int .i64 root]] w fun e w' => e = .returned (.int .i64 (if mayT ⟨ns, root⟩ = true then 0 else 8)) ∧ Below w.heap.size w w' := by
  obtain ⟨ans, ha⟩ : ∃ ans : Int, (if mayT ⟨ns, root⟩ = true then 0 else 8) = ans := ⟨_, rfl⟩
  rw [ha]
  have no : ¬ (ns.length ≤ 262144 ∧ 0 ≤ root ∧ root ≤ ns.length ∧ Ones ns ∧ 0 ≤ rgt ns 256 root z0) → 8 = ans := fun h => by rw [← ha, if_neg (fun q => h (mayT_iff.1 q))]
  have yes : ns.length ≤ 262144 → 0 ≤ root → root ≤ ns.length → Ones ns → (if decide (0 ≤ rgt ns 256 root z0) = true then 0 else 8) = ans := fun h1 h2 h3 h4 => by
    rw [← ha]
    unfold mayT
    simp [h1, h2, h3, h4]
  replace no := hid no
  replace yes := hid yes
  clear ha
  have T0 := BoxT.new w A ns.length c root 24
  have W0 := ext_alloc w (.cells #[.slice A ns.length c, .int .i64 root] 24)
  have hr0 := hr.bel W0
  have y0 := T0.ns
  have y1 := T0.rt
  have hut := Try.underlying24
  have hun := Try.underlying54
  have hiT := hid (show (Try.prog.info? 24).map (·.size) = some ([Value.slice A ns.length c, .int .i64 root]).length from sizeTr)
  have hz := hid built_dg0
  have hbt := hid (built_trie A ns.length c root)
  by_cases h1 : 262144 < ns.length
  · have no := hid (no.out (by omega))
    go_enter Try.func25, Try.ntmps25
    go_wp2
    go_ret
    exact ⟨ret_iP no.out, W0⟩
  by_cases h2 : root < 0
  · have no := hid (no.out (by omega))
    go_enter Try.func25, Try.ntmps25
    go_wp2
    go_ret
    exact ⟨ret_iP no.out, W0⟩
  by_cases h3 : (ns.length : Int) < root
  · have no := hid (no.out (by omega))
    go_enter Try.func25, Try.ntmps25
    go_wp2
    go_ret
    exact ⟨ret_iP no.out, W0⟩
  have q1 : decide ((262144 : Int) < (ns.length : Int)) = false := decide_eq_false (by omega)
  have q2 : decide (root < 0) = false := decide_eq_false (by omega)
  have q3 : decide ((ns.length : Int) < root) = false := decide_eq_false (by omega)
  clear hr
  go_enter Try.func25, Try.ntmps25
  go_wp2
  generalize w.alloc (.cells #[.slice A ns.length c, .int .i64 root] 24) = w0 at *
  go_loopw [25] (fun i wr => ∃ k : Nat, k ≤ ns.length ∧ i = .int .i64 k ∧ (∀ i (h : i < ns.length), i < k → oneN ns[i] i = true) ∧ Below w0.heap.size w0 wr) (fun i _ => ns.length - (intOf i).toNat)
  case atStart => exact ⟨0, Nat.zero_le _, rfl, fun i _ hi => absurd hi (by omega), Below.refl _ _⟩
  case round =>
    obtain ⟨k, hk, rfl, hrel, hbw⟩ := hrel
    have T1 := T0.bel hbw
    have y2 := T1.ns
    have y3 := T1.rt
    have hr1 := hr0.bel hbw
    by_cases hlt : k < ns.length
    · obtain ⟨q, o, hAe, A', c', hR, hv1, hv2, hv3, hI1, hI2⟩ := row_nd hr1 hlt
      subst hAe
      have hiN := hid (show (Try.prog.info? 54).map (·.size) = some (ndC ns[k] A' c').length by rw [len_nd]; exact sizeNd)
      have hiS := hid (show (Try.prog.info? 54).map (·.size) = some (ndC ns[k] A' c').toArray.size by rw [List.size_toArray, len_nd]; exact sizeNd)
      have hzs := hid (show zNdC.size = (ndC ns[k] A' c').toArray.size by rw [zSizeNd, List.size_toArray, len_nd])
      have hone := hid (one_nd ns[k] A' c')
      have hz9 := hid (heap_alloc_new wr (.cells zNdC 54))
      have hO := fun W (hW : Row F W A' ns[k].v) => PMayStand_any F ns[k] A' c' k W hW hv1 hv2 (by omega)
      have hnext : oneN ns[k] k = true → ∀ i (h : i < ns.length), i < k + 1 → oneN ns[i] i = true := fun h i hi hi2 => by
        rcases Nat.lt_or_ge i k with h3 | h3
        · exact hrel i hi h3
        · obtain rfl : i = k := by omega
          exact h
      have hbad : oneN ns[k] k = false → 8 = ans := fun h => no.out fun q => by have := q.2.2.2.1 k hlt; rw [h] at this; cases this
      have hwk : IntKind.i64.wrap ((k : Int) + 1) = k + 1 := by rw [IntKind.wrap_i64]; omega
      generalize oneN ns[k] k = ok at *
      generalize ndC ns[k] A' c' = cs at *
      replace hnext := hid hnext
      replace hbad := hid hbad
      replace hrel := trivial
      replace hR := hid hR
      replace hv3 := hid hv3
      go_wp2_with (first
        | (with_reducible refine wpList_alloc_row rfl 54 rfl zNdC zInfoNd ?_)
        | ((with_reducible refine wpList_load_rng rfl 54 (.tmp 28) rfl q (o + k * 36) rfl cs _ ?_ hun rfl hiN.out ?_); exact hR.out)
        | ((with_reducible refine wpList_store_row rfl 54 (.tmp 4) (.tmp 29) rfl _ _ rfl rfl 54 zNdC ?_ ?_ ?_ ?_ ?_); exact hz9.out; exact hiS.out; exact hzs.out; exact hone.out; intro w4 hg4 hb4 hs4; have X4 := hid (xnewP rfl hb4); have g4 := rangeOf hg4; clear hg4 hb4 hs4)
        | ((with_reducible refine wpList_load_rng rfl 54 (.tmp 4) rfl wr.heap.size 0 rfl cs _ ?_ hun rfl hiN.out ?_); exact g4))
      refine (hO _ (hv3.out.bel X4.out)).mono ?_
      rintro e w5 ⟨rfl, hb5⟩
      have W5 := hid (hbw.trans ((X4.out.trans (hb5.mono X4.out.size)).mono hbw.size))
      cases ok
      · have no := hid (hbad.out rfl)
        clear hbad
        go_wp2
        go_ret
        exact ⟨ret_iP no.out, W0.trans (W5.out.mono W0.size)⟩
      · go_wp2
        go_roundw
        case rel => exact ⟨k + 1, by omega, by go_num, hnext.out (by trivial), W5.out⟩
        case measure => simp [intOf]; omega
    · obtain rfl : k = ns.length := by omega
      have ho : Ones ns := fun i hi => hrel i hi hi
      have hR := fun W hW => PIsRight_any F A c ns root ho hc 256 0 root z0 W rfl (by omega) (by omega) hW
      have hy := yes.out (by omega) (by omega) (by omega) ho
      generalize decide (0 ≤ rgt ns 256 root z0) = rv at *
      generalize z0.1.map bv = dz at *
      replace hR := hid hR
      replace hr1 := hid hr1
      replace hrel := trivial
      replace hy := hid hy
      go_wp2_with (first
        | ((with_reducible refine wpList_load_rng rfl 24 (.tmp 1) rfl w.heap.size 0 rfl [Value.slice A ns.length c, .int .i64 root] _ ?_ hut rfl hiT.out ?_); exact T1.all)
        | ((with_reducible refine wpList_built rfl 26 _ rfl dz.toArray [] ?_ ?_ ?_); exact hz.out; rfl)
        | ((with_reducible refine wpList_built rfl 60 _ rfl #[Value.slice A ns.length c, .int .i64 root] [(0, .agg #[.slice A ns.length c, .int .i64 root])] ?_ ?_ ?_); exact hbt.out; rfl))
      refine (hR.out _ hr1.out).mono ?_
      rintro e w2 ⟨rfl, hb2⟩
      have W2 := hid (W0.trans ((hbw.trans (hb2.mono hbw.size)).mono W0.size))
      cases rv
      · go_wp2
        go_ret
        exact ⟨ret_iP (by have := hy.out; simpa using this), W2.out⟩
      · go_wp2
        go_ret
        exact ⟨ret_iP (by have := hy.out; simpa using this), W2.out⟩
theorem PTCheck_is (F : Nat → Prop) (A : Option Addr) (c : Nat) (ns : List Nd) (root : Int) (m : Bool) (w : World) (hr : Row F w A ns) (hc : ns.length ≤ 9223372036854775807) (hm : mayT ⟨ns, root⟩ = m) :
    Calls Try.prog 25 #[.agg #[.slice A ns.length c, .int .i64 root]] w fun e w' => e = .returned (.int .i64 (if m = true then 0 else 8)) ∧ Below w.heap.size w w' := by
  subst hm
  exact PTCheck_any F A c ns root w hr hc

set_option maxHeartbeats 1000000 in
theorem PTwinNode_any (x : Nd) (A : Option Addr) (c : Nat) (w : World) (hr : Rd w A x.v) (hl : x.v.length ≤ 1000000) :
    Calls Try.prog 49 #[.agg (ndC x A c).toArray] w fun e w' => ∃ A' c', e = .returned (.agg (ndC x A' c').toArray) ∧ Own 5 w' w.heap.size A' c' x.v ∧ Below w.heap.size w w' := by
  have W0 := ext_trans (ext_alloc w (.cells (ndC x A c).toArray 54)) (ext_alloc _ (.cells zNdC 54))
  have b0 := (BoxN.new w x A c 54).bel (ext_alloc _ (.cells zNdC 54))
  have h0 := ((ext_alloc (w.alloc (.cells (ndC x A c).toArray 54)) (.cells zNdC 54)).block w.heap.size (by simp)).trans (heap_alloc_new w (.cells (ndC x A c).toArray 54))
  have h1 := heap_alloc_new (w.alloc (.cells (ndC x A c).toArray 54)) (.cells zNdC 54)
  rw [World.size_alloc] at h1
  have hr0 := hr.bel W0
  have hsz : ((w.alloc (.cells (ndC x A c).toArray 54)).alloc (.cells zNdC 54)).heap.size = w.heap.size + 2 := by simp
  replace hsz := hid hsz
  have hy := b0.val
  have hS := fun A2 c2 => nd_set x A A2 c c2
  have hun := Try.underlying54
  have hiN := fun A2 c2 => hid (show (Try.prog.info? 54).map (·.size) = some (ndC x A2 c2).length by rw [len_nd]; exact sizeNd)
  have hiS := fun A2 c2 => hid (show (Try.prog.info? 54).map (·.size) = some (ndC x A2 c2).toArray.size by rw [List.size_toArray, len_nd]; exact sizeNd)
  have hzs := fun A2 c2 => hid (show zNdC.size = (ndC x A2 c2).toArray.size by rw [zSizeNd, List.size_toArray, len_nd])
  have hone := fun A2 c2 => hid (one_nd x A2 c2)
  replace h0 := hid h0
  replace h1 := hid h1
  replace hS := hid hS
  clear hr b0
  go_enter Try.func49, Try.ntmps49
  go_wp2_with (first
    | (with_reducible refine wpList_alloc_row rfl 54 rfl zNdC zInfoNd ?_))
  generalize (w.alloc (.cells (ndC x A c).toArray 54)).alloc (.cells zNdC 54) = w0 at *
  refine (Clone_any A x.v.length c x.v _ hr0 rfl hl).mono ?_
  rintro e w1 ⟨A2, c2, rfl, ho, hb⟩
  have g0 := (hb.block _ (block_lt h0.out)).trans h0.out
  have g1 := (hb.block _ (block_lt h1.out)).trans h1.out
  have hf := block_frozen g0 33
  have hc1 := (hb.cell (World.block_lt_of_cell? _ _ hy)).trans hy
  have g2 := block_set g0 33 (.slice A2 x.v.length c2)
  rw [hS.out] at g2
  have g3 := hid ((Below.heap_setCell w1 ⟨w.heap.size, 33, none⟩ (.slice A2 x.v.length c2) (w.heap.size + 1) (by simp)).trans g1)
  have s2 := hid (rangeOf g2)
  have B1 := hid (W0.trans (hb.mono W0.size))
  have B2 := hid (B1.out.setCell (p := ⟨w.heap.size, 33, none⟩) (Nat.le_refl _) (.slice A2 x.v.length c2))
  have o2 := hid ho
  have lt0 := hid (block_lt h0.out)
  clear g0 g1 g2 h0 h1 hS hy ho hb
  go_wp2_with (first
    | ((with_reducible refine wpList_load_rng rfl 54 (.tmp 1) rfl w.heap.size 0 rfl (ndC x A2 c2) _ ?_ hun rfl (hiN A2 c2).out ?_); exact s2.out)
    | ((with_reducible refine wpList_store_row rfl 54 (.tmp 2) (.tmp 7) rfl (w.heap.size + 1) _ rfl rfl 54 zNdC ?_ ?_ ?_ ?_ ?_); exact g3.out; exact (hiS A2 c2).out; exact (hzs A2 c2).out; exact (hone A2 c2).out; intro w4 hg4 hb4 hs4))
  refine bodyPost_ret (results_cell_row Try.results49 _ _ (w.heap.size + 1) 54 _ (0, 0) _ rfl hg4 hun rfl (hiS A2 c2).out) rfl ⟨_, _, rfl, ?_, B2.out.grown hb4 B2.out.size (fun g e => by injection e with e; omega)⟩
  have o3 : Own 5 (w1.setCell ⟨w.heap.size, 33, none⟩ (.slice A2 x.v.length c2)) w0.heap.size A2 c2 x.v := ownsRow_setCell_below o2.out (by rw [hsz.out]; simp) _
  exact (o3.kept hb4 fun a ha e => by have := (o2.out.blk a ha).1; injection e with e; rw [hsz.out] at this; omega).base (by rw [hsz.out]; omega)
end Go.Proofs.Ytminmkmkaoocaaa
