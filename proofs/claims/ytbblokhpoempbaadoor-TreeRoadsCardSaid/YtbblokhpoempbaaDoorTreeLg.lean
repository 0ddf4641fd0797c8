/-
  Contracts of the landed package tree: sum, Road.
-/
import Derived.Test.YtbblokhpoempbaaDoorTreeLe
import Derived.Test.YtbblokhpoempbaaDoorTreeLf
import Derived.Test.YtbblokhpoempbaaDoorTreeW
namespace Go.Proofs.YtbblokhpoempbaaDoor
open Go.RowKit
set_option linter.unusedVariables false
set_option linter.unusedSimpArgs false
set_option maxRecDepth 100000

theorem PSum_any (F : Nat → Prop) (A : Option Addr) (c : Nat) (ns : List Nd) (root : Int) (ho : Ones ns) (hc : ns.length ≤ 9223372036854775807) : ∀ (e : Nat) (n : Int) (b : Dg) (w : World), 0 ≤ n → n ≤ ns.length → 0 ≤ rgt ns e n b → Row F w A ns → Tab w →
    Calls Tryd.prog 70 #[.agg (smC A ns.length c root noneD).toArray, .int .i64 n] w fun r w' => r = .returned (.agg ((sumP ns e n).map bv).toArray) ∧ Below w.heap.size w w' := by
  intro e
  induction e with
  | zero =>
    intro n b w h0 hn hr hrow hT
    by_cases hz : n = 0
    · subst hz
      rw [sumP_zero]
      exact PSum_zero A ns.length c root noneD w
    · cases hl : (ndAt ns n).leaf with
      | true =>
        rw [sumP_leaf hz hl]
        obtain ⟨j, hj, rfl, hx, hone⟩ := ones_at ho (by omega) hn
        have hv := (one_leaf hone (by rw [← hx]; exact hl)).1
        rw [← hx] at hv
        refine PSum_leaf F A c ns root noneD _ w hrow hc (by omega) hn hl ?_ hT
        unfold valB at hv
        simp at hv
        omega
      | false => rw [rgt_end hz hl] at hr; omega
  | succ e ih =>
    intro n b w h0 hn hr hrow hT
    by_cases hz : n = 0
    · subst hz
      rw [sumP_zero]
      exact PSum_zero A ns.length c root noneD w
    · cases hl : (ndAt ns n).leaf with
      | true =>
        rw [sumP_leaf hz hl]
        obtain ⟨j, hj, rfl, hx, hone⟩ := ones_at ho (by omega) hn
        have hv := (one_leaf hone (by rw [← hx]; exact hl)).1
        rw [← hx] at hv
        refine PSum_leaf F A c ns root noneD _ w hrow hc (by omega) hn hl ?_ hT
        unfold valB at hv
        simp at hv
        omega
      | false =>
        obtain ⟨f, hf, r1, r2, _, _⟩ := fork_parts hz hl hr
        obtain rfl : e = f := by omega
        obtain ⟨j, hj, rfl, hx, hone⟩ := ones_at ho (by omega) hn
        obtain ⟨k1, k2, k3, k4, _⟩ := one_fork hone (by rw [← hx]; exact hl)
        rw [← hx] at k1 k2 k3 k4
        rw [sumP_fork hz hl]
        exact PSum_fork F A c ns root noneD _ ⟨sumP ns e (ndAt ns ((j : Int) + 1)).l, sumP_length⟩ ⟨sumP ns e (ndAt ns ((j : Int) + 1)).r, sumP_length⟩ w hrow hc (by omega) hn hl hT
          (fun W hW hTW => ih _ _ W k1 (by omega) r1 hW hTW) (fun W hW hTW => ih _ _ W k3 (by omega) r2 hW hTW)
theorem sideL_get (ns : List Nd) (os : List Int) (i : Nat) (o : Int) (h : os[i]? = some o) : (sideL ns os)[i]? = some ⟨sumP ns (255 - i) o, sumP_length⟩ := by
  obtain ⟨hi, rfl⟩ := List.getElem?_eq_some_iff.1 h
  rw [List.getElem?_eq_getElem (by rw [sideL_length]; exact hi), sideL_at ns os i hi]
theorem take_get {α : Type} {l : List α} {i : Nat} {x : α} (h : l[i]? = some x) : l.take (i + 1) = l.take i ++ [x] := by
  obtain ⟨hi, rfl⟩ := List.getElem?_eq_some_iff.1 h
  exact List.take_succ_eq_append_getElem hi
theorem row_int {F : Nat → Prop} {w : World} {A : Option Addr} {xs : List Int} (h : Row F w A xs) {j : Nat} (hj : j < xs.length) : ∃ b o, A = some ⟨b, o, none⟩ ∧ w.cell? ⟨b, o + j, none⟩ = some (.int .i64 xs[j]) := by
  obtain ⟨b, o, rfl, _, _, h3⟩ := h (by omega)
  obtain ⟨vs, ⟨rfl, _⟩, h2⟩ := h3 j _ (List.getElem?_eq_getElem hj)
  have h4 := h2 0 _ rfl
  rw [Nat.add_zero, show Enc.size Int = 1 from rfl, Nat.mul_one] at h4
  exact ⟨b, o, rfl, h4⟩
theorem OwnQ.keptAt {α : Type} [Enc α] {E : TypeId} {w w' : World} {B0 B g : Nat} {A : Option Addr} {c : Nat} {xs : List α} (h : OwnQ E w B0 B A c xs) (hg : w.grownBy w' (some g)) (h0 : g < B0) (h1 : g < B) : OwnQ E w' B0 B A c xs := by
  have hb := h.blk
  obtain ⟨F, k1, k2⟩ := h
  refine ⟨F, k1.kept (fun a ha hl => hg.block _ hl fun e => ?_) (fun b hf hl => hg.block b hl fun e => ?_), fun b hf => ⟨(k2 b hf).1, (k2 b hf).2.kept (hg.block b (k2 b hf).2.lt fun e => ?_)⟩⟩
  · have := (hb a ha).1; injection e with e; omega
  · have := (k2 b hf).1; injection e with e; omega
  · have := (k2 b hf).1; injection e with e; omega
theorem slotDg : Slot Tryd.prog Dg 74 23 (.agg z32) 32 where
  under := Tryd.underlying74
  info := by kernel_rfl
  zero := by decide +kernel
  pos := by decide
theorem res_nd {fn : Func} {p u v : Tmp} (h : fn.results = #[.cell p 55, .tmp u, .tmp v]) (tmps : Array Value) (w : World) (g : Nat) (cs : Array Value) (e1 : tmps.getD p undef = .pointer (some ⟨g, 0, none⟩))
    (hg : w.heap[g]? = some (.cells cs 55 (0, 0))) (hs : cs.size = 36) : (results fn tmps).run Tryd.prog w = .ok (.tuple #[.agg cs, tmps.getD u undef, tmps.getD v undef]) w := by
  have h2 := run_loadVar_mid (P := Tryd.prog) w g 0 55 cs.toList _ (rangeOf hg) Tryd.underlying55 rfl (by rw [Array.length_toList, hs]; exact sizeNd)
  have e2 : tmps[p]?.getD undef = .pointer (some ⟨g, 0, none⟩) := by simpa using e1
  simp only [results, h]
  simp [Sem.run_bind, Result.andThen, e2, asAddr, Sem.run_pure, h2]

theorem boxes3 (w : World) (A : Option Addr) (n c : Nat) (root : Int) (b : Dg) :
    BoxT (((w.alloc (.cells #[.slice A n c, .int .i64 root] 49)).alloc (.cells (b.1.map bv).toArray 23)).alloc (.cells zNdC 55)) w.heap.size A n c root ∧
    (((w.alloc (.cells #[.slice A n c, .int .i64 root] 49)).alloc (.cells (b.1.map bv).toArray 23)).alloc (.cells zNdC 55)).rangeAt (w.heap.size + 1) 0 (b.1.map bv) ∧
    (((w.alloc (.cells #[.slice A n c, .int .i64 root] 49)).alloc (.cells (b.1.map bv).toArray 23)).alloc (.cells zNdC 55)).heap[w.heap.size + 1 + 1]? = some (.cells zNdC 55) ∧
    Below w.heap.size w (((w.alloc (.cells #[.slice A n c, .int .i64 root] 49)).alloc (.cells (b.1.map bv).toArray 23)).alloc (.cells zNdC 55)) := by
  obtain ⟨h1, h2, h3⟩ := boxesTDp w A n c root b 49 23
  have h4 := heap_alloc_new ((w.alloc (.cells #[.slice A n c, .int .i64 root] 49)).alloc (.cells (b.1.map bv).toArray 23)) (.cells zNdC 55)
  simp only [World.size_alloc] at h4
  exact ⟨h1.bel (ext_alloc _ _), rangeBel2 (ext_alloc _ _) h2, h4, ext_trans h3 (ext_alloc _ _)⟩

set_option maxHeartbeats 2000000 in
theorem PRoad_any (F : Nat → Prop) (A : Option Addr) (c : Nat) (ns : List Nd) (root : Int) (k : Dg) (w : World) (hr : Row F w A ns) (hc : ns.length ≤ 1000000) (hT : Tab w) :
    Calls Tryd.prog 43 #[.agg #[.slice A ns.length c, .int .i64 root], .agg (k.1.map bv).toArray] w fun e w' => ∃ A1 c1 A2 c2, e = .returned (.tuple #[.agg (ndC (endN ⟨ns, root⟩ k) A1 c1).toArray, .slice A2 (sidesM ⟨ns, root⟩ k).length c2, .int .i64 (if mayT ⟨ns, root⟩ = true then 0 else 8)]) ∧
      Own 5 w' w.heap.size A1 c1 (endN ⟨ns, root⟩ k).v ∧ OwnR 23 w' w.heap.size A2 c2 (sidesM ⟨ns, root⟩ k) ∧ Below w.heap.size w w' := by
  obtain ⟨hb0, hk0, hz0, W0⟩ := boxes3 w A ns.length c root k
  have hr0 := hr.bel W0
  have hT0 := hid (hT.bel W0 hT.low)
  have hlow := hid hT.low
  have hu := Tryd.underlying23
  have hut := Tryd.underlying49
  have hutr := Tryd.underlying94
  have hus := Tryd.underlying107
  have hun := Tryd.underlying55
  have hiT := hid (show (Tryd.prog.info? 49).map (·.size) = some ([Value.slice A ns.length c, .int .i64 root]).length from sizeTr)
  have hiTr := hid (show (Tryd.prog.info? 94).map (·.size) = some ([Value.slice A ns.length c, .int .i64 root]).length from sizeTrie)
  have hi := hid (sizeDgT k)
  have hbu := hid (show Tryd.prog.built 55 [] = some (ndC nd0 none 0).toArray by kernel_rfl)
  have hiS := fun x A2 c2 => hid (show (Tryd.prog.info? 55).map (·.size) = some (ndC x A2 c2).toArray.size by rw [List.size_toArray, len_nd]; exact sizeNd)
  have hzs := fun x A2 c2 => hid (show zNdC.size = (ndC x A2 c2).toArray.size by rw [zSizeNd, List.size_toArray, len_nd])
  have hone := fun x A2 c2 => hid (one_nd x A2 c2)
  obtain ⟨m, hm⟩ : ∃ m, mayT ⟨ns, root⟩ = m := ⟨_, rfl⟩
  have hC := fun W hW => PTCheck_is F A c ns root m W hW (by omega) hm
  replace hz0 := hid hz0
  replace hC := hid hC
  cases m with
  | false =>
    rw [show endN ⟨ns, root⟩ k = nd0 by unfold endN; rw [hm]; rfl, show sidesM ⟨ns, root⟩ k = [] by unfold sidesM; rw [hm]; rfl, hm]
    have hl0 := len_nd nd0 none 0
    have hOw : ∀ W, Own 5 W w.heap.size none 0 nd0.v := fun W => Own.nil W _
    have hiz := hiS nd0 none 0
    have hzz := hzs nd0 none 0
    have honez := hone nd0 none 0
    clear hiS hzs hone
    generalize hnd : nd0 = x0 at *
    generalize hcz : ndC x0 none 0 = cz at *
    generalize hdk : k.1.map bv = dk at *
    go_enter Tryd.func43, Tryd.ntmps43
    go_wp2_with (first
      | (with_reducible refine wpList_alloc_row rfl 55 rfl zNdC zInfoNd ?_)
      | ((with_reducible refine wpList_load_rng rfl 49 (.tmp 2) rfl w.heap.size 0 rfl [Value.slice A ns.length c, .int .i64 root] _ ?_ hut rfl hiT.out ?_); exact hb0.all))
    generalize ((w.alloc (.cells #[.slice A ns.length c, .int .i64 root] 49)).alloc (.cells dk.toArray 23)).alloc (.cells zNdC 55) = w0 at *
    refine (hC.out _ hr0).mono ?_
    rintro e w3 ⟨rfl, hb3⟩
    have z3 := hid ((hb3.block _ (block_lt hz0.out)).trans hz0.out)
    have W3 := hid (W0.trans (hb3.mono W0.size))
    go_wp2_with (first
      | ((with_reducible refine wpList_built rfl 55 _ rfl cz.toArray [] ?_ ?_ ?_); exact hbu.out; rfl)
      | ((with_reducible refine wpList_store_row rfl 55 (.tmp 4) (.tmp 17) rfl (w.heap.size + 1 + 1) _ rfl rfl 55 zNdC ?_ ?_ ?_ ?_ ?_); exact z3.out; exact hiz.out; exact hzz.out; exact honez.out; intro w4 hg4 hb4 hs4))
    exact bodyPost_ret (res_nd Tryd.results43 _ _ (w.heap.size + 1 + 1) _ rfl hg4 (by rw [List.size_toArray]; exact hl0)) rfl ⟨none, 0, none, 0, by rw [hcz]; rfl, hOw _, OwnR.nil _ _, W3.out.grown hb4 W3.out.size (fun g e => by injection e with e; omega)⟩
  | true =>
    obtain ⟨-, m1, m2, ho, m3⟩ := mayT_iff.1 hm
    dsimp only at m1 m2 ho m3
    obtain ⟨⟨w1, w2, w3⟩, w4, w5⟩ := way_spec (k := k) ho 256 root z0 (Nat.le_refl _) m1 m2 m3 zr_z0
    have hRd := fun W hW => PRoadT_any F A c ns root k W hW hc hm
    have hNs := fun W hTW => PNewSummed_any A ns.length c root W hTW
    have hSm := fun (i : Nat) (o : Int) (hio : (wayP ns k 256 root).2[i]? = some o) (W : World) (hW : Row F W A ns) (hTW : Tab W) => (show Calls Tryd.prog 70 #[.agg (smC A ns.length c root noneD).toArray, .int .i64 o] W fun r w' => r = .returned (.agg ((sumP ns (255 - i) o).map bv).toArray) ∧ Below W.heap.size W w' from by
      obtain ⟨c1, c2, b', c3, c4⟩ := w5 i o hio
      exact PSum_any F A c ns root ho (by omega) (255 - i) o b' W c1 c2 (by rw [show 256 - 1 - i = 255 - i by omega] at c3; exact c3) hW hTW)
    have hside : sidesM ⟨ns, root⟩ k = sideL ns (wayP ns k 256 root).2 := by unfold sidesM; rw [hm]; rfl
    have hsl := sideL_length ns (wayP ns k 256 root).2
    have hsa := sideL_get ns (wayP ns k 256 root).2
    have hendv : endN ⟨ns, root⟩ k = if (wayP ns k 256 root).1 = 0 then nd0 else ndAt ns (wayP ns k 256 root).1 := by unfold endN; rw [hm]; rfl
    have hend : ∀ W, Row F W A ns → ∃ A' c', Calls Tryd.prog 75 #[.agg #[.slice A ns.length c, .int .i64 root], .int .i64 (wayP ns k 256 root).1] W (fun e w' => e = .returned (.agg (ndC (endN ⟨ns, root⟩ k) A' c').toArray) ∧ Below W.heap.size W w') ∧ Rd W A' (endN ⟨ns, root⟩ k).v := fun W hW => by
      rw [hendv]
      by_cases hz : (wayP ns k 256 root).1 = 0
      · rw [if_pos hz, hz]
        exact ⟨none, 0, PNode_zero A ns.length c root W, fun hn => absurd hn (by simp [nd0])⟩
      · rw [if_neg hz]
        obtain ⟨j, hj, hje, hx, _⟩ := ones_at ho (by omega) w2
        rw [hx, hje]
        obtain ⟨q, o, rfl, A', c', hR, _, _, hv3, _⟩ := row_nd hW hj
        exact ⟨A', c', PNode_at q o j ns.length c root ns[j] A' c' W hR hj (by omega), hv3.rd⟩
    have hvl : (endN ⟨ns, root⟩ k).v.length ≤ 1000000 := by
      rw [hendv]
      split
      · simp [nd0]
      · rename_i hz
        obtain ⟨j, hj, hje, hx, hone1⟩ := ones_at ho (by omega) w2
        rcases w3 with h | h
        · exact absurd h hz
        · rw [hx] at h ⊢
          have := (one_leaf hone1 h).1
          unfold valB at this
          simp at this
          omega
    rw [hside, hm]
    have hlS := len_sm A ns.length c root noneD
    have hSz := hid (show (Tryd.prog.info? 107).map (·.size) = some (smC A ns.length c root noneD).toArray.size by rw [List.size_toArray, len_sm]; exact sizeSm)
    have hSl := hid (show (Tryd.prog.info? 107).map (·.size) = some (smC A ns.length c root noneD).length by rw [len_sm]; exact sizeSm)
    have hSzz := hid (show zSmC.size = (smC A ns.length c root noneD).toArray.size by rw [zSizeSm, List.size_toArray, len_sm])
    have hSone := hid (one_sm A ns.length c root noneD)
    have hBS := fun (W : World) (g : Nat) (tt : TypeId) (h : W.heap[g]? = some (.cells (smC A ns.length c root noneD).toArray tt (0, 0))) => BoxS.of (rangeOf h)
    generalize sideL ns (wayP ns k 256 root).2 = L at *
    generalize (wayP ns k 256 root).2 = os at *
    generalize (wayP ns k 256 root).1 = en at *
    generalize endN ⟨ns, root⟩ k = x at *
    clear hside hendv w1 w2 w3 w5 m1 m2 m3 hm hbu hr hT
    replace hRd := hid hRd
    replace hNs := hid hNs
    replace hSm := hid hSm
    replace hend := hid hend
    replace hsa := hid hsa
    replace hBS := hid hBS
    generalize hcs : smC A ns.length c root noneD = cs at *
    replace hcs := hid hcs
    generalize hdk : k.1.map bv = dk at *
    go_enter Tryd.func43, Tryd.ntmps43
    go_wp2_with (first
      | (with_reducible refine wpList_alloc_row rfl 55 rfl zNdC zInfoNd ?_)
      | ((with_reducible refine wpList_load_rng rfl 49 (.tmp 2) rfl w.heap.size 0 rfl [Value.slice A ns.length c, .int .i64 root] _ ?_ hut rfl hiT.out ?_); exact hb0.all))
    generalize ((w.alloc (.cells #[.slice A ns.length c, .int .i64 root] 49)).alloc (.cells dk.toArray 23)).alloc (.cells zNdC 55) = w0 at *
    refine (hC.out _ hr0).mono ?_
    rintro e w3 ⟨rfl, hb3⟩
    have t3 := hb0.all
    replace t3 := rangeBel2 hb3 t3
    have k3 := rangeBel2 hb3 hk0
    have r3 := hid (hr0.bel hb3)
    have T3 := hid (hT0.out.bel hb3 (Nat.lt_of_lt_of_le hlow.out W0.size))
    have z3 := hid ((hb3.block _ (block_lt hz0.out)).trans hz0.out)
    have W3 := hid (W0.trans (hb3.mono W0.size))
    clear hb0 hk0 hr0 hT0 hz0 hb3 hC
    go_wp2_with (first
      | ((with_reducible refine wpList_load_rng rfl 49 (.tmp 2) rfl w.heap.size 0 rfl [Value.slice A ns.length c, .int .i64 root] _ ?_ hut rfl hiT.out ?_); exact t3))
    refine (hNs.out _ T3.out).mono ?_
    rintro e w4 ⟨rfl, hb4⟩
    have k4 := rangeBel2 hb4 k3
    have r4 := hid (r3.out.bel hb4)
    have T4 := hid (T3.out.bel hb4 (Nat.lt_of_lt_of_le hlow.out W3.out.size))
    have z4 := hid ((hb4.block _ (block_lt z3.out)).trans z3.out)
    have W4 := hid (W3.out.trans (hb4.mono W3.out.size))
    have e4 := hid (heap_alloc_new w4 (.cells zSmC 107))
    clear t3 k3 r3 T3 z3 W3 hb4 hNs
    go_wp2_with (first
      | (with_reducible refine wpList_alloc_row rfl 107 rfl zSmC zInfoSm ?_)
      | ((with_reducible refine wpList_store_row rfl 107 (.tmp 8) (.tmp 20) rfl _ _ rfl rfl 107 zSmC ?_ ?_ ?_ ?_ ?_); exact e4.out; exact hSz.out; exact hSzz.out; exact hSone.out; intro w5 hg5 hb5 hs5; have X5 := hid (xnewP rfl hb5); have S5 := hBS.out _ _ _ hg5; have s5 := S5.trie; have k5 := rangeBel2 X5.out k4; have r5 := hid (r4.out.bel X5.out); have T5 := hid (T4.out.bel X5.out (Nat.lt_of_lt_of_le hlow.out W4.out.size)); have z5 := hid ((X5.out.block _ (block_lt z4.out)).trans z4.out); have W5 := hid (W4.out.trans (X5.out.mono W4.out.size)); clear hg5 hb5 hs5)
      | ((with_reducible refine wpList_load_rng rfl 94 (.tmp 22) rfl w4.heap.size 0 rfl [Value.slice A ns.length c, .int .i64 root] _ ?_ hutr rfl hiTr.out ?_); exact s5)
      | ((with_reducible refine wpList_load_rng rfl 23 (.tmp 24) rfl (w.heap.size + 1) 0 rfl dk _ ?_ hu rfl hi.out ?_); exact k5)
      | ((with_reducible refine wpList_load_rng rfl 23 (.tmp 3) rfl (w.heap.size + 1) 0 rfl dk _ ?_ hu rfl hi.out ?_); exact k5))
    refine (hRd.out _ r5.out).mono ?_
    rintro e w6 ⟨A5, c5, rfl, ho5, hb6⟩
    have S6 := S5.bel hb6
    have r6 := hid (r5.out.bel hb6)
    have T6 := hid (T5.out.bel hb6 (Nat.lt_of_lt_of_le hlow.out W5.out.size))
    have z6 := hid ((hb6.block _ (block_lt z5.out)).trans z5.out)
    have W6 := hid (W5.out.trans (hb6.mono W5.out.size))
    have o6 := ho5.row
    have q6 := ho5.cap
    clear k4 r4 T4 z4 W4 e4 X5 S5 s5 k5 r5 T5 z5 W5 ho5 hb6 hRd
    go_wp2
    go_loopw [5, 30] (fun v5 v30 wr => ∃ (j : Nat) (A6 : Option Addr) (c6 : Nat), j ≤ os.length ∧ v30 = .int .i64 j ∧ v5 = .slice A6 (L.take j).length c6 ∧ OwnR 23 wr w6.heap.size A6 c6 (L.take j) ∧ Below w6.heap.size w6 wr) (fun _ v30 _ => os.length - (intOf v30).toNat)
    case atStart => exact ⟨0, none, 0, Nat.zero_le _, rfl, rfl, OwnR.nil _ _, Below.refl _ _⟩
    case round =>
      obtain ⟨j, A6, c6, hj, rfl, rfl, hown, hbw⟩ := hrel
      have S7 := S6.bel hbw
      have r7 := hid (r6.out.bel hbw)
      have T7 := hid (T6.out.bel hbw (Nat.lt_of_lt_of_le hlow.out W6.out.size))
      have W7 := hid (W6.out.trans (hbw.mono W6.out.size))
      have z7 := hid ((hbw.block _ (block_lt z6.out)).trans z6.out)
      by_cases hlt : j < os.length
      · obtain ⟨qb, qo, hAe, hc0⟩ := row_int (o6.bel hbw) hlt
        subst hAe
        have hget := hsa.out j os[j] (List.getElem?_eq_getElem hlt)
        have htk := take_get hget
        have hxl : (L.take j).length = j := by rw [List.length_take]; omega
        have hSj := hid (hSm.out j os[j] (List.getElem?_eq_getElem hlt))
        have al7 := S7.all
        rw [hcs.out] at al7
        have hD : (sumP ns (255 - j) os[j]).length = 32 := sumP_length
        have hDl : ((sumP ns (255 - j) os[j]).map bv).length = Enc.size Dg := by rw [List.length_map, hD]; rfl
        generalize hdg : (⟨sumP ns (255 - j) os[j], sumP_length⟩ : Dg) = dg at *
        have hdv : sumP ns (255 - j) os[j] = dg.1 := by rw [← hdg]
        rw [hdv] at hDl hSj
        clear hdg hdv hD hget
        generalize hy : L.take (j + 1) = y at *
        generalize hx0 : L.take j = x0 at *
        generalize os[j] = oj at *
        have hyl : y.length = j + 1 := by rw [htk, List.length_append, hxl]; rfl
        replace hy := hid hy
        replace htk := hid htk
        replace hxl := hid hxl
        replace hyl := hid hyl
        replace hown := hid hown
        have hbs := hid hbw.size
        clear S7 hx0
        go_wp2_with (first
          | ((with_reducible refine wpList_load_rng rfl 107 (.tmp 8) rfl w4.heap.size 0 rfl cs _ ?_ hus rfl hSl.out ?_); exact al7))
        refine (hSj.out _ r7.out T7.out).mono ?_
        rintro e w8 ⟨rfl, hb8⟩
        have own8 := hid (hown.out.bel hb8)
        have W8 := hid (hbw.trans (hb8.mono hbw.size))
        have s8 := hid (Nat.le_trans hbs.out hb8.size)
        go_wp2_with (first
          | ((with_reducible refine wpList_buildOne slotDg (by decide) rfl (.tmp 37) rfl (dg.1.map bv) ?_ hDl ?_); rfl)
          | (at_builtin; refine wpList_appOwn slotDg rfl (.tmp 34) (.tmp 38) rfl w6.heap.size w6.heap.size A6 _ x0.length 1 c6 1 x0 [dg] (fun _ => False) rfl rfl rfl rfl (own8.out.alloc _) (src_alloc (show Enc.rep (fun _ => False) w8 dg (dg.1.map bv) from rfl)) (fun b hb => hb.elim) (by have := hxl.out; have := hlt; simp only [List.length_singleton]; omega) (by have := s8.out; rw [World.size_alloc]; omega) ?_; intro A7 c7 w9 ho9 hb9; have own9 := hid ho9; have W9 := hid (W8.out.trans (((ext_alloc w8 (.cells (dg.1.map bv).toArray 23)).mono s8.out).trans hb9)); clear ho9 hb9))
        go_roundw
        case rel =>
          exact ⟨j + 1, A7, c7, by omega, by go_num, by rw [hy.out, hyl.out, hxl.out], by rw [hy.out, htk.out]; exact own9.out, W9.out⟩
        case measure => simp [intOf]; omega
      · obtain rfl : j = os.length := by omega
        rw [← hsl, List.take_length] at hown ⊢
        have s7 := S7.trie
        obtain ⟨A', c', hNd, hrd⟩ := hend.out _ r7.out
        have own7 := hid hown
        replace hNd := hid hNd
        replace hrd := hid hrd
        clear hown S7
        go_wp2_with (first
          | ((with_reducible refine wpList_load_rng rfl 94 (.tmp 41) rfl w4.heap.size 0 rfl [Value.slice A ns.length c, .int .i64 root] _ ?_ hutr rfl hiTr.out ?_); exact s7))
        refine hNd.out.mono ?_
        rintro e w8 ⟨rfl, hb8⟩
        have rd8 := hrd.out.bel hb8
        have own8 := hid (own7.out.bel hb8)
        have z8 := hid ((hb8.block _ (block_lt z7.out)).trans z7.out)
        have W8 := hid (W7.out.trans (hb8.mono W7.out.size))
        go_wp2_with fail
        refine (PTwinNode_any x A' c' _ rd8 hvl).mono ?_
        rintro e w9 ⟨A9, c9, rfl, ho9, hb9⟩
        have own9 := hid (own8.out.bel hb9)
        have z9 := hid ((hb9.block _ (block_lt z8.out)).trans z8.out)
        have W9 := hid (W8.out.trans (hb9.mono W8.out.size))
        have ho := hid ho9
        have hx9 := hid (len_nd x A9 c9)
        have hlo := hid (block_lt z8.out)
        have hlo8 := hid W8.out.size
        have hlo6 := hid (block_lt z6.out)
        have hlo6w := hid W6.out.size
        clear rd8 own8 z8 hb9 hb8 own7 hrd hNd s7 ho9
        go_wp2_with (first
          | ((with_reducible refine wpList_store_row rfl 55 (.tmp 4) (.tmp 45) rfl (w.heap.size + 1 + 1) _ rfl rfl 55 zNdC ?_ ?_ ?_ ?_ ?_); exact z9.out; exact (hiS x A9 c9).out; exact (hzs x A9 c9).out; exact (hone x A9 c9).out; intro w10 hg4 hb4 hs4))
        refine bodyPost_ret (res_nd Tryd.results43 _ _ (w.heap.size + 1 + 1) _ rfl hg4 (by rw [List.size_toArray]; exact hx9.out)) rfl ⟨A9, c9, A6, c6, rfl, ?_, ?_, W9.out.grown hb4 W9.out.size (fun g e => by injection e with e; omega)⟩
        · exact ((ho.out.kept hb4 fun a ha e => by have h1 := (ho.out.blk a ha).1; injection e with e; have h2 := hlo.out; omega).base hlo8.out)
        · exact OwnR.base (OwnQ.keptAt own9.out hb4 hlo6.out hlo6.out) hlo6w.out
end Go.Proofs.YtbblokhpoempbaaDoor
