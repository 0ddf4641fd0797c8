/-
  Contracts of the landed package tree: put. (Written by program: wip/tools/gen_put.py.)
-/
import Derived.Test.YtfjkcdccnbggnaaDoorTreeLk
namespace Go.Proofs.YtfjkcdccnbggnaaDoor
open Go.RowKit
set_option linter.unusedVariables false
set_option linter.unusedSimpArgs false
set_option maxRecDepth 100000

/-- A number under which a key may be put, at depth 256 - e. -/
def PG (ns : List Nd) (k : Dg) (e : Nat) (n : Int) : Prop := 0 ≤ n ∧ n ≤ ns.length ∧ ∃ b, Zr (256 - e) b ∧ 0 ≤ rgt ns e n b ∧ ∀ i, i < 256 - e → kb k.1 i = kb b.1 i
def EndC (ns : List Nd) (k : Dg) (n : Int) : Prop := n = 0 ∨ ((ndAt ns n).leaf = true ∧ (ndAt ns n).k = k)
theorem pg_end {ns : List Nd} {k : Dg} {n : Int} (h : PG ns k 0 n) : EndC ns k n := by
  obtain ⟨h0, hn, b, hz, hr, hk⟩ := h
  by_cases hz : n = 0
  · exact .inl hz
  · cases hl : (ndAt ns n).leaf with
    | false => rw [rgt_end hz hl] at hr; omega
    | true =>
      rw [rgt_leaf hz hl] at hr
      refine .inr ⟨hl, dg_ext (key_ext (ndAt ns n).k.2 k.2 fun i hi => ?_)⟩
      have : 256 ≤ shared (ndAt ns n).k.1 b.1 := by
        split at hr
        · omega
        · omega
      rw [shared_eq (a := (ndAt ns n).k.1) (b := b.1) (by omega), hk i (by omega)]
theorem pg_down {ns : List Nd} {k : Dg} {e : Nat} {n : Int} (ho : Ones ns) (he : e + 1 ≤ 256) (h : PG ns k (e + 1) n) (hc : ¬ EndC ns k n) :
    (0 ≤ lftD ns (255 - e) n ∧ lftD ns (255 - e) n ≤ ns.length) ∧ (0 ≤ rgtD ns (255 - e) n ∧ rgtD ns (255 - e) n ≤ ns.length) ∧ (kb k.1 (255 - e) = 0 → PG ns k e (lftD ns (255 - e) n)) ∧ (kb k.1 (255 - e) = 1 → PG ns k e (rgtD ns (255 - e) n)) := by
  obtain ⟨h0, hn, b, hz, hr, hk⟩ := h
  have hne : n ≠ 0 := fun h => hc (.inl h)
  have hd : 255 - e < 256 := by omega
  have hz' : Zr (255 - e) b := by rw [show 255 - e = 256 - (e + 1) by omega]; exact hz
  obtain ⟨a1, a2, a3, a4, _, _⟩ := down_parts ho (by omega) hn he hz' hr
  refine ⟨a1, a2, fun hb => ⟨a1.1, a1.2, b, ?_, a3, fun i hi => ?_⟩, fun hb => ⟨a2.1, a2.2, turnD b (255 - e), ?_, a4, fun i hi => ?_⟩⟩
  · rw [show 256 - e = 255 - e + 1 by omega]; exact zr_succ hz'
  · rcases Nat.lt_or_ge i (255 - e) with h | h
    · exact hk i (by omega)
    · obtain rfl : i = 255 - e := by omega
      rw [hb, hz' _ (Nat.le_refl _) hd]
  · rw [show 256 - e = 255 - e + 1 by omega]; exact zr_turn hz' hd
  · rcases Nat.lt_or_ge i (255 - e) with h | h
    · rw [turn_low hd h]; exact hk i (by omega)
    · obtain rfl : i = 255 - e := by omega
      rw [hb, turn_self hz' hd]
theorem pg_put {ns : List Nd} {k : Dg} {v : List UInt8} {e : Nat} {n : Int} (ho : Ones ns) (hv : valB v = true) (he : e ≤ 256) (h : PG ns k e n) : (putN ns k v e n).1.length ≤ ns.length + (e + 1) ∧ 0 ≤ (putN ns k v e n).2 ∧ (putN ns k v e n).2 ≤ (putN ns k v e n).1.length := by
  obtain ⟨h0, hn, b, hz, hr, hk⟩ := h
  obtain ⟨⟨ms, a1, a2⟩, _, a3, a4, _⟩ := put_spec ho hv e n b he h0 hn hz hr hk
  exact ⟨by rw [a1, List.length_append]; omega, a3, a4⟩
def PutPost (g B0 : Nat) (F P : Nat → Prop) (root : Int) (w : World) (r : List Nd × Int) (e : Ending) (w' : World) : Prop := e = .returned (.int .i64 r.2) ∧ TrieAt w' g B0 F P r.1 root ∧ Stay P w w' ∧ Below B0 w w'
theorem set2_0 (a b c : Int) : (#[Value.int .i64 a, .int .i64 b] : Array Value).setIfInBounds 0 (.int .i64 c) = #[.int .i64 c, .int .i64 b] := rfl
theorem set2_1 (a b c : Int) : (#[Value.int .i64 a, .int .i64 b] : Array Value).setIfInBounds 1 (.int .i64 c) = #[.int .i64 a, .int .i64 c] := rfl
theorem stay_old {w w' : World} {P : Nat → Prop} (hP : ∀ b, P b → b < w.heap.size) (h : Below w.heap.size w w') : Stay P w w' := fun b hb => h.block b (hP b hb)

set_option maxHeartbeats 4000000 in
theorem PTput_step (g B0 : Nat) (F : Nat → Prop) (k : Dg) (v : List UInt8) (AV : Option Addr) (cV : Nat) (ns : List Nd) (root : Int) (ho : Ones ns) (hv : valB v = true) (hlen : ns.length + 600 ≤ 1000000) (e d : Nat) (n : Int) (hd : e + d = 256) (hG : PG ns k e n) (w : World) (P : Nat → Prop)
    (hT : TrieAt w g B0 F P ns root) (hB : B0 ≤ w.heap.size) (hx : Enc.rep F w (leafN k v) (ndC (leafN k v) AV cV)) (hFP : ∀ b, F b → P b)
    (ih : ∀ f, e = f + 1 → ∀ (n : Int) (w : World) (P : Nat → Prop), PG ns k f n → TrieAt w g B0 F P ns root → B0 ≤ w.heap.size → Enc.rep F w (leafN k v) (ndC (leafN k v) AV cV) → (∀ b, F b → P b) →
      Calls Tryd.prog 52 #[.pointer (some ⟨g, 0, none⟩), .int .i64 n, .int .i64 ((d : Int) + 1), .agg (ndC (leafN k v) AV cV).toArray] w (PutPost g B0 F P root w (putN ns k v f n))) :
    Calls Tryd.prog 52 #[.pointer (some ⟨g, 0, none⟩), .int .i64 n, .int .i64 (d : Int), .agg (ndC (leafN k v) AV cV).toArray] w (PutPost g B0 F P root w (putN ns k v e n)) := by
  have hun := Tryd.underlying50
  have hu := Tryd.underlying23
  have hu2 := Tryd.underlying131
  have hutr := Tryd.underlying86
  have hiN := hid (show (Tryd.prog.info? 50).map (·.size) = some (ndC (leafN k v) AV cV).length by rw [len_nd]; exact sizeNd)
  have hi := hid (sizeDgT k)
  have X0 := ext_alloc w (.cells (ndC (leafN k v) AV cV).toArray 50)
  have bx := BoxN.new w (leafN k v) AV cV 50
  have q0 := hid bx.all
  have k0 := hid (show (w.alloc (.cells (ndC (leafN k v) AV cV).toArray 50)).rangeAt w.heap.size 1 (k.1.map bv) from bx.key)
  have T0 := hid (hT.more (Q := fun b => b = w.heap.size) X0 (fun b hb => by subst hb; exact ⟨Nat.le_refl _, by rw [World.size_alloc]; omega⟩))
  have x0 := hid (Enc.kept hx (fun b hb hl => X0.block b hl))
  have hPl : ∀ b, P b → b < w.heap.size := fun b hb => by obtain ⟨_, _, _, _, _, _, _, h6⟩ := hT; exact (h6 b hb).1
  have hFl : ∀ b, F b → b < w.heap.size := fun b hb => hPl b (hFP b hb)
  have sz0 := hid (World.size_alloc w (.cells (ndC (leafN k v) AV cV).toArray 50))
  have nk := hid (fun (W : World) (h : W.rangeAt w.heap.size 0 (ndC (leafN k v) AV cV)) => (show W.rangeAt w.heap.size 1 (k.1.map bv) from (BoxN.of h).key))
  obtain ⟨A, c, R0, r0⟩ := T0.out.cap
  have hiTr := hid (show (Tryd.prog.info? 86).map (·.size) = some ([Value.slice A ns.length c, .int .i64 root]).length from sizeTrie)
  obtain ⟨n0, n1, -⟩ := id hG
  have hLf := hid (fun W hW => PIsLeaf_any (fun b => b < (w.alloc (.cells (ndC (leafN k v) AV cV).toArray 50)).heap.size) A c ns root n W hW n0 n1 (by omega))
  have h8B := hid (Nat.le_trans hB X0.size)
  have S0 := hid (stay_old hPl X0)
  have W0 := hid (X0.mono hB)
  have hdd := hid hd
  replace R0 := hid R0
  replace r0 := hid r0
  replace hFP := hid hFP
  replace hPl := hid hPl
  replace hFl := hid hFl
  replace hG := hid hG
  replace hT := trivial
  replace hx := trivial
  clear bx
  generalize hcs : ndC (leafN k v) AV cV = cs at *
  generalize hdk : k.1.map bv = dk at *
  replace hcs := hid hcs
  replace hdk := hid hdk
  by_cases hend : EndC ns k n
  · have hp : putN ns k v e n = (ns ++ [leafN k v], (ns.length : Int) + 1) := putN_end hend
    rw [hp]
    clear hp ih
    have hA := hid (fun W (h1 : TrieAt W g B0 F (fun b => P b ∨ b = w.heap.size) ns root) (h2 : Enc.rep F W (leafN k v) cs) (h3 : B0 ≤ W.heap.size) => PAdd_any W g B0 F _ ns root (leafN k v) AV cV h1 (by rw [hcs.out]; exact h2) h3 (by omega))
    rw [hcs.out] at hA
    by_cases hz : n = 0
    · subst hz
      go_enter Tryd.func52, Tryd.ntmps52
      go_wp2
      generalize w.alloc (.cells cs.toArray 50) = w0 at *
      refine wp_region_noPanic ?_
      refine wp_region_held_drew (S := fun w' => Below w0.heap.size w0 w') (by kernel_rfl) ?_ (fun hHeld => ?_)
      · exact bel_drew w0
      refine' wpAnyH_take (i := 0) (oi := _) (v := ?_) rfl (by kernel_rfl) (by kernel_rfl) (by kernel_rfl) (fun _ _ _ h => h) (Or.inl ⟨by rfl, ?_⟩) (by assumption) ?_
      rotate_left
      · intro W hSw
        go_simp
        first | done | (with_reducible rfl)
      try simp only [Act.put, sQa, sQb, sQc, gQa, gQb, gQc]
      refine' wpAnyH_take (i := 1) (oi := _) (v := ?_) rfl (by kernel_rfl) (by kernel_rfl) (by kernel_rfl) (fun _ _ _ h => h) (Or.inl ⟨by rfl, ?_⟩) (by assumption) ?_
      rotate_left
      · intro W hSw
        go_simp
        first | done | (with_reducible rfl)
      try simp only [Act.put, sQa, sQb, sQc, gQa, gQb, gQc]
      refine' wpAnyH_take (i := 2) (oi := _) (v := ?_) rfl (by kernel_rfl) (by kernel_rfl) (by kernel_rfl) (fun _ _ _ h => h) (Or.inl ⟨by rfl, ?_⟩) (by assumption) ?_
      rotate_left
      · intro W hSw
        go_simp
        first | done | (with_reducible rfl)
      try simp only [Act.put, sQa, sQb, sQc, gQa, gQb, gQc]
      refine' wpAnyH_take (i := 3) (oi := _) (v := _) rfl (by kernel_rfl) (by kernel_rfl) (by kernel_rfl) (fun _ _ _ h => h) (Or.inr ⟨by rfl, rfl⟩) (by assumption) ?_
      try simp only [Act.put, sQa, sQb, sQc, gQa, gQb, gQc]
      refine' wpAnyH_take (i := 4) (oi := _) (v := _) rfl (by kernel_rfl) (by kernel_rfl) (by kernel_rfl) (fun _ _ _ h => h) (Or.inr ⟨by rfl, rfl⟩) (by assumption) ?_
      try simp only [Act.put, sQa, sQb, sQc, gQa, gQb, gQc]
      refine' wpAnyH_take (i := 5) (oi := _) (v := _) rfl (by kernel_rfl) (by kernel_rfl) (by kernel_rfl) (fun _ _ _ h => h) (Or.inr ⟨by rfl, rfl⟩) (by assumption) ?_
      try simp only [Act.put, sQa, sQb, sQc, gQa, gQb, gQc]
      refine' wpAnyH_take (i := 6) (oi := _) (v := _) rfl (by kernel_rfl) (by kernel_rfl) (by kernel_rfl) (fun _ _ _ h => h) (Or.inr ⟨by rfl, rfl⟩) (by assumption) ?_
      try simp only [Act.put, sQa, sQb, sQc, gQa, gQb, gQc]
      refine' wpAnyH_take (i := 7) (oi := _) (v := _) rfl (by kernel_rfl) (by kernel_rfl) (by kernel_rfl) (fun _ _ _ h => h) (Or.inr ⟨by rfl, rfl⟩) (by assumption) ?_
      try simp only [Act.put, sQa, sQb, sQc, gQa, gQb, gQc]
      refine' wpAnyH_take (i := 8) (oi := _) (v := _) rfl (by kernel_rfl) (by kernel_rfl) (by kernel_rfl) (fun _ _ _ h => h) (Or.inr ⟨by rfl, rfl⟩) (by assumption) ?_
      try simp only [Act.put, sQa, sQb, sQc, gQa, gQb, gQc]
      refine' wpAnyH_take (i := 9) (oi := _) (v := _) rfl (by kernel_rfl) (by kernel_rfl) (by kernel_rfl) (fun _ _ _ h => h) (Or.inr ⟨by rfl, rfl⟩) (by assumption) ?_
      try simp only [Act.put, sQa, sQb, sQc, gQa, gQb, gQc]
      refine' wpAnyH_take (i := 10) (oi := _) (v := _) rfl (by kernel_rfl) (by kernel_rfl) (by kernel_rfl) (fun _ _ _ h => h) (Or.inr ⟨by rfl, rfl⟩) (by assumption) ?_
      try simp only [Act.put, sQa, sQb, sQc, gQa, gQb, gQc]
      refine' wpAnyH_take (i := 11) (oi := _) (v := _) rfl (by kernel_rfl) (by kernel_rfl) (by kernel_rfl) (fun _ _ _ h => h) (Or.inr ⟨by rfl, rfl⟩) (by assumption) ?_
      try simp only [Act.put, sQa, sQb, sQc, gQa, gQb, gQc]
      refine' wpAnyH_take (i := 12) (oi := _) (v := _) rfl (by kernel_rfl) (by kernel_rfl) (by kernel_rfl) (fun _ _ _ h => h) (Or.inr ⟨by rfl, rfl⟩) (by assumption) ?_
      try simp only [Act.put, sQa, sQb, sQc, gQa, gQb, gQc]
      refine' wpAnyH_take (i := 13) (oi := _) (v := _) rfl (by kernel_rfl) (by kernel_rfl) (by kernel_rfl) (fun _ _ _ h => h) (Or.inr ⟨by rfl, rfl⟩) (by assumption) ?_
      try simp only [Act.put, sQa, sQb, sQc, gQa, gQb, gQc]
      refine' wpAnyH_take (i := 14) (oi := _) (v := _) rfl (by kernel_rfl) (by kernel_rfl) (by kernel_rfl) (fun _ _ _ h => h) (Or.inr ⟨by rfl, rfl⟩) (by assumption) ?_
      try simp only [Act.put, sQa, sQb, sQc, gQa, gQb, gQc]
      refine' wpAnyH_take (i := 15) (oi := _) (v := _) rfl (by kernel_rfl) (by kernel_rfl) (by kernel_rfl) (fun _ _ _ h => h) (Or.inr ⟨by rfl, rfl⟩) (by assumption) ?_
      try simp only [Act.put, sQa, sQb, sQc, gQa, gQb, gQc]
      refine' wpAnyH_take (i := 16) (oi := _) (v := _) rfl (by kernel_rfl) (by kernel_rfl) (by kernel_rfl) (fun _ _ _ h => h) (Or.inr ⟨by rfl, rfl⟩) (by assumption) ?_
      try simp only [Act.put, sQa, sQb, sQc, gQa, gQb, gQc]
      refine' wpAnyH_take (i := 17) (oi := _) (v := _) rfl (by kernel_rfl) (by kernel_rfl) (by kernel_rfl) (fun _ _ _ h => h) (Or.inr ⟨by rfl, rfl⟩) (by assumption) ?_
      try simp only [Act.put, sQa, sQb, sQc, gQa, gQb, gQc]
      refine' wpAnyH_take (i := 18) (oi := _) (v := _) rfl (by kernel_rfl) (by kernel_rfl) (by kernel_rfl) (fun _ _ _ h => h) (Or.inr ⟨by rfl, rfl⟩) (by assumption) ?_
      try simp only [Act.put, sQa, sQb, sQc, gQa, gQb, gQc]
      refine' wpAnyH_take (i := 19) (oi := _) (v := ?_) rfl (by kernel_rfl) (by kernel_rfl) (by kernel_rfl) (fun _ _ _ h => h) (Or.inl ⟨by rfl, ?_⟩) (by assumption) ?_
      rotate_left
      · intro W hSw
        go_simp
        first | done | (with_reducible rfl)
      try simp only [Act.put, sQa, sQb, sQc, gQa, gQb, gQc]
      refine wpAnyH_done (by kernel_rfl) ?_ _
      refine NoPanic.normal ?_
      go_wp2_with (first
        | ((with_reducible refine wpList_load_rng rfl 50 (.tmp 7) rfl w.heap.size 0 rfl cs _ ?_ hun rfl hiN.out ?_); exact rangeBel2 hHeld q0.out))
      refine (hA.out _ (T0.out.bel hHeld) (Enc.kept x0.out fun b hb hl => hHeld.block b hl) (Nat.le_trans h8B.out hHeld.size)).mono ?_
      rintro r w2 ⟨rfl, T2, S2, B2⟩
      go_wp2
      go_ret
      exact ⟨rfl, T2.less (fun b hb => .inl hb), (S0.out.trans (stay_old (fun b hb => Nat.lt_of_lt_of_le (hPl.out b hb) (by have := sz0.out; omega)) hHeld)).trans (S2.mono fun b hb => .inl hb), (W0.out.trans (hHeld.mono h8B.out)).trans B2⟩
    · obtain ⟨hl, hk⟩ : (ndAt ns n).leaf = true ∧ (ndAt ns n).k = k := by rcases hend with h | h; exact absurd h hz; exact h
      obtain ⟨j, rfl⟩ : ∃ j : Nat, n = (j : Int) + 1 := ⟨(n - 1).toNat, by omega⟩
      have hj : j < ns.length := by omega
      have hxn := ndAt_at hj
      rw [hxn] at hl hk
      have hne : ((j : Int) + 1 == 0) = false := beq_eq_false_iff_ne.2 hz
      rw [show leafB ns ((j : Int) + 1) = true by unfold leafB; rw [hxn, hl, decide_eq_true hz]; rfl] at hLf
      obtain ⟨q, o, hAe, A', c', hR, _⟩ := row_nd r0.out hj
      subst hAe
      have hN := hid (fun W (hW : W.rangeAt q (o + j * 36) (ndC ns[j] A' c')) => PNode_at q o j ns.length c root ns[j] A' c' W hW hj (by omega))
      have hF := fun W => field_key ns[j] A' c' W
      rw [hk, hdk.out] at hF
      have hE : ∀ W, (Op.equalIn 10000 23 (.agg dk.toArray) (.agg dk.toArray)).run Tryd.prog W = .ok true W := fun W => by have := eqd_is k k true (decide_eq_true rfl) W; rw [hdk.out] at this; exact this
      generalize ndC ns[j] A' c' = xs at *
      replace hR := hid hR
      clear hl hk hxn
      go_enter Tryd.func52, Tryd.ntmps52
      go_wp2
      generalize w.alloc (.cells cs.toArray 50) = w0 at *
      refine wp_region_noPanic ?_
      refine wp_region_held_drew (S := fun w' => Below w0.heap.size w0 w') (by kernel_rfl) ?_ (fun hHeld => ?_)
      · exact bel_drew w0
      refine' wpAnyH_take (i := 0) (oi := _) (v := ?_) rfl (by kernel_rfl) (by kernel_rfl) (by kernel_rfl) (fun _ _ _ h => h) (Or.inl ⟨by rfl, ?_⟩) (by assumption) ?_
      rotate_left
      · intro W hSw
        go_simp
        first | done | (with_reducible rfl)
      try simp only [Act.put, sQa, sQb, sQc, gQa, gQb, gQc]
      refine' wpAnyH_take (i := 1) (oi := _) (v := ?_) rfl (by kernel_rfl) (by kernel_rfl) (by kernel_rfl) (fun _ _ _ h => h) (Or.inl ⟨by rfl, ?_⟩) (by assumption) ?_
      rotate_left
      · intro W hSw
        go_simp
        first | done | (with_reducible rfl)
      try simp only [Act.put, sQa, sQb, sQc, gQa, gQb, gQc]
      refine' wpAnyH_take (i := 2) (oi := _) (v := ?_) rfl (by kernel_rfl) (by kernel_rfl) (by kernel_rfl) (fun _ _ _ h => h) (Or.inl ⟨by rfl, ?_⟩) (by assumption) ?_
      rotate_left
      · intro W hSw
        go_simp
        first | done | (with_reducible rfl)
      try simp only [Act.put, sQa, sQb, sQc, gQa, gQb, gQc]
      refine' wpAnyH_take (i := 3) (oi := _) (v := ?_) rfl (by kernel_rfl) (by kernel_rfl) (by kernel_rfl) (fun _ _ _ h => h) (Or.inl ⟨by rfl, ?_⟩) (by assumption) ?_
      rotate_left
      · intro W hSw
        go_simp
        first | done | (with_reducible rfl)
      try simp only [Act.put, sQa, sQb, sQc, gQa, gQb, gQc]
      refine' wpAnyH_take (i := 4) (oi := _) (v := ?_) rfl (by kernel_rfl) (by kernel_rfl) (by kernel_rfl) (fun _ _ _ h => h) (Or.inl ⟨by rfl, ?_⟩) (by assumption) ?_
      rotate_left
      · intro W hSw
        go_simp
        first | done | (with_reducible rfl)
      try simp only [Act.put, sQa, sQb, sQc, gQa, gQb, gQc]
      refine' wpAnyH_take (i := 5) (oi := _) (v := _) rfl (by kernel_rfl) (by kernel_rfl) (by kernel_rfl) (fun _ _ _ h => h) (yieldsIf_load_mid (by rfl) _ _ rfl _ _ rfl _ _ (fun _ h => rangeBel2 h R0.out) hutr rfl hiTr.out) (by assumption) ?_
      try simp only [Act.put, sQa, sQb, sQc, gQa, gQb, gQc]
      refine' wpAnyH_take (i := 6) (oi := _) (v := ?_) rfl (by kernel_rfl) (by kernel_rfl) (by kernel_rfl) (fun _ _ _ h => h) (Or.inl ⟨by rfl, ?_⟩) (by assumption) ?_
      rotate_left
      · intro W hSw
        go_simp
        first | done | (with_reducible rfl)
      try simp only [Act.put, sQa, sQb, sQc, gQa, gQb, gQc]
      refine wpAnyH_ready (rs := [7]) (by kernel_rfl) (by simp) ?_
      refine AllReadyH.cons (o := _) rfl (fun K hK => ?_) AllReadyH.nil
      go_simp
      refine (hLf.out _ (r0.out.bel hHeld)).mono ?_
      rintro e1 w7 ⟨rfl, hB⟩
      go_wp2_with fail
      refine hK.out _ _ ?_ (fun hHeld => ?_)
      · exact hHeld.trans (hB.mono hHeld.size)
      clear hK K
      try simp only [Act.put, sQa, sQb, sQc, gQa, gQb, gQc]
      refine' wpAnyH_take (i := 8) (oi := _) (v := ?_) rfl (by kernel_rfl) (by kernel_rfl) (by kernel_rfl) (fun _ _ _ h => h) (Or.inl ⟨by rfl, ?_⟩) (by assumption) ?_
      rotate_left
      · intro W hSw
        go_simp
        first | done | (with_reducible rfl)
      try simp only [Act.put, sQa, sQb, sQc, gQa, gQb, gQc]
      refine' wpAnyH_take (i := 9) (oi := _) (v := ?_) rfl (by kernel_rfl) (by kernel_rfl) (by kernel_rfl) (fun _ _ _ h => h) (Or.inl ⟨by rfl, ?_⟩) (by assumption) ?_
      rotate_left
      · intro W hSw
        go_simp
        first | done | (with_reducible rfl)
      try simp only [Act.put, sQa, sQb, sQc, gQa, gQb, gQc]
      refine' wpAnyH_take (i := 10) (oi := _) (v := ?_) rfl (by kernel_rfl) (by kernel_rfl) (by kernel_rfl) (fun _ _ _ h => h) (Or.inl ⟨by rfl, ?_⟩) (by assumption) ?_
      rotate_left
      · intro W hSw
        go_simp
        first | done | (with_reducible rfl)
      try simp only [Act.put, sQa, sQb, sQc, gQa, gQb, gQc]
      refine' wpAnyH_take (i := 11) (oi := _) (v := _) rfl (by kernel_rfl) (by kernel_rfl) (by kernel_rfl) (fun _ _ _ h => h) (yieldsIf_load_mid (by rfl) _ _ rfl _ _ rfl _ _ (fun _ h => rangeBel2 h R0.out) hutr rfl hiTr.out) (by assumption) ?_
      try simp only [Act.put, sQa, sQb, sQc, gQa, gQb, gQc]
      refine' wpAnyH_take (i := 12) (oi := _) (v := ?_) rfl (by kernel_rfl) (by kernel_rfl) (by kernel_rfl) (fun _ _ _ h => h) (Or.inl ⟨by rfl, ?_⟩) (by assumption) ?_
      rotate_left
      · intro W hSw
        go_simp
        first | done | (with_reducible rfl)
      try simp only [Act.put, sQa, sQb, sQc, gQa, gQb, gQc]
      refine' wpAnyH_take (i := 15) (oi := _) (v := ?_) rfl (by kernel_rfl) (by kernel_rfl) (by kernel_rfl) (fun _ _ _ h => h) (Or.inl ⟨by rfl, ?_⟩) (by assumption) ?_
      rotate_left
      · intro W hSw
        go_simp
        first | done | (with_reducible rfl)
      try simp only [Act.put, sQa, sQb, sQc, gQa, gQb, gQc]
      refine' wpAnyH_take (i := 16) (oi := _) (v := _) rfl (by kernel_rfl) (by kernel_rfl) (by kernel_rfl) (fun _ _ _ h => h) (yieldsIf_load_mid (by rfl) _ _ rfl _ _ rfl _ _ (fun _ h => rangeBel2 h k0.out) hu rfl hi.out) (by assumption) ?_
      try simp only [Act.put, sQa, sQb, sQc, gQa, gQb, gQc]
      refine wpAnyH_ready (rs := [13]) (by kernel_rfl) (by simp) ?_
      refine AllReadyH.cons (o := _) rfl (fun K hK => ?_) AllReadyH.nil
      go_simp
      refine (hN.out _ (rangeBel2 hHeld hR.out)).mono ?_
      rintro e1 w8 ⟨rfl, hB⟩
      go_wp2_with fail
      refine hK.out _ _ ?_ (fun hHeld => ?_)
      · exact hHeld.trans (hB.mono hHeld.size)
      clear hK K
      try simp only [Act.put, sQa, sQb, sQc, gQa, gQb, gQc]
      refine' wpAnyH_take (i := 14) (oi := _) (v := (.agg dk.toArray)) rfl (by kernel_rfl) (by kernel_rfl) (by kernel_rfl) (fun _ _ _ h => h) (Or.inl ⟨by rfl, ?_⟩) (by assumption) ?_
      · intro W hSw
        go_simp
        first | done | (simp only [hF]; done)
      try simp only [Act.put, sQa, sQb, sQc, gQa, gQb, gQc]
      refine' wpAnyH_take (i := 17) (oi := _) (v := ?_) rfl (by kernel_rfl) (by kernel_rfl) (by kernel_rfl) (fun _ _ _ h => h) (Or.inl ⟨by rfl, ?_⟩) (by assumption) ?_
      rotate_left
      · intro W hSw
        go_simp
        first | done | (with_reducible rfl)
      try simp only [Act.put, sQa, sQb, sQc, gQa, gQb, gQc]
      refine' wpAnyH_take (i := 18) (oi := _) (v := ?_) rfl (by kernel_rfl) (by kernel_rfl) (by kernel_rfl) (fun _ _ _ h => h) (Or.inl ⟨by rfl, ?_⟩) (by assumption) ?_
      rotate_left
      · intro W hSw
        go_simp
        first | done | (with_reducible rfl)
      try simp only [Act.put, sQa, sQb, sQc, gQa, gQb, gQc]
      refine' wpAnyH_take (i := 19) (oi := _) (v := ?_) rfl (by kernel_rfl) (by kernel_rfl) (by kernel_rfl) (fun _ _ _ h => h) (Or.inl ⟨by rfl, ?_⟩) (by assumption) ?_
      rotate_left
      · intro W hSw
        go_simp
        first | done | (with_reducible rfl)
      try simp only [Act.put, sQa, sQb, sQc, gQa, gQb, gQc]
      refine wpAnyH_done (by kernel_rfl) ?_ _
      refine NoPanic.normal ?_
      go_wp2_with (first
        | ((with_reducible refine wpList_load_rng rfl 50 (.tmp 7) rfl w.heap.size 0 rfl cs _ ?_ hun rfl hiN.out ?_); exact rangeBel2 hHeld q0.out))
      refine (hA.out _ (T0.out.bel hHeld) (Enc.kept x0.out fun b hb hl => hHeld.block b hl) (Nat.le_trans h8B.out hHeld.size)).mono ?_
      rintro r w2 ⟨rfl, T2, S2, B2⟩
      go_wp2
      go_ret
      exact ⟨rfl, T2.less (fun b hb => .inl hb), (S0.out.trans (stay_old (fun b hb => Nat.lt_of_lt_of_le (hPl.out b hb) (by have := sz0.out; omega)) hHeld)).trans (S2.mono fun b hb => .inl hb), (W0.out.trans (hHeld.mono h8B.out)).trans B2⟩
  · rcases e with _ | e
    · exact absurd (pg_end hG.out) hend
    have hz : n ≠ 0 := fun h => hend (.inl h)
    obtain ⟨⟨l0, l1⟩, ⟨r0', r1⟩, gl, gr⟩ := pg_down ho (by omega) hG.out hend
    have hdf : 255 - e = d := by omega
    rw [hdf] at l0 l1 r0' r1 gl gr
    have hstep := putN_step (k := k) (v := v) (e := e) (show ¬ (n = 0 ∨ ((ndAt ns n).leaf = true ∧ (ndAt ns n).k = k)) from hend)
    rw [hdf] at hstep
    have hd2 : d < 256 := by omega
    have hwd : IntKind.i64.wrap ((d : Int) + 1) = d + 1 := by rw [IntKind.wrap_i64]; omega
    have hBt := hid (fun W => PTBit_is k d hd2 _ W rfl)
    have hFk := hid (fun (f : Nat) => fun (m : Int) (h : PG ns k e m) => pg_put (v := v) ho hv (by omega) h)
    have ihF := hid (fun (m : Int) (W : World) (P : Nat → Prop) => ih e rfl m W P)
    have hbit := kb_lt k.1 d
    rw [hdk.out] at hBt
    clear ih
    obtain ⟨j, rfl⟩ : ∃ j : Nat, n = (j : Int) + 1 := ⟨(n - 1).toNat, by omega⟩
    have hj : j < ns.length := by omega
    have hxn := ndAt_at hj
    have hne : ((j : Int) + 1 == 0) = false := beq_eq_false_iff_ne.2 hz
    obtain ⟨q, o, hAe, A', c', hR, _⟩ := row_nd r0.out hj
    subst hAe
    have z20 := hid (zInfo2)
    cases hl : ns[j].leaf with
    | true =>
      have hnk : ns[j].k ≠ k := fun h => hend (.inr ⟨by rw [hxn]; exact hl, by rw [hxn]; exact h⟩)
      rw [show leafB ns ((j : Int) + 1) = true by unfold leafB; rw [hxn, hl, decide_eq_true hz]; rfl] at hLf
      have hN := hid (fun W (hW : W.rangeAt q (o + j * 36) (ndC ns[j] A' c')) => PNode_at q o j ns.length c root ns[j] A' c' W hW hj (by omega))
      have hF := fun W => field_key ns[j] A' c' W
      have hE : ∀ W, (Op.equalIn 10000 23 (.agg (ns[j].k.1.map bv).toArray) (.agg dk.toArray)).run Tryd.prog W = .ok false W := fun W => by have := eqd_is ns[j].k k false (decide_eq_false hnk) W; rw [hdk.out] at this; exact this
      have hBn := hid (fun W => PTBit_is ns[j].k d hd2 _ W rfl)
      have hbn := kb_lt ns[j].k.1 d
      have hL : lftD ns d ((j : Int) + 1) = if kb ns[j].k.1 d = 1 then 0 else (j : Int) + 1 := by unfold lftD; rw [hxn, hl, if_pos rfl]
      have hRr : rgtD ns d ((j : Int) + 1) = if kb ns[j].k.1 d = 1 then (j : Int) + 1 else 0 := by unfold rgtD; rw [hxn, hl, if_pos rfl]
      generalize ndC ns[j] A' c' = xs at *
      generalize ns[j].k.1.map bv = dn at *
      generalize kb ns[j].k.1 d = bn at *
      generalize lftD ns d ((j : Int) + 1) = L at *
      generalize rgtD ns d ((j : Int) + 1) = RR at *
      replace hR := hid hR
      replace hstep := hid hstep
      replace gl := hid gl
      replace gr := hid gr
      clear hnk hxn hend hl
      go_enter Tryd.func52, Tryd.ntmps52
      go_wp2
      generalize w.alloc (.cells cs.toArray 50) = w0 at *
      refine wp_region_noPanic ?_
      refine wp_region_held_drew (S := fun w' => Below w0.heap.size w0 w') (by kernel_rfl) ?_ (fun hHeld => ?_)
      · exact bel_drew w0
      refine' wpAnyH_take (i := 0) (oi := _) (v := ?_) rfl (by kernel_rfl) (by kernel_rfl) (by kernel_rfl) (fun _ _ _ h => h) (Or.inl ⟨by rfl, ?_⟩) (by assumption) ?_
      rotate_left
      · intro W hSw
        go_simp
        first | done | (with_reducible rfl)
      try simp only [Act.put, sQa, sQb, sQc, gQa, gQb, gQc]
      refine' wpAnyH_take (i := 1) (oi := _) (v := ?_) rfl (by kernel_rfl) (by kernel_rfl) (by kernel_rfl) (fun _ _ _ h => h) (Or.inl ⟨by rfl, ?_⟩) (by assumption) ?_
      rotate_left
      · intro W hSw
        go_simp
        first | done | (with_reducible rfl)
      try simp only [Act.put, sQa, sQb, sQc, gQa, gQb, gQc]
      refine' wpAnyH_take (i := 2) (oi := _) (v := ?_) rfl (by kernel_rfl) (by kernel_rfl) (by kernel_rfl) (fun _ _ _ h => h) (Or.inl ⟨by rfl, ?_⟩) (by assumption) ?_
      rotate_left
      · intro W hSw
        go_simp
        first | done | (with_reducible rfl)
      try simp only [Act.put, sQa, sQb, sQc, gQa, gQb, gQc]
      refine' wpAnyH_take (i := 3) (oi := _) (v := ?_) rfl (by kernel_rfl) (by kernel_rfl) (by kernel_rfl) (fun _ _ _ h => h) (Or.inl ⟨by rfl, ?_⟩) (by assumption) ?_
      rotate_left
      · intro W hSw
        go_simp
        first | done | (with_reducible rfl)
      try simp only [Act.put, sQa, sQb, sQc, gQa, gQb, gQc]
      refine' wpAnyH_take (i := 4) (oi := _) (v := ?_) rfl (by kernel_rfl) (by kernel_rfl) (by kernel_rfl) (fun _ _ _ h => h) (Or.inl ⟨by rfl, ?_⟩) (by assumption) ?_
      rotate_left
      · intro W hSw
        go_simp
        first | done | (with_reducible rfl)
      try simp only [Act.put, sQa, sQb, sQc, gQa, gQb, gQc]
      refine' wpAnyH_take (i := 5) (oi := _) (v := _) rfl (by kernel_rfl) (by kernel_rfl) (by kernel_rfl) (fun _ _ _ h => h) (yieldsIf_load_mid (by rfl) _ _ rfl _ _ rfl _ _ (fun _ h => rangeBel2 h R0.out) hutr rfl hiTr.out) (by assumption) ?_
      try simp only [Act.put, sQa, sQb, sQc, gQa, gQb, gQc]
      refine' wpAnyH_take (i := 6) (oi := _) (v := ?_) rfl (by kernel_rfl) (by kernel_rfl) (by kernel_rfl) (fun _ _ _ h => h) (Or.inl ⟨by rfl, ?_⟩) (by assumption) ?_
      rotate_left
      · intro W hSw
        go_simp
        first | done | (with_reducible rfl)
      try simp only [Act.put, sQa, sQb, sQc, gQa, gQb, gQc]
      refine wpAnyH_ready (rs := [7]) (by kernel_rfl) (by simp) ?_
      refine AllReadyH.cons (o := _) rfl (fun K hK => ?_) AllReadyH.nil
      go_simp
      refine (hLf.out _ (r0.out.bel hHeld)).mono ?_
      rintro e1 w7 ⟨rfl, hB⟩
      go_wp2_with fail
      refine hK.out _ _ ?_ (fun hHeld => ?_)
      · exact hHeld.trans (hB.mono hHeld.size)
      clear hK K
      try simp only [Act.put, sQa, sQb, sQc, gQa, gQb, gQc]
      refine' wpAnyH_take (i := 8) (oi := _) (v := ?_) rfl (by kernel_rfl) (by kernel_rfl) (by kernel_rfl) (fun _ _ _ h => h) (Or.inl ⟨by rfl, ?_⟩) (by assumption) ?_
      rotate_left
      · intro W hSw
        go_simp
        first | done | (with_reducible rfl)
      try simp only [Act.put, sQa, sQb, sQc, gQa, gQb, gQc]
      refine' wpAnyH_take (i := 9) (oi := _) (v := ?_) rfl (by kernel_rfl) (by kernel_rfl) (by kernel_rfl) (fun _ _ _ h => h) (Or.inl ⟨by rfl, ?_⟩) (by assumption) ?_
      rotate_left
      · intro W hSw
        go_simp
        first | done | (with_reducible rfl)
      try simp only [Act.put, sQa, sQb, sQc, gQa, gQb, gQc]
      refine' wpAnyH_take (i := 10) (oi := _) (v := ?_) rfl (by kernel_rfl) (by kernel_rfl) (by kernel_rfl) (fun _ _ _ h => h) (Or.inl ⟨by rfl, ?_⟩) (by assumption) ?_
      rotate_left
      · intro W hSw
        go_simp
        first | done | (with_reducible rfl)
      try simp only [Act.put, sQa, sQb, sQc, gQa, gQb, gQc]
      refine' wpAnyH_take (i := 11) (oi := _) (v := _) rfl (by kernel_rfl) (by kernel_rfl) (by kernel_rfl) (fun _ _ _ h => h) (yieldsIf_load_mid (by rfl) _ _ rfl _ _ rfl _ _ (fun _ h => rangeBel2 h R0.out) hutr rfl hiTr.out) (by assumption) ?_
      try simp only [Act.put, sQa, sQb, sQc, gQa, gQb, gQc]
      refine' wpAnyH_take (i := 12) (oi := _) (v := ?_) rfl (by kernel_rfl) (by kernel_rfl) (by kernel_rfl) (fun _ _ _ h => h) (Or.inl ⟨by rfl, ?_⟩) (by assumption) ?_
      rotate_left
      · intro W hSw
        go_simp
        first | done | (with_reducible rfl)
      try simp only [Act.put, sQa, sQb, sQc, gQa, gQb, gQc]
      refine' wpAnyH_take (i := 15) (oi := _) (v := ?_) rfl (by kernel_rfl) (by kernel_rfl) (by kernel_rfl) (fun _ _ _ h => h) (Or.inl ⟨by rfl, ?_⟩) (by assumption) ?_
      rotate_left
      · intro W hSw
        go_simp
        first | done | (with_reducible rfl)
      try simp only [Act.put, sQa, sQb, sQc, gQa, gQb, gQc]
      refine' wpAnyH_take (i := 16) (oi := _) (v := _) rfl (by kernel_rfl) (by kernel_rfl) (by kernel_rfl) (fun _ _ _ h => h) (yieldsIf_load_mid (by rfl) _ _ rfl _ _ rfl _ _ (fun _ h => rangeBel2 h k0.out) hu rfl hi.out) (by assumption) ?_
      try simp only [Act.put, sQa, sQb, sQc, gQa, gQb, gQc]
      refine wpAnyH_ready (rs := [13]) (by kernel_rfl) (by simp) ?_
      refine AllReadyH.cons (o := _) rfl (fun K hK => ?_) AllReadyH.nil
      go_simp
      refine (hN.out _ (rangeBel2 hHeld hR.out)).mono ?_
      rintro e1 w8 ⟨rfl, hB⟩
      go_wp2_with fail
      refine hK.out _ _ ?_ (fun hHeld => ?_)
      · exact hHeld.trans (hB.mono hHeld.size)
      clear hK K
      try simp only [Act.put, sQa, sQb, sQc, gQa, gQb, gQc]
      refine' wpAnyH_take (i := 14) (oi := _) (v := (.agg dn.toArray)) rfl (by kernel_rfl) (by kernel_rfl) (by kernel_rfl) (fun _ _ _ h => h) (Or.inl ⟨by rfl, ?_⟩) (by assumption) ?_
      · intro W hSw
        go_simp
        first | done | (simp only [hF]; done)
      try simp only [Act.put, sQa, sQb, sQc, gQa, gQb, gQc]
      refine' wpAnyH_take (i := 17) (oi := _) (v := ?_) rfl (by kernel_rfl) (by kernel_rfl) (by kernel_rfl) (fun _ _ _ h => h) (Or.inl ⟨by rfl, ?_⟩) (by assumption) ?_
      rotate_left
      · intro W hSw
        go_simp
        first | done | (with_reducible rfl)
      try simp only [Act.put, sQa, sQb, sQc, gQa, gQb, gQc]
      refine' wpAnyH_take (i := 18) (oi := _) (v := ?_) rfl (by kernel_rfl) (by kernel_rfl) (by kernel_rfl) (fun _ _ _ h => h) (Or.inl ⟨by rfl, ?_⟩) (by assumption) ?_
      rotate_left
      · intro W hSw
        go_simp
        first | done | (with_reducible rfl)
      try simp only [Act.put, sQa, sQb, sQc, gQa, gQb, gQc]
      refine' wpAnyH_take (i := 19) (oi := _) (v := ?_) rfl (by kernel_rfl) (by kernel_rfl) (by kernel_rfl) (fun _ _ _ h => h) (Or.inl ⟨by rfl, ?_⟩) (by assumption) ?_
      rotate_left
      · intro W hSw
        go_simp
        first | done | (with_reducible rfl)
      try simp only [Act.put, sQa, sQb, sQc, gQa, gQb, gQc]
      refine wpAnyH_done (by kernel_rfl) ?_ _
      refine NoPanic.normal ?_
      have e1 := hid (heap_alloc_new w8 (.cells z2C 131))
      have B1 := hid (hHeld.trans ((ext_alloc w8 (.cells z2C 131)).mono hHeld.size))
      have rb := hid hHeld.size
      have sz1 := hid (World.size_alloc w8 (.cells z2C 131))
      go_wp2_with (first
        | (with_reducible refine wpList_alloc_row rfl 131 rfl z2C zInfo2 ?_)
        | ((with_reducible refine wpList_load_rng rfl 86 (.tmp 35) rfl g 0 rfl [Value.slice (some ⟨q, o, none⟩) ns.length c, .int .i64 root] _ ?_ hutr rfl hiTr.out ?_); exact rangeBel2 B1.out R0.out))
      refine (hLf.out _ (r0.out.bel B1.out)).mono ?_
      rintro r w2 ⟨rfl, hb⟩
      have e2 := hid ((hb.block _ (block_lt e1.out)).trans e1.out)
      have B2 := hid (B1.out.trans (hb.mono B1.out.size))
      have lt2 := hid (Nat.lt_of_lt_of_le (show w8.heap.size < (w8.alloc (.cells z2C 131)).heap.size by rw [sz1.out]; omega) hb.size)
      clear hb e1 B1 hHeld sz1
      generalize w8.heap.size = b2 at *
      go_wp2_with (first
        | ((with_reducible refine wpList_load_rng rfl 86 (.tmp 40) rfl g 0 rfl [Value.slice (some ⟨q, o, none⟩) ns.length c, .int .i64 root] _ ?_ hutr rfl hiTr.out ?_); exact rangeBel2 B2.out R0.out))
      refine (hN.out _ (rangeBel2 B2.out hR.out)).mono ?_
      rintro r w3 ⟨rfl, hb⟩
      have e3 := hid ((hb.block _ (block_lt e2.out)).trans e2.out)
      have B3 := hid (B2.out.trans (hb.mono B2.out.size))
      have lt3 := hid (Nat.lt_of_lt_of_le lt2.out hb.size)
      clear hb e2 B2 lt2
      go_wp2_with fail
      refine (hBn.out _).mono ?_
      rintro r w4 ⟨rfl, hb⟩
      have e4 := (hb.block _ (block_lt e3.out)).trans e3.out
      have B4 := hid (B3.out.trans (hb.mono B3.out.size))
      have lt4 := hid (Nat.lt_of_lt_of_le lt3.out hb.size)
      have f40 := block_frozen e4 0
      have f41 := block_frozen e4 1
      have c40 := block_cell e4 0
      have c41 := block_cell e4 1
      simp only [z2C, List.getElem?_toArray, List.getElem?_cons_zero, List.getElem?_cons_succ] at c40 c41
      replace e4 := hid e4
      clear hb e3 B3 lt3 hF hE
      rcases (show bn = 0 ∨ bn = 1 by omega) with rfl | rfl
      · obtain rfl : L = (j : Int) + 1 := by rw [hL, if_neg (by decide)]
        obtain rfl : RR = 0 := by rw [hRr, if_neg (by decide)]
        clear hL hRr
        have e5 := hid (block_set e4.out 0 (.int .i64 ((j : Int) + 1)))
        have B5 := hid (B4.out.setCell (p := ⟨b2, 0, none⟩) rb.out (.int .i64 ((j : Int) + 1)))
        rw [show (z2C : Array Value).setIfInBounds 0 (.int .i64 ((j : Int) + 1)) = #[.int .i64 ((j : Int) + 1), .int .i64 0] from rfl] at e5
        have lt5 := hid (show b2 < (w4.setCell ⟨b2, 0, none⟩ (.int .i64 ((j : Int) + 1))).heap.size by have := block_lt e5.out; exact this)
        go_wp2_with (first
          | ((with_reducible refine wpList_load_rng rfl 23 (.tmp 54) rfl w.heap.size 1 rfl dk _ ?_ hu rfl hi.out ?_); exact rangeBel2 B5.out k0.out))
        clear e4 B4 lt4 f40 f41 c40 c41
        generalize w4.setCell ⟨b2, 0, none⟩ (.int .i64 ((j : Int) + 1)) = w5 at *
        generalize kb k.1 d = bb at *
        rcases (show bb = 0 ∨ bb = 1 by omega) with rfl | rfl
        · as_aux_lemma =>
            have hres := hstep.out
            rw [if_neg (by decide)] at hres
            have hg1 := gl.out rfl
            obtain ⟨p1, p2, p3⟩ := hFk.out 0 _ hg1
            have iha := ihF.out ((j : Int) + 1)
            generalize putN ns k v e ((j : Int) + 1) = rp at *
            obtain ⟨ns2, M⟩ := rp
            dsimp only at p1 p2 p3 hres
            replace hres := hid hres
            have hg1 := hid hg1
            replace iha := hid iha
            have hfk := hid (fun W h1 h2 => PAddFork_any W g B0 F (fun b => (P b ∨ b = w.heap.size) ∨ b = b2) ns2 root (M) (0) h1 h2 (by omega) ⟨by omega, by omega⟩ ⟨by omega, by omega⟩)
            clear hstep gl gr ihF hFk
            have e5c := block_cell e5.out 0
            simp only [List.getElem?_toArray, List.getElem?_cons_zero, List.getElem?_cons_succ] at e5c
            have T5 := hid ((T0.out.more (Q := fun b => b = b2) B5.out (fun b hb => by subst hb; exact ⟨rb.out, lt5.out⟩)))
            refine (hBt.out _).mono ?_
            rintro r w6 ⟨rfl, hb⟩
            have c6 := (hb.cell (p := ⟨b2, 0, none⟩) lt5.out).trans e5c
            have g6 := hid ((hb.block _ lt5.out).trans e5.out)
            have B6 := hid (B5.out.trans (hb.mono B5.out.size))
            have T6 := hid (T5.out.bel hb)
            have q6 := hid (rangeBel2 B6.out q0.out)
            have x6 := hid (Enc.kept x0.out (fun b hb hl => B6.out.block b hl))
            clear hb e5 e5c B5 T5 lt5
            go_wp2
            refine wp_region_noPanic ?_
            refine wp_region_held_drew (S := fun w' => w'.rangeAt w.heap.size 0 cs) (by kernel_rfl) ?_ (fun hHeld => ?_)
            · exact q6.out
            refine' wpAnyH_take (i := 0) (oi := _) (v := ?_) rfl (by kernel_rfl) (by kernel_rfl) (by kernel_rfl) (fun _ _ _ h => h) (Or.inl ⟨by rfl, ?_⟩) (by assumption) ?_
            rotate_left
            · intro W hSw
              go_simp
              first | done | (with_reducible rfl)
            try simp only [Act.put, sQa, sQb, sQc, gQa, gQb, gQc]
            refine' wpAnyH_take (i := 1) (oi := _) (v := ?_) rfl (by kernel_rfl) (by kernel_rfl) (by kernel_rfl) (fun _ _ _ h => h) (Or.inl ⟨by rfl, ?_⟩) (by assumption) ?_
            rotate_left
            · intro W hSw
              go_simp
              first | done | (with_reducible rfl)
            try simp only [Act.put, sQa, sQb, sQc, gQa, gQb, gQc]
            refine' wpAnyH_take (i := 2) (oi := _) (v := ?_) rfl (by kernel_rfl) (by kernel_rfl) (by kernel_rfl) (fun _ _ _ h => h) (Or.inl ⟨by rfl, ?_⟩) (by assumption) ?_
            rotate_left
            · intro W hSw
              go_simp
              first | done | (with_reducible rfl)
            try simp only [Act.put, sQa, sQb, sQc, gQa, gQb, gQc]
            refine' wpAnyH_take (i := 3) (oi := _) (v := ?_) rfl (by kernel_rfl) (by kernel_rfl) (by kernel_rfl) (fun _ _ _ h => h) (Or.inl ⟨by rfl, ?_⟩) (by assumption) ?_
            rotate_left
            · intro W hSw
              go_simp
              first | done | (with_reducible rfl)
            try simp only [Act.put, sQa, sQb, sQc, gQa, gQb, gQc]
            refine' wpAnyH_take (i := 5) (oi := _) (v := ?_) rfl (by kernel_rfl) (by kernel_rfl) (by kernel_rfl) (fun _ _ _ h => h) (Or.inl ⟨by rfl, ?_⟩) (by assumption) ?_
            rotate_left
            · intro W hSw
              go_simp
              first | done | (with_reducible rfl)
            try simp only [Act.put, sQa, sQb, sQc, gQa, gQb, gQc]
            refine' wpAnyH_take (i := 6) (oi := _) (v := ?_) rfl (by kernel_rfl) (by kernel_rfl) (by kernel_rfl) (fun _ _ _ h => h) (Or.inl ⟨by rfl, ?_⟩) (by assumption) ?_
            rotate_left
            · intro W hSw
              go_simp
              first | done | (with_reducible rfl)
            try simp only [Act.put, sQa, sQb, sQc, gQa, gQb, gQc]
            refine' wpAnyH_take (i := 7) (oi := _) (v := _) rfl (by kernel_rfl) (by kernel_rfl) (by kernel_rfl) (fun _ _ _ h => h) (yieldsIf_load_mid (by rfl) _ _ rfl _ _ rfl _ _ (fun _ h => h) hun rfl hiN.out) (by assumption) ?_
            try simp only [Act.put, sQa, sQb, sQc, gQa, gQb, gQc]
            refine wpAnyH_ready (rs := [4]) (by kernel_rfl) (by simp) ?_
            refine AllReadyH.cons (o := _) rfl (fun K hK => ?_) AllReadyH.nil
            go_simp
            refine hK.out _ _ ?_ (fun hHeld => ?_)
            · exact hHeld
            clear hK K
            try simp only [Act.put, sQa, sQb, sQc, gQa, gQb, gQc]
            refine wpAnyH_ready (rs := [8]) (by kernel_rfl) (by simp) ?_
            refine AllReadyH.cons (o := _) rfl (fun K hK => ?_) AllReadyH.nil
            go_simp
            refine (iha.out _ (fun b => (P b ∨ b = w.heap.size) ∨ b = b2) hg1.out (T6.out.bel (bel_drew w6)) (Nat.le_trans h8B.out B6.out.size) (Enc.kept x6.out fun _ _ _ => rfl) (fun b hb => .inl (.inl (hFP.out b hb)))).mono ?_
            rintro r w7 ⟨rfl, T7, S7, B7⟩
            have g7 := (S7 b2 (.inr rfl)).trans g6.out
            have f7 := block_frozen g7 0
            have d7 := block_cell g7 0
            simp only [List.getElem?_toArray, List.getElem?_cons_zero, List.getElem?_cons_succ] at d7
            replace g7 := hid g7
            replace T7 := hid T7
            replace S7 := hid S7
            replace B7 := hid B7
            go_wp2_with fail
            refine hK.out _ _ ?_ (fun hHeld => ?_)
            · exact rangeAt_kept hHeld (fun _ => S7 w.heap.size (.inl (.inr rfl)))
            clear hK K
            try simp only [Act.put, sQa, sQb, sQc, gQa, gQb, gQc]
            refine' wpAnyH_take (i := 9) (oi := _) (v := ?_) rfl (by kernel_rfl) (by kernel_rfl) (by kernel_rfl) (fun _ _ _ h => h) (Or.inl ⟨by rfl, ?_⟩) (by assumption) ?_
            rotate_left
            · intro W hSw
              go_simp
              first | done | (with_reducible rfl)
            try simp only [Act.put, sQa, sQb, sQc, gQa, gQb, gQc]
            refine wpAnyH_ready (rs := [10]) (by kernel_rfl) (by simp) ?_
            refine AllReadyH.cons (o := _) rfl (fun K hK => ?_) AllReadyH.nil
            go_simp
            refine hK.out _ _ ?_ (fun hHeld => ?_)
            · exact rangeAt_kept hHeld (fun _ => Below.heap_setCell _ _ _ _ (by have := rb.out; have := sz0.out; show w.heap.size ≠ b2; omega))
            clear hK K
            try simp only [Act.put, sQa, sQb, sQc, gQa, gQb, gQc]
            refine wpAnyH_done (by kernel_rfl) ?_ _
            refine NoPanic.normal ?_
            have g8 := hid (block_set g7.out 0 (.int .i64 M))
            have T8 := hid (T7.out.at_ (b0 := b2) (w' := w7.setCell ⟨b2, 0, none⟩ (.int .i64 M)) (.inr rfl) (fun h => by have := hFl.out b2 h; have := rb.out; have := sz0.out; omega) (by simp [World.setCell]) (fun b _ hn => Below.heap_setCell _ _ _ _ hn))
            have S8 := hid (fun b (hp : P b) => (Below.heap_setCell w7 ⟨b2, 0, none⟩ (.int .i64 M) b (by have := hPl.out b hp; have := rb.out; have := sz0.out; show b ≠ b2; omega)).trans ((S7.out b (.inl (.inl hp))).trans ((B6.out.block b (by have := hPl.out b hp; have := sz0.out; omega)).trans (S0.out b hp))))
            have B8 := hid (((W0.out.trans (B6.out.mono h8B.out)).trans (undrew B7.out)).setCell (p := ⟨b2, 0, none⟩) (Nat.le_trans h8B.out rb.out) (.int .i64 M))
            rw [set2_0] at g8
            have hsz8 := hid (show B0 ≤ (w7.setCell ⟨b2, 0, none⟩ (.int .i64 M)).heap.size by have := B8.out.size; omega)
            have r8 := hid (rangeOf (l := [Value.int .i64 (M), .int .i64 (0)]) g8.out)
            clear T7 S7 B7 g7 f7 d7 T6 c6 g6 B6 q6 x6 hHeld iha
            generalize w7.setCell ⟨b2, 0, none⟩ (.int .i64 M) = w8 at *
            have hi8 := hid (show (Tryd.prog.info? 131).map (·.size) = some ([Value.int .i64 (M), .int .i64 (0)]).length from size2)
            go_wp2_with (first
              | ((with_reducible refine wpList_load_rng rfl 131 (.tmp 9) rfl b2 0 rfl [Value.int .i64 (M), .int .i64 (0)] _ ?_ hu2 rfl hi8.out ?_); exact r8.out))
            refine (hfk.out _ T8.out hsz8.out).mono ?_
            rintro r w9 ⟨rfl, T9, S9, B9⟩
            go_wp2
            go_ret
            rw [hres.out]
            exact ⟨rfl, T9.less (fun b hb => .inl (.inl hb)), fun b hp => (S9 b (.inl (.inl hp))).trans (S8.out b hp), B8.out.trans B9⟩
        · as_aux_lemma =>
            have hres := hstep.out
            rw [if_pos rfl] at hres
            have hg1 := gr.out rfl
            obtain ⟨p1, p2, p3⟩ := hFk.out 0 _ hg1
            have iha := ihF.out (0)
            generalize putN ns k v e (0) = rp at *
            obtain ⟨ns2, M⟩ := rp
            dsimp only at p1 p2 p3 hres
            replace hres := hid hres
            have hg1 := hid hg1
            replace iha := hid iha
            have hfk := hid (fun W h1 h2 => PAddFork_any W g B0 F (fun b => (P b ∨ b = w.heap.size) ∨ b = b2) ns2 root ((j : Int) + 1) (M) h1 h2 (by omega) ⟨by omega, by omega⟩ ⟨by omega, by omega⟩)
            clear hstep gl gr ihF hFk
            have e5c := block_cell e5.out 1
            simp only [List.getElem?_toArray, List.getElem?_cons_zero, List.getElem?_cons_succ] at e5c
            have T5 := hid ((T0.out.more (Q := fun b => b = b2) B5.out (fun b hb => by subst hb; exact ⟨rb.out, lt5.out⟩)))
            refine (hBt.out _).mono ?_
            rintro r w6 ⟨rfl, hb⟩
            have c6 := (hb.cell (p := ⟨b2, 1, none⟩) lt5.out).trans e5c
            have g6 := hid ((hb.block _ lt5.out).trans e5.out)
            have B6 := hid (B5.out.trans (hb.mono B5.out.size))
            have T6 := hid (T5.out.bel hb)
            have q6 := hid (rangeBel2 B6.out q0.out)
            have x6 := hid (Enc.kept x0.out (fun b hb hl => B6.out.block b hl))
            clear hb e5 e5c B5 T5 lt5
            go_wp2
            refine wp_region_noPanic ?_
            refine wp_region_held_drew (S := fun w' => w'.rangeAt w.heap.size 0 cs) (by kernel_rfl) ?_ (fun hHeld => ?_)
            · exact q6.out
            refine' wpAnyH_take (i := 0) (oi := _) (v := ?_) rfl (by kernel_rfl) (by kernel_rfl) (by kernel_rfl) (fun _ _ _ h => h) (Or.inl ⟨by rfl, ?_⟩) (by assumption) ?_
            rotate_left
            · intro W hSw
              go_simp
              first | done | (with_reducible rfl)
            try simp only [Act.put, sQa, sQb, sQc, gQa, gQb, gQc]
            refine' wpAnyH_take (i := 1) (oi := _) (v := ?_) rfl (by kernel_rfl) (by kernel_rfl) (by kernel_rfl) (fun _ _ _ h => h) (Or.inl ⟨by rfl, ?_⟩) (by assumption) ?_
            rotate_left
            · intro W hSw
              go_simp
              first | done | (with_reducible rfl)
            try simp only [Act.put, sQa, sQb, sQc, gQa, gQb, gQc]
            refine' wpAnyH_take (i := 2) (oi := _) (v := ?_) rfl (by kernel_rfl) (by kernel_rfl) (by kernel_rfl) (fun _ _ _ h => h) (Or.inl ⟨by rfl, ?_⟩) (by assumption) ?_
            rotate_left
            · intro W hSw
              go_simp
              first | done | (with_reducible rfl)
            try simp only [Act.put, sQa, sQb, sQc, gQa, gQb, gQc]
            refine' wpAnyH_take (i := 3) (oi := _) (v := ?_) rfl (by kernel_rfl) (by kernel_rfl) (by kernel_rfl) (fun _ _ _ h => h) (Or.inl ⟨by rfl, ?_⟩) (by assumption) ?_
            rotate_left
            · intro W hSw
              go_simp
              first | done | (with_reducible rfl)
            try simp only [Act.put, sQa, sQb, sQc, gQa, gQb, gQc]
            refine' wpAnyH_take (i := 5) (oi := _) (v := ?_) rfl (by kernel_rfl) (by kernel_rfl) (by kernel_rfl) (fun _ _ _ h => h) (Or.inl ⟨by rfl, ?_⟩) (by assumption) ?_
            rotate_left
            · intro W hSw
              go_simp
              first | done | (with_reducible rfl)
            try simp only [Act.put, sQa, sQb, sQc, gQa, gQb, gQc]
            refine' wpAnyH_take (i := 6) (oi := _) (v := ?_) rfl (by kernel_rfl) (by kernel_rfl) (by kernel_rfl) (fun _ _ _ h => h) (Or.inl ⟨by rfl, ?_⟩) (by assumption) ?_
            rotate_left
            · intro W hSw
              go_simp
              first | done | (with_reducible rfl)
            try simp only [Act.put, sQa, sQb, sQc, gQa, gQb, gQc]
            refine' wpAnyH_take (i := 7) (oi := _) (v := _) rfl (by kernel_rfl) (by kernel_rfl) (by kernel_rfl) (fun _ _ _ h => h) (yieldsIf_load_mid (by rfl) _ _ rfl _ _ rfl _ _ (fun _ h => h) hun rfl hiN.out) (by assumption) ?_
            try simp only [Act.put, sQa, sQb, sQc, gQa, gQb, gQc]
            refine wpAnyH_ready (rs := [4]) (by kernel_rfl) (by simp) ?_
            refine AllReadyH.cons (o := _) rfl (fun K hK => ?_) AllReadyH.nil
            go_simp
            refine hK.out _ _ ?_ (fun hHeld => ?_)
            · exact hHeld
            clear hK K
            try simp only [Act.put, sQa, sQb, sQc, gQa, gQb, gQc]
            refine wpAnyH_ready (rs := [8]) (by kernel_rfl) (by simp) ?_
            refine AllReadyH.cons (o := _) rfl (fun K hK => ?_) AllReadyH.nil
            go_simp
            refine (iha.out _ (fun b => (P b ∨ b = w.heap.size) ∨ b = b2) hg1.out (T6.out.bel (bel_drew w6)) (Nat.le_trans h8B.out B6.out.size) (Enc.kept x6.out fun _ _ _ => rfl) (fun b hb => .inl (.inl (hFP.out b hb)))).mono ?_
            rintro r w7 ⟨rfl, T7, S7, B7⟩
            have g7 := (S7 b2 (.inr rfl)).trans g6.out
            have f7 := block_frozen g7 1
            have d7 := block_cell g7 1
            simp only [List.getElem?_toArray, List.getElem?_cons_zero, List.getElem?_cons_succ] at d7
            replace g7 := hid g7
            replace T7 := hid T7
            replace S7 := hid S7
            replace B7 := hid B7
            go_wp2_with fail
            refine hK.out _ _ ?_ (fun hHeld => ?_)
            · exact rangeAt_kept hHeld (fun _ => S7 w.heap.size (.inl (.inr rfl)))
            clear hK K
            try simp only [Act.put, sQa, sQb, sQc, gQa, gQb, gQc]
            refine' wpAnyH_take (i := 9) (oi := _) (v := ?_) rfl (by kernel_rfl) (by kernel_rfl) (by kernel_rfl) (fun _ _ _ h => h) (Or.inl ⟨by rfl, ?_⟩) (by assumption) ?_
            rotate_left
            · intro W hSw
              go_simp
              first | done | (with_reducible rfl)
            try simp only [Act.put, sQa, sQb, sQc, gQa, gQb, gQc]
            refine wpAnyH_ready (rs := [10]) (by kernel_rfl) (by simp) ?_
            refine AllReadyH.cons (o := _) rfl (fun K hK => ?_) AllReadyH.nil
            go_simp
            refine hK.out _ _ ?_ (fun hHeld => ?_)
            · exact rangeAt_kept hHeld (fun _ => Below.heap_setCell _ _ _ _ (by have := rb.out; have := sz0.out; show w.heap.size ≠ b2; omega))
            clear hK K
            try simp only [Act.put, sQa, sQb, sQc, gQa, gQb, gQc]
            refine wpAnyH_done (by kernel_rfl) ?_ _
            refine NoPanic.normal ?_
            have g8 := hid (block_set g7.out 1 (.int .i64 M))
            have T8 := hid (T7.out.at_ (b0 := b2) (w' := w7.setCell ⟨b2, 1, none⟩ (.int .i64 M)) (.inr rfl) (fun h => by have := hFl.out b2 h; have := rb.out; have := sz0.out; omega) (by simp [World.setCell]) (fun b _ hn => Below.heap_setCell _ _ _ _ hn))
            have S8 := hid (fun b (hp : P b) => (Below.heap_setCell w7 ⟨b2, 1, none⟩ (.int .i64 M) b (by have := hPl.out b hp; have := rb.out; have := sz0.out; show b ≠ b2; omega)).trans ((S7.out b (.inl (.inl hp))).trans ((B6.out.block b (by have := hPl.out b hp; have := sz0.out; omega)).trans (S0.out b hp))))
            have B8 := hid (((W0.out.trans (B6.out.mono h8B.out)).trans (undrew B7.out)).setCell (p := ⟨b2, 1, none⟩) (Nat.le_trans h8B.out rb.out) (.int .i64 M))
            rw [set2_1] at g8
            have hsz8 := hid (show B0 ≤ (w7.setCell ⟨b2, 1, none⟩ (.int .i64 M)).heap.size by have := B8.out.size; omega)
            have r8 := hid (rangeOf (l := [Value.int .i64 ((j : Int) + 1), .int .i64 (M)]) g8.out)
            clear T7 S7 B7 g7 f7 d7 T6 c6 g6 B6 q6 x6 hHeld iha
            generalize w7.setCell ⟨b2, 1, none⟩ (.int .i64 M) = w8 at *
            have hi8 := hid (show (Tryd.prog.info? 131).map (·.size) = some ([Value.int .i64 ((j : Int) + 1), .int .i64 (M)]).length from size2)
            go_wp2_with (first
              | ((with_reducible refine wpList_load_rng rfl 131 (.tmp 9) rfl b2 0 rfl [Value.int .i64 ((j : Int) + 1), .int .i64 (M)] _ ?_ hu2 rfl hi8.out ?_); exact r8.out))
            refine (hfk.out _ T8.out hsz8.out).mono ?_
            rintro r w9 ⟨rfl, T9, S9, B9⟩
            go_wp2
            go_ret
            rw [hres.out]
            exact ⟨rfl, T9.less (fun b hb => .inl (.inl hb)), fun b hp => (S9 b (.inl (.inl hp))).trans (S8.out b hp), B8.out.trans B9⟩
      · obtain rfl : L = 0 := by rw [hL, if_pos rfl]
        obtain rfl : RR = (j : Int) + 1 := by rw [hRr, if_pos rfl]
        clear hL hRr
        have e5 := hid (block_set e4.out 1 (.int .i64 ((j : Int) + 1)))
        have B5 := hid (B4.out.setCell (p := ⟨b2, 1, none⟩) rb.out (.int .i64 ((j : Int) + 1)))
        rw [show (z2C : Array Value).setIfInBounds 1 (.int .i64 ((j : Int) + 1)) = #[.int .i64 0, .int .i64 ((j : Int) + 1)] from rfl] at e5
        have lt5 := hid (show b2 < (w4.setCell ⟨b2, 1, none⟩ (.int .i64 ((j : Int) + 1))).heap.size by have := block_lt e5.out; exact this)
        go_wp2_with (first
          | ((with_reducible refine wpList_load_rng rfl 23 (.tmp 54) rfl w.heap.size 1 rfl dk _ ?_ hu rfl hi.out ?_); exact rangeBel2 B5.out k0.out))
        clear e4 B4 lt4 f40 f41 c40 c41
        generalize w4.setCell ⟨b2, 1, none⟩ (.int .i64 ((j : Int) + 1)) = w5 at *
        generalize kb k.1 d = bb at *
        rcases (show bb = 0 ∨ bb = 1 by omega) with rfl | rfl
        · as_aux_lemma =>
            have hres := hstep.out
            rw [if_neg (by decide)] at hres
            have hg1 := gl.out rfl
            obtain ⟨p1, p2, p3⟩ := hFk.out 0 _ hg1
            have iha := ihF.out (0)
            generalize putN ns k v e (0) = rp at *
            obtain ⟨ns2, M⟩ := rp
            dsimp only at p1 p2 p3 hres
            replace hres := hid hres
            have hg1 := hid hg1
            replace iha := hid iha
            have hfk := hid (fun W h1 h2 => PAddFork_any W g B0 F (fun b => (P b ∨ b = w.heap.size) ∨ b = b2) ns2 root (M) ((j : Int) + 1) h1 h2 (by omega) ⟨by omega, by omega⟩ ⟨by omega, by omega⟩)
            clear hstep gl gr ihF hFk
            have e5c := block_cell e5.out 0
            simp only [List.getElem?_toArray, List.getElem?_cons_zero, List.getElem?_cons_succ] at e5c
            have T5 := hid ((T0.out.more (Q := fun b => b = b2) B5.out (fun b hb => by subst hb; exact ⟨rb.out, lt5.out⟩)))
            refine (hBt.out _).mono ?_
            rintro r w6 ⟨rfl, hb⟩
            have c6 := (hb.cell (p := ⟨b2, 0, none⟩) lt5.out).trans e5c
            have g6 := hid ((hb.block _ lt5.out).trans e5.out)
            have B6 := hid (B5.out.trans (hb.mono B5.out.size))
            have T6 := hid (T5.out.bel hb)
            have q6 := hid (rangeBel2 B6.out q0.out)
            have x6 := hid (Enc.kept x0.out (fun b hb hl => B6.out.block b hl))
            clear hb e5 e5c B5 T5 lt5
            go_wp2
            refine wp_region_noPanic ?_
            refine wp_region_held_drew (S := fun w' => w'.rangeAt w.heap.size 0 cs) (by kernel_rfl) ?_ (fun hHeld => ?_)
            · exact q6.out
            refine' wpAnyH_take (i := 0) (oi := _) (v := ?_) rfl (by kernel_rfl) (by kernel_rfl) (by kernel_rfl) (fun _ _ _ h => h) (Or.inl ⟨by rfl, ?_⟩) (by assumption) ?_
            rotate_left
            · intro W hSw
              go_simp
              first | done | (with_reducible rfl)
            try simp only [Act.put, sQa, sQb, sQc, gQa, gQb, gQc]
            refine' wpAnyH_take (i := 1) (oi := _) (v := ?_) rfl (by kernel_rfl) (by kernel_rfl) (by kernel_rfl) (fun _ _ _ h => h) (Or.inl ⟨by rfl, ?_⟩) (by assumption) ?_
            rotate_left
            · intro W hSw
              go_simp
              first | done | (with_reducible rfl)
            try simp only [Act.put, sQa, sQb, sQc, gQa, gQb, gQc]
            refine' wpAnyH_take (i := 2) (oi := _) (v := ?_) rfl (by kernel_rfl) (by kernel_rfl) (by kernel_rfl) (fun _ _ _ h => h) (Or.inl ⟨by rfl, ?_⟩) (by assumption) ?_
            rotate_left
            · intro W hSw
              go_simp
              first | done | (with_reducible rfl)
            try simp only [Act.put, sQa, sQb, sQc, gQa, gQb, gQc]
            refine' wpAnyH_take (i := 3) (oi := _) (v := ?_) rfl (by kernel_rfl) (by kernel_rfl) (by kernel_rfl) (fun _ _ _ h => h) (Or.inl ⟨by rfl, ?_⟩) (by assumption) ?_
            rotate_left
            · intro W hSw
              go_simp
              first | done | (with_reducible rfl)
            try simp only [Act.put, sQa, sQb, sQc, gQa, gQb, gQc]
            refine' wpAnyH_take (i := 5) (oi := _) (v := ?_) rfl (by kernel_rfl) (by kernel_rfl) (by kernel_rfl) (fun _ _ _ h => h) (Or.inl ⟨by rfl, ?_⟩) (by assumption) ?_
            rotate_left
            · intro W hSw
              go_simp
              first | done | (with_reducible rfl)
            try simp only [Act.put, sQa, sQb, sQc, gQa, gQb, gQc]
            refine' wpAnyH_take (i := 6) (oi := _) (v := ?_) rfl (by kernel_rfl) (by kernel_rfl) (by kernel_rfl) (fun _ _ _ h => h) (Or.inl ⟨by rfl, ?_⟩) (by assumption) ?_
            rotate_left
            · intro W hSw
              go_simp
              first | done | (with_reducible rfl)
            try simp only [Act.put, sQa, sQb, sQc, gQa, gQb, gQc]
            refine' wpAnyH_take (i := 7) (oi := _) (v := _) rfl (by kernel_rfl) (by kernel_rfl) (by kernel_rfl) (fun _ _ _ h => h) (yieldsIf_load_mid (by rfl) _ _ rfl _ _ rfl _ _ (fun _ h => h) hun rfl hiN.out) (by assumption) ?_
            try simp only [Act.put, sQa, sQb, sQc, gQa, gQb, gQc]
            refine wpAnyH_ready (rs := [4]) (by kernel_rfl) (by simp) ?_
            refine AllReadyH.cons (o := _) rfl (fun K hK => ?_) AllReadyH.nil
            go_simp
            refine hK.out _ _ ?_ (fun hHeld => ?_)
            · exact hHeld
            clear hK K
            try simp only [Act.put, sQa, sQb, sQc, gQa, gQb, gQc]
            refine wpAnyH_ready (rs := [8]) (by kernel_rfl) (by simp) ?_
            refine AllReadyH.cons (o := _) rfl (fun K hK => ?_) AllReadyH.nil
            go_simp
            refine (iha.out _ (fun b => (P b ∨ b = w.heap.size) ∨ b = b2) hg1.out (T6.out.bel (bel_drew w6)) (Nat.le_trans h8B.out B6.out.size) (Enc.kept x6.out fun _ _ _ => rfl) (fun b hb => .inl (.inl (hFP.out b hb)))).mono ?_
            rintro r w7 ⟨rfl, T7, S7, B7⟩
            have g7 := (S7 b2 (.inr rfl)).trans g6.out
            have f7 := block_frozen g7 0
            have d7 := block_cell g7 0
            simp only [List.getElem?_toArray, List.getElem?_cons_zero, List.getElem?_cons_succ] at d7
            replace g7 := hid g7
            replace T7 := hid T7
            replace S7 := hid S7
            replace B7 := hid B7
            go_wp2_with fail
            refine hK.out _ _ ?_ (fun hHeld => ?_)
            · exact rangeAt_kept hHeld (fun _ => S7 w.heap.size (.inl (.inr rfl)))
            clear hK K
            try simp only [Act.put, sQa, sQb, sQc, gQa, gQb, gQc]
            refine' wpAnyH_take (i := 9) (oi := _) (v := ?_) rfl (by kernel_rfl) (by kernel_rfl) (by kernel_rfl) (fun _ _ _ h => h) (Or.inl ⟨by rfl, ?_⟩) (by assumption) ?_
            rotate_left
            · intro W hSw
              go_simp
              first | done | (with_reducible rfl)
            try simp only [Act.put, sQa, sQb, sQc, gQa, gQb, gQc]
            refine wpAnyH_ready (rs := [10]) (by kernel_rfl) (by simp) ?_
            refine AllReadyH.cons (o := _) rfl (fun K hK => ?_) AllReadyH.nil
            go_simp
            refine hK.out _ _ ?_ (fun hHeld => ?_)
            · exact rangeAt_kept hHeld (fun _ => Below.heap_setCell _ _ _ _ (by have := rb.out; have := sz0.out; show w.heap.size ≠ b2; omega))
            clear hK K
            try simp only [Act.put, sQa, sQb, sQc, gQa, gQb, gQc]
            refine wpAnyH_done (by kernel_rfl) ?_ _
            refine NoPanic.normal ?_
            have g8 := hid (block_set g7.out 0 (.int .i64 M))
            have T8 := hid (T7.out.at_ (b0 := b2) (w' := w7.setCell ⟨b2, 0, none⟩ (.int .i64 M)) (.inr rfl) (fun h => by have := hFl.out b2 h; have := rb.out; have := sz0.out; omega) (by simp [World.setCell]) (fun b _ hn => Below.heap_setCell _ _ _ _ hn))
            have S8 := hid (fun b (hp : P b) => (Below.heap_setCell w7 ⟨b2, 0, none⟩ (.int .i64 M) b (by have := hPl.out b hp; have := rb.out; have := sz0.out; show b ≠ b2; omega)).trans ((S7.out b (.inl (.inl hp))).trans ((B6.out.block b (by have := hPl.out b hp; have := sz0.out; omega)).trans (S0.out b hp))))
            have B8 := hid (((W0.out.trans (B6.out.mono h8B.out)).trans (undrew B7.out)).setCell (p := ⟨b2, 0, none⟩) (Nat.le_trans h8B.out rb.out) (.int .i64 M))
            rw [set2_0] at g8
            have hsz8 := hid (show B0 ≤ (w7.setCell ⟨b2, 0, none⟩ (.int .i64 M)).heap.size by have := B8.out.size; omega)
            have r8 := hid (rangeOf (l := [Value.int .i64 (M), .int .i64 ((j : Int) + 1)]) g8.out)
            clear T7 S7 B7 g7 f7 d7 T6 c6 g6 B6 q6 x6 hHeld iha
            generalize w7.setCell ⟨b2, 0, none⟩ (.int .i64 M) = w8 at *
            have hi8 := hid (show (Tryd.prog.info? 131).map (·.size) = some ([Value.int .i64 (M), .int .i64 ((j : Int) + 1)]).length from size2)
            go_wp2_with (first
              | ((with_reducible refine wpList_load_rng rfl 131 (.tmp 9) rfl b2 0 rfl [Value.int .i64 (M), .int .i64 ((j : Int) + 1)] _ ?_ hu2 rfl hi8.out ?_); exact r8.out))
            refine (hfk.out _ T8.out hsz8.out).mono ?_
            rintro r w9 ⟨rfl, T9, S9, B9⟩
            go_wp2
            go_ret
            rw [hres.out]
            exact ⟨rfl, T9.less (fun b hb => .inl (.inl hb)), fun b hp => (S9 b (.inl (.inl hp))).trans (S8.out b hp), B8.out.trans B9⟩
        · as_aux_lemma =>
            have hres := hstep.out
            rw [if_pos rfl] at hres
            have hg1 := gr.out rfl
            obtain ⟨p1, p2, p3⟩ := hFk.out 0 _ hg1
            have iha := ihF.out ((j : Int) + 1)
            generalize putN ns k v e ((j : Int) + 1) = rp at *
            obtain ⟨ns2, M⟩ := rp
            dsimp only at p1 p2 p3 hres
            replace hres := hid hres
            have hg1 := hid hg1
            replace iha := hid iha
            have hfk := hid (fun W h1 h2 => PAddFork_any W g B0 F (fun b => (P b ∨ b = w.heap.size) ∨ b = b2) ns2 root (0) (M) h1 h2 (by omega) ⟨by omega, by omega⟩ ⟨by omega, by omega⟩)
            clear hstep gl gr ihF hFk
            have e5c := block_cell e5.out 1
            simp only [List.getElem?_toArray, List.getElem?_cons_zero, List.getElem?_cons_succ] at e5c
            have T5 := hid ((T0.out.more (Q := fun b => b = b2) B5.out (fun b hb => by subst hb; exact ⟨rb.out, lt5.out⟩)))
            refine (hBt.out _).mono ?_
            rintro r w6 ⟨rfl, hb⟩
            have c6 := (hb.cell (p := ⟨b2, 1, none⟩) lt5.out).trans e5c
            have g6 := hid ((hb.block _ lt5.out).trans e5.out)
            have B6 := hid (B5.out.trans (hb.mono B5.out.size))
            have T6 := hid (T5.out.bel hb)
            have q6 := hid (rangeBel2 B6.out q0.out)
            have x6 := hid (Enc.kept x0.out (fun b hb hl => B6.out.block b hl))
            clear hb e5 e5c B5 T5 lt5
            go_wp2
            refine wp_region_noPanic ?_
            refine wp_region_held_drew (S := fun w' => w'.rangeAt w.heap.size 0 cs) (by kernel_rfl) ?_ (fun hHeld => ?_)
            · exact q6.out
            refine' wpAnyH_take (i := 0) (oi := _) (v := ?_) rfl (by kernel_rfl) (by kernel_rfl) (by kernel_rfl) (fun _ _ _ h => h) (Or.inl ⟨by rfl, ?_⟩) (by assumption) ?_
            rotate_left
            · intro W hSw
              go_simp
              first | done | (with_reducible rfl)
            try simp only [Act.put, sQa, sQb, sQc, gQa, gQb, gQc]
            refine' wpAnyH_take (i := 1) (oi := _) (v := ?_) rfl (by kernel_rfl) (by kernel_rfl) (by kernel_rfl) (fun _ _ _ h => h) (Or.inl ⟨by rfl, ?_⟩) (by assumption) ?_
            rotate_left
            · intro W hSw
              go_simp
              first | done | (with_reducible rfl)
            try simp only [Act.put, sQa, sQb, sQc, gQa, gQb, gQc]
            refine' wpAnyH_take (i := 2) (oi := _) (v := ?_) rfl (by kernel_rfl) (by kernel_rfl) (by kernel_rfl) (fun _ _ _ h => h) (Or.inl ⟨by rfl, ?_⟩) (by assumption) ?_
            rotate_left
            · intro W hSw
              go_simp
              first | done | (with_reducible rfl)
            try simp only [Act.put, sQa, sQb, sQc, gQa, gQb, gQc]
            refine' wpAnyH_take (i := 3) (oi := _) (v := ?_) rfl (by kernel_rfl) (by kernel_rfl) (by kernel_rfl) (fun _ _ _ h => h) (Or.inl ⟨by rfl, ?_⟩) (by assumption) ?_
            rotate_left
            · intro W hSw
              go_simp
              first | done | (with_reducible rfl)
            try simp only [Act.put, sQa, sQb, sQc, gQa, gQb, gQc]
            refine' wpAnyH_take (i := 5) (oi := _) (v := ?_) rfl (by kernel_rfl) (by kernel_rfl) (by kernel_rfl) (fun _ _ _ h => h) (Or.inl ⟨by rfl, ?_⟩) (by assumption) ?_
            rotate_left
            · intro W hSw
              go_simp
              first | done | (with_reducible rfl)
            try simp only [Act.put, sQa, sQb, sQc, gQa, gQb, gQc]
            refine' wpAnyH_take (i := 6) (oi := _) (v := ?_) rfl (by kernel_rfl) (by kernel_rfl) (by kernel_rfl) (fun _ _ _ h => h) (Or.inl ⟨by rfl, ?_⟩) (by assumption) ?_
            rotate_left
            · intro W hSw
              go_simp
              first | done | (with_reducible rfl)
            try simp only [Act.put, sQa, sQb, sQc, gQa, gQb, gQc]
            refine' wpAnyH_take (i := 7) (oi := _) (v := _) rfl (by kernel_rfl) (by kernel_rfl) (by kernel_rfl) (fun _ _ _ h => h) (yieldsIf_load_mid (by rfl) _ _ rfl _ _ rfl _ _ (fun _ h => h) hun rfl hiN.out) (by assumption) ?_
            try simp only [Act.put, sQa, sQb, sQc, gQa, gQb, gQc]
            refine wpAnyH_ready (rs := [4]) (by kernel_rfl) (by simp) ?_
            refine AllReadyH.cons (o := _) rfl (fun K hK => ?_) AllReadyH.nil
            go_simp
            refine hK.out _ _ ?_ (fun hHeld => ?_)
            · exact hHeld
            clear hK K
            try simp only [Act.put, sQa, sQb, sQc, gQa, gQb, gQc]
            refine wpAnyH_ready (rs := [8]) (by kernel_rfl) (by simp) ?_
            refine AllReadyH.cons (o := _) rfl (fun K hK => ?_) AllReadyH.nil
            go_simp
            refine (iha.out _ (fun b => (P b ∨ b = w.heap.size) ∨ b = b2) hg1.out (T6.out.bel (bel_drew w6)) (Nat.le_trans h8B.out B6.out.size) (Enc.kept x6.out fun _ _ _ => rfl) (fun b hb => .inl (.inl (hFP.out b hb)))).mono ?_
            rintro r w7 ⟨rfl, T7, S7, B7⟩
            have g7 := (S7 b2 (.inr rfl)).trans g6.out
            have f7 := block_frozen g7 1
            have d7 := block_cell g7 1
            simp only [List.getElem?_toArray, List.getElem?_cons_zero, List.getElem?_cons_succ] at d7
            replace g7 := hid g7
            replace T7 := hid T7
            replace S7 := hid S7
            replace B7 := hid B7
            go_wp2_with fail
            refine hK.out _ _ ?_ (fun hHeld => ?_)
            · exact rangeAt_kept hHeld (fun _ => S7 w.heap.size (.inl (.inr rfl)))
            clear hK K
            try simp only [Act.put, sQa, sQb, sQc, gQa, gQb, gQc]
            refine' wpAnyH_take (i := 9) (oi := _) (v := ?_) rfl (by kernel_rfl) (by kernel_rfl) (by kernel_rfl) (fun _ _ _ h => h) (Or.inl ⟨by rfl, ?_⟩) (by assumption) ?_
            rotate_left
            · intro W hSw
              go_simp
              first | done | (with_reducible rfl)
            try simp only [Act.put, sQa, sQb, sQc, gQa, gQb, gQc]
            refine wpAnyH_ready (rs := [10]) (by kernel_rfl) (by simp) ?_
            refine AllReadyH.cons (o := _) rfl (fun K hK => ?_) AllReadyH.nil
            go_simp
            refine hK.out _ _ ?_ (fun hHeld => ?_)
            · exact rangeAt_kept hHeld (fun _ => Below.heap_setCell _ _ _ _ (by have := rb.out; have := sz0.out; show w.heap.size ≠ b2; omega))
            clear hK K
            try simp only [Act.put, sQa, sQb, sQc, gQa, gQb, gQc]
            refine wpAnyH_done (by kernel_rfl) ?_ _
            refine NoPanic.normal ?_
            have g8 := hid (block_set g7.out 1 (.int .i64 M))
            have T8 := hid (T7.out.at_ (b0 := b2) (w' := w7.setCell ⟨b2, 1, none⟩ (.int .i64 M)) (.inr rfl) (fun h => by have := hFl.out b2 h; have := rb.out; have := sz0.out; omega) (by simp [World.setCell]) (fun b _ hn => Below.heap_setCell _ _ _ _ hn))
            have S8 := hid (fun b (hp : P b) => (Below.heap_setCell w7 ⟨b2, 1, none⟩ (.int .i64 M) b (by have := hPl.out b hp; have := rb.out; have := sz0.out; show b ≠ b2; omega)).trans ((S7.out b (.inl (.inl hp))).trans ((B6.out.block b (by have := hPl.out b hp; have := sz0.out; omega)).trans (S0.out b hp))))
            have B8 := hid (((W0.out.trans (B6.out.mono h8B.out)).trans (undrew B7.out)).setCell (p := ⟨b2, 1, none⟩) (Nat.le_trans h8B.out rb.out) (.int .i64 M))
            rw [set2_1] at g8
            have hsz8 := hid (show B0 ≤ (w7.setCell ⟨b2, 1, none⟩ (.int .i64 M)).heap.size by have := B8.out.size; omega)
            have r8 := hid (rangeOf (l := [Value.int .i64 (0), .int .i64 (M)]) g8.out)
            clear T7 S7 B7 g7 f7 d7 T6 c6 g6 B6 q6 x6 hHeld iha
            generalize w7.setCell ⟨b2, 1, none⟩ (.int .i64 M) = w8 at *
            have hi8 := hid (show (Tryd.prog.info? 131).map (·.size) = some ([Value.int .i64 (0), .int .i64 (M)]).length from size2)
            go_wp2_with (first
              | ((with_reducible refine wpList_load_rng rfl 131 (.tmp 9) rfl b2 0 rfl [Value.int .i64 (0), .int .i64 (M)] _ ?_ hu2 rfl hi8.out ?_); exact r8.out))
            refine (hfk.out _ T8.out hsz8.out).mono ?_
            rintro r w9 ⟨rfl, T9, S9, B9⟩
            go_wp2
            go_ret
            rw [hres.out]
            exact ⟨rfl, T9.less (fun b hb => .inl (.inl hb)), fun b hp => (S9 b (.inl (.inl hp))).trans (S8.out b hp), B8.out.trans B9⟩
    | false =>
      rw [show leafB ns ((j : Int) + 1) = false by unfold leafB; rw [hxn, hl, decide_eq_true hz]; rfl] at hLf
      have hRd := hid (fun W (hW : W.rangeAt q (o + j * 36) (ndC ns[j] A' c')) => PRoads_at q o j ns.length c root ns[j] A' c' W hW hj (by omega))
      have hL : lftD ns d ((j : Int) + 1) = ns[j].l := by unfold lftD; rw [hxn, hl]; rfl
      have hRr : rgtD ns d ((j : Int) + 1) = ns[j].r := by unfold rgtD; rw [hxn, hl]; rfl
      rw [← hL, ← hRr] at hRd
      generalize ndC ns[j] A' c' = xs at *
      generalize lftD ns d ((j : Int) + 1) = L at *
      generalize rgtD ns d ((j : Int) + 1) = RR at *
      replace hR := hid hR
      replace hstep := hid hstep
      replace gl := hid gl
      replace gr := hid gr
      clear hxn hend hl hL hRr
      go_enter Tryd.func52, Tryd.ntmps52
      go_wp2
      generalize w.alloc (.cells cs.toArray 50) = w0 at *
      refine wp_region_noPanic ?_
      refine wp_region_held_drew (S := fun w' => Below w0.heap.size w0 w') (by kernel_rfl) ?_ (fun hHeld => ?_)
      · exact bel_drew w0
      refine' wpAnyH_take (i := 0) (oi := _) (v := ?_) rfl (by kernel_rfl) (by kernel_rfl) (by kernel_rfl) (fun _ _ _ h => h) (Or.inl ⟨by rfl, ?_⟩) (by assumption) ?_
      rotate_left
      · intro W hSw
        go_simp
        first | done | (with_reducible rfl)
      try simp only [Act.put, sQa, sQb, sQc, gQa, gQb, gQc]
      refine' wpAnyH_take (i := 1) (oi := _) (v := ?_) rfl (by kernel_rfl) (by kernel_rfl) (by kernel_rfl) (fun _ _ _ h => h) (Or.inl ⟨by rfl, ?_⟩) (by assumption) ?_
      rotate_left
      · intro W hSw
        go_simp
        first | done | (with_reducible rfl)
      try simp only [Act.put, sQa, sQb, sQc, gQa, gQb, gQc]
      refine' wpAnyH_take (i := 2) (oi := _) (v := ?_) rfl (by kernel_rfl) (by kernel_rfl) (by kernel_rfl) (fun _ _ _ h => h) (Or.inl ⟨by rfl, ?_⟩) (by assumption) ?_
      rotate_left
      · intro W hSw
        go_simp
        first | done | (with_reducible rfl)
      try simp only [Act.put, sQa, sQb, sQc, gQa, gQb, gQc]
      refine' wpAnyH_take (i := 3) (oi := _) (v := ?_) rfl (by kernel_rfl) (by kernel_rfl) (by kernel_rfl) (fun _ _ _ h => h) (Or.inl ⟨by rfl, ?_⟩) (by assumption) ?_
      rotate_left
      · intro W hSw
        go_simp
        first | done | (with_reducible rfl)
      try simp only [Act.put, sQa, sQb, sQc, gQa, gQb, gQc]
      refine' wpAnyH_take (i := 4) (oi := _) (v := ?_) rfl (by kernel_rfl) (by kernel_rfl) (by kernel_rfl) (fun _ _ _ h => h) (Or.inl ⟨by rfl, ?_⟩) (by assumption) ?_
      rotate_left
      · intro W hSw
        go_simp
        first | done | (with_reducible rfl)
      try simp only [Act.put, sQa, sQb, sQc, gQa, gQb, gQc]
      refine' wpAnyH_take (i := 5) (oi := _) (v := _) rfl (by kernel_rfl) (by kernel_rfl) (by kernel_rfl) (fun _ _ _ h => h) (yieldsIf_load_mid (by rfl) _ _ rfl _ _ rfl _ _ (fun _ h => rangeBel2 h R0.out) hutr rfl hiTr.out) (by assumption) ?_
      try simp only [Act.put, sQa, sQb, sQc, gQa, gQb, gQc]
      refine' wpAnyH_take (i := 6) (oi := _) (v := ?_) rfl (by kernel_rfl) (by kernel_rfl) (by kernel_rfl) (fun _ _ _ h => h) (Or.inl ⟨by rfl, ?_⟩) (by assumption) ?_
      rotate_left
      · intro W hSw
        go_simp
        first | done | (with_reducible rfl)
      try simp only [Act.put, sQa, sQb, sQc, gQa, gQb, gQc]
      refine wpAnyH_ready (rs := [7]) (by kernel_rfl) (by simp) ?_
      refine AllReadyH.cons (o := _) rfl (fun K hK => ?_) AllReadyH.nil
      go_simp
      refine (hLf.out _ (r0.out.bel hHeld)).mono ?_
      rintro e1 w8 ⟨rfl, hB⟩
      go_wp2_with fail
      refine hK.out _ _ ?_ (fun hHeld => ?_)
      · exact hHeld.trans (hB.mono hHeld.size)
      clear hK K
      try simp only [Act.put, sQa, sQb, sQc, gQa, gQb, gQc]
      refine' wpAnyH_take (i := 8) (oi := _) (v := ?_) rfl (by kernel_rfl) (by kernel_rfl) (by kernel_rfl) (fun _ _ _ h => h) (Or.inl ⟨by rfl, ?_⟩) (by assumption) ?_
      rotate_left
      · intro W hSw
        go_simp
        first | done | (with_reducible rfl)
      try simp only [Act.put, sQa, sQb, sQc, gQa, gQb, gQc]
      refine' wpAnyH_take (i := 9) (oi := _) (v := _) rfl (by kernel_rfl) (by kernel_rfl) (by kernel_rfl) (fun _ _ _ h => h) (Or.inr ⟨by rfl, rfl⟩) (by assumption) ?_
      try simp only [Act.put, sQa, sQb, sQc, gQa, gQb, gQc]
      refine' wpAnyH_take (i := 10) (oi := _) (v := _) rfl (by kernel_rfl) (by kernel_rfl) (by kernel_rfl) (fun _ _ _ h => h) (Or.inr ⟨by rfl, rfl⟩) (by assumption) ?_
      try simp only [Act.put, sQa, sQb, sQc, gQa, gQb, gQc]
      refine' wpAnyH_take (i := 11) (oi := _) (v := _) rfl (by kernel_rfl) (by kernel_rfl) (by kernel_rfl) (fun _ _ _ h => h) (Or.inr ⟨by rfl, rfl⟩) (by assumption) ?_
      try simp only [Act.put, sQa, sQb, sQc, gQa, gQb, gQc]
      refine' wpAnyH_take (i := 12) (oi := _) (v := _) rfl (by kernel_rfl) (by kernel_rfl) (by kernel_rfl) (fun _ _ _ h => h) (Or.inr ⟨by rfl, rfl⟩) (by assumption) ?_
      try simp only [Act.put, sQa, sQb, sQc, gQa, gQb, gQc]
      refine' wpAnyH_take (i := 13) (oi := _) (v := _) rfl (by kernel_rfl) (by kernel_rfl) (by kernel_rfl) (fun _ _ _ h => h) (Or.inr ⟨by rfl, rfl⟩) (by assumption) ?_
      try simp only [Act.put, sQa, sQb, sQc, gQa, gQb, gQc]
      refine' wpAnyH_take (i := 14) (oi := _) (v := _) rfl (by kernel_rfl) (by kernel_rfl) (by kernel_rfl) (fun _ _ _ h => h) (Or.inr ⟨by rfl, rfl⟩) (by assumption) ?_
      try simp only [Act.put, sQa, sQb, sQc, gQa, gQb, gQc]
      refine' wpAnyH_take (i := 15) (oi := _) (v := _) rfl (by kernel_rfl) (by kernel_rfl) (by kernel_rfl) (fun _ _ _ h => h) (Or.inr ⟨by rfl, rfl⟩) (by assumption) ?_
      try simp only [Act.put, sQa, sQb, sQc, gQa, gQb, gQc]
      refine' wpAnyH_take (i := 16) (oi := _) (v := _) rfl (by kernel_rfl) (by kernel_rfl) (by kernel_rfl) (fun _ _ _ h => h) (Or.inr ⟨by rfl, rfl⟩) (by assumption) ?_
      try simp only [Act.put, sQa, sQb, sQc, gQa, gQb, gQc]
      refine' wpAnyH_take (i := 17) (oi := _) (v := _) rfl (by kernel_rfl) (by kernel_rfl) (by kernel_rfl) (fun _ _ _ h => h) (Or.inr ⟨by rfl, rfl⟩) (by assumption) ?_
      try simp only [Act.put, sQa, sQb, sQc, gQa, gQb, gQc]
      refine' wpAnyH_take (i := 18) (oi := _) (v := ?_) rfl (by kernel_rfl) (by kernel_rfl) (by kernel_rfl) (fun _ _ _ h => h) (Or.inl ⟨by rfl, ?_⟩) (by assumption) ?_
      rotate_left
      · intro W hSw
        go_simp
        first | done | (with_reducible rfl)
      try simp only [Act.put, sQa, sQb, sQc, gQa, gQb, gQc]
      refine' wpAnyH_take (i := 19) (oi := _) (v := ?_) rfl (by kernel_rfl) (by kernel_rfl) (by kernel_rfl) (fun _ _ _ h => h) (Or.inl ⟨by rfl, ?_⟩) (by assumption) ?_
      rotate_left
      · intro W hSw
        go_simp
        first | done | (with_reducible rfl)
      try simp only [Act.put, sQa, sQb, sQc, gQa, gQb, gQc]
      refine wpAnyH_done (by kernel_rfl) ?_ _
      refine NoPanic.normal ?_
      have e1 := hid (heap_alloc_new w8 (.cells z2C 131))
      have B1 := hid (hHeld.trans ((ext_alloc w8 (.cells z2C 131)).mono hHeld.size))
      have rb := hid hHeld.size
      have sz1 := hid (World.size_alloc w8 (.cells z2C 131))
      go_wp2_with (first
        | (with_reducible refine wpList_alloc_row rfl 131 rfl z2C zInfo2 ?_)
        | ((with_reducible refine wpList_load_rng rfl 86 (.tmp 35) rfl g 0 rfl [Value.slice (some ⟨q, o, none⟩) ns.length c, .int .i64 root] _ ?_ hutr rfl hiTr.out ?_); exact rangeBel2 B1.out R0.out))
      refine (hLf.out _ (r0.out.bel B1.out)).mono ?_
      rintro r w2 ⟨rfl, hb⟩
      have e2 := hid ((hb.block _ (block_lt e1.out)).trans e1.out)
      have B2 := hid (B1.out.trans (hb.mono B1.out.size))
      have lt2 := hid (Nat.lt_of_lt_of_le (show w8.heap.size < (w8.alloc (.cells z2C 131)).heap.size by rw [sz1.out]; omega) hb.size)
      clear hb e1 B1 hHeld sz1
      generalize w8.heap.size = b2 at *
      go_wp2_with (first
        | ((with_reducible refine wpList_load_rng rfl 86 (.tmp 50) rfl g 0 rfl [Value.slice (some ⟨q, o, none⟩) ns.length c, .int .i64 root] _ ?_ hutr rfl hiTr.out ?_); exact rangeBel2 B2.out R0.out))
      refine (hRd.out _ (rangeBel2 B2.out hR.out)).mono ?_
      rintro r w4 ⟨rfl, hb⟩
      have e4 := hid ((hb.block _ (block_lt e2.out)).trans e2.out)
      have B4 := hid (B2.out.trans (hb.mono B2.out.size))
      clear hb e2 B2 lt2
      go_wp2_with (first
        | ((with_reducible refine wpList_store_row rfl 131 (.tmp 9) (.tmp 53) rfl b2 _ rfl rfl 131 z2C ?_ ?_ ?_ ?_ ?_); exact e4.out; exact size2; rfl; exact one2 L RR; intro w5 hg5 hb5 hs5; have e5 := hid hg5; have B5 := hid (B4.out.grown hb5 B4.out.size (fun k e => by injection e with e; subst e; exact rb.out)); have lt5 := hid (block_lt hg5); clear hg5 hb5 hs5 e4 B4)
        | ((with_reducible refine wpList_load_rng rfl 23 (.tmp 54) rfl w.heap.size 1 rfl dk _ ?_ hu rfl hi.out ?_); exact rangeBel2 B5.out k0.out))
      generalize kb k.1 d = bb at *
      rcases (show bb = 0 ∨ bb = 1 by omega) with rfl | rfl
      · as_aux_lemma =>
          have hres := hstep.out
          rw [if_neg (by decide)] at hres
          have hg1 := gl.out rfl
          obtain ⟨p1, p2, p3⟩ := hFk.out 0 _ hg1
          have iha := ihF.out (L)
          generalize putN ns k v e (L) = rp at *
          obtain ⟨ns2, M⟩ := rp
          dsimp only at p1 p2 p3 hres
          replace hres := hid hres
          have hg1 := hid hg1
          replace iha := hid iha
          have hfk := hid (fun W h1 h2 => PAddFork_any W g B0 F (fun b => (P b ∨ b = w.heap.size) ∨ b = b2) ns2 root (M) (RR) h1 h2 (by omega) ⟨by omega, by omega⟩ ⟨by omega, by omega⟩)
          clear hstep gl gr ihF hFk
          have e5c := block_cell e5.out 0
          simp only [List.getElem?_toArray, List.getElem?_cons_zero, List.getElem?_cons_succ] at e5c
          have T5 := hid ((T0.out.more (Q := fun b => b = b2) B5.out (fun b hb => by subst hb; exact ⟨rb.out, lt5.out⟩)))
          refine (hBt.out _).mono ?_
          rintro r w6 ⟨rfl, hb⟩
          have c6 := (hb.cell (p := ⟨b2, 0, none⟩) lt5.out).trans e5c
          have g6 := hid ((hb.block _ lt5.out).trans e5.out)
          have B6 := hid (B5.out.trans (hb.mono B5.out.size))
          have T6 := hid (T5.out.bel hb)
          have q6 := hid (rangeBel2 B6.out q0.out)
          have x6 := hid (Enc.kept x0.out (fun b hb hl => B6.out.block b hl))
          clear hb e5 e5c B5 T5 lt5
          go_wp2
          refine wp_region_noPanic ?_
          refine wp_region_held_drew (S := fun w' => w'.rangeAt w.heap.size 0 cs) (by kernel_rfl) ?_ (fun hHeld => ?_)
          · exact q6.out
          refine' wpAnyH_take (i := 0) (oi := _) (v := ?_) rfl (by kernel_rfl) (by kernel_rfl) (by kernel_rfl) (fun _ _ _ h => h) (Or.inl ⟨by rfl, ?_⟩) (by assumption) ?_
          rotate_left
          · intro W hSw
            go_simp
            first | done | (with_reducible rfl)
          try simp only [Act.put, sQa, sQb, sQc, gQa, gQb, gQc]
          refine' wpAnyH_take (i := 1) (oi := _) (v := ?_) rfl (by kernel_rfl) (by kernel_rfl) (by kernel_rfl) (fun _ _ _ h => h) (Or.inl ⟨by rfl, ?_⟩) (by assumption) ?_
          rotate_left
          · intro W hSw
            go_simp
            first | done | (with_reducible rfl)
          try simp only [Act.put, sQa, sQb, sQc, gQa, gQb, gQc]
          refine' wpAnyH_take (i := 2) (oi := _) (v := ?_) rfl (by kernel_rfl) (by kernel_rfl) (by kernel_rfl) (fun _ _ _ h => h) (Or.inl ⟨by rfl, ?_⟩) (by assumption) ?_
          rotate_left
          · intro W hSw
            go_simp
            first | done | (with_reducible rfl)
          try simp only [Act.put, sQa, sQb, sQc, gQa, gQb, gQc]
          refine' wpAnyH_take (i := 3) (oi := _) (v := ?_) rfl (by kernel_rfl) (by kernel_rfl) (by kernel_rfl) (fun _ _ _ h => h) (Or.inl ⟨by rfl, ?_⟩) (by assumption) ?_
          rotate_left
          · intro W hSw
            go_simp
            first | done | (with_reducible rfl)
          try simp only [Act.put, sQa, sQb, sQc, gQa, gQb, gQc]
          refine' wpAnyH_take (i := 5) (oi := _) (v := ?_) rfl (by kernel_rfl) (by kernel_rfl) (by kernel_rfl) (fun _ _ _ h => h) (Or.inl ⟨by rfl, ?_⟩) (by assumption) ?_
          rotate_left
          · intro W hSw
            go_simp
            first | done | (with_reducible rfl)
          try simp only [Act.put, sQa, sQb, sQc, gQa, gQb, gQc]
          refine' wpAnyH_take (i := 6) (oi := _) (v := ?_) rfl (by kernel_rfl) (by kernel_rfl) (by kernel_rfl) (fun _ _ _ h => h) (Or.inl ⟨by rfl, ?_⟩) (by assumption) ?_
          rotate_left
          · intro W hSw
            go_simp
            first | done | (with_reducible rfl)
          try simp only [Act.put, sQa, sQb, sQc, gQa, gQb, gQc]
          refine' wpAnyH_take (i := 7) (oi := _) (v := _) rfl (by kernel_rfl) (by kernel_rfl) (by kernel_rfl) (fun _ _ _ h => h) (yieldsIf_load_mid (by rfl) _ _ rfl _ _ rfl _ _ (fun _ h => h) hun rfl hiN.out) (by assumption) ?_
          try simp only [Act.put, sQa, sQb, sQc, gQa, gQb, gQc]
          refine wpAnyH_ready (rs := [4]) (by kernel_rfl) (by simp) ?_
          refine AllReadyH.cons (o := _) rfl (fun K hK => ?_) AllReadyH.nil
          go_simp
          refine hK.out _ _ ?_ (fun hHeld => ?_)
          · exact hHeld
          clear hK K
          try simp only [Act.put, sQa, sQb, sQc, gQa, gQb, gQc]
          refine wpAnyH_ready (rs := [8]) (by kernel_rfl) (by simp) ?_
          refine AllReadyH.cons (o := _) rfl (fun K hK => ?_) AllReadyH.nil
          go_simp
          refine (iha.out _ (fun b => (P b ∨ b = w.heap.size) ∨ b = b2) hg1.out (T6.out.bel (bel_drew w6)) (Nat.le_trans h8B.out B6.out.size) (Enc.kept x6.out fun _ _ _ => rfl) (fun b hb => .inl (.inl (hFP.out b hb)))).mono ?_
          rintro r w7 ⟨rfl, T7, S7, B7⟩
          have g7 := (S7 b2 (.inr rfl)).trans g6.out
          have f7 := block_frozen g7 0
          have d7 := block_cell g7 0
          simp only [List.getElem?_toArray, List.getElem?_cons_zero, List.getElem?_cons_succ] at d7
          replace g7 := hid g7
          replace T7 := hid T7
          replace S7 := hid S7
          replace B7 := hid B7
          go_wp2_with fail
          refine hK.out _ _ ?_ (fun hHeld => ?_)
          · exact rangeAt_kept hHeld (fun _ => S7 w.heap.size (.inl (.inr rfl)))
          clear hK K
          try simp only [Act.put, sQa, sQb, sQc, gQa, gQb, gQc]
          refine' wpAnyH_take (i := 9) (oi := _) (v := ?_) rfl (by kernel_rfl) (by kernel_rfl) (by kernel_rfl) (fun _ _ _ h => h) (Or.inl ⟨by rfl, ?_⟩) (by assumption) ?_
          rotate_left
          · intro W hSw
            go_simp
            first | done | (with_reducible rfl)
          try simp only [Act.put, sQa, sQb, sQc, gQa, gQb, gQc]
          refine wpAnyH_ready (rs := [10]) (by kernel_rfl) (by simp) ?_
          refine AllReadyH.cons (o := _) rfl (fun K hK => ?_) AllReadyH.nil
          go_simp
          refine hK.out _ _ ?_ (fun hHeld => ?_)
          · exact rangeAt_kept hHeld (fun _ => Below.heap_setCell _ _ _ _ (by have := rb.out; have := sz0.out; show w.heap.size ≠ b2; omega))
          clear hK K
          try simp only [Act.put, sQa, sQb, sQc, gQa, gQb, gQc]
          refine wpAnyH_done (by kernel_rfl) ?_ _
          refine NoPanic.normal ?_
          have g8 := hid (block_set g7.out 0 (.int .i64 M))
          have T8 := hid (T7.out.at_ (b0 := b2) (w' := w7.setCell ⟨b2, 0, none⟩ (.int .i64 M)) (.inr rfl) (fun h => by have := hFl.out b2 h; have := rb.out; have := sz0.out; omega) (by simp [World.setCell]) (fun b _ hn => Below.heap_setCell _ _ _ _ hn))
          have S8 := hid (fun b (hp : P b) => (Below.heap_setCell w7 ⟨b2, 0, none⟩ (.int .i64 M) b (by have := hPl.out b hp; have := rb.out; have := sz0.out; show b ≠ b2; omega)).trans ((S7.out b (.inl (.inl hp))).trans ((B6.out.block b (by have := hPl.out b hp; have := sz0.out; omega)).trans (S0.out b hp))))
          have B8 := hid (((W0.out.trans (B6.out.mono h8B.out)).trans (undrew B7.out)).setCell (p := ⟨b2, 0, none⟩) (Nat.le_trans h8B.out rb.out) (.int .i64 M))
          rw [set2_0] at g8
          have hsz8 := hid (show B0 ≤ (w7.setCell ⟨b2, 0, none⟩ (.int .i64 M)).heap.size by have := B8.out.size; omega)
          have r8 := hid (rangeOf (l := [Value.int .i64 (M), .int .i64 (RR)]) g8.out)
          clear T7 S7 B7 g7 f7 d7 T6 c6 g6 B6 q6 x6 hHeld iha
          generalize w7.setCell ⟨b2, 0, none⟩ (.int .i64 M) = w8 at *
          have hi8 := hid (show (Tryd.prog.info? 131).map (·.size) = some ([Value.int .i64 (M), .int .i64 (RR)]).length from size2)
          go_wp2_with (first
            | ((with_reducible refine wpList_load_rng rfl 131 (.tmp 9) rfl b2 0 rfl [Value.int .i64 (M), .int .i64 (RR)] _ ?_ hu2 rfl hi8.out ?_); exact r8.out))
          refine (hfk.out _ T8.out hsz8.out).mono ?_
          rintro r w9 ⟨rfl, T9, S9, B9⟩
          go_wp2
          go_ret
          rw [hres.out]
          exact ⟨rfl, T9.less (fun b hb => .inl (.inl hb)), fun b hp => (S9 b (.inl (.inl hp))).trans (S8.out b hp), B8.out.trans B9⟩
      · as_aux_lemma =>
          have hres := hstep.out
          rw [if_pos rfl] at hres
          have hg1 := gr.out rfl
          obtain ⟨p1, p2, p3⟩ := hFk.out 0 _ hg1
          have iha := ihF.out (RR)
          generalize putN ns k v e (RR) = rp at *
          obtain ⟨ns2, M⟩ := rp
          dsimp only at p1 p2 p3 hres
          replace hres := hid hres
          have hg1 := hid hg1
          replace iha := hid iha
          have hfk := hid (fun W h1 h2 => PAddFork_any W g B0 F (fun b => (P b ∨ b = w.heap.size) ∨ b = b2) ns2 root (L) (M) h1 h2 (by omega) ⟨by omega, by omega⟩ ⟨by omega, by omega⟩)
          clear hstep gl gr ihF hFk
          have e5c := block_cell e5.out 1
          simp only [List.getElem?_toArray, List.getElem?_cons_zero, List.getElem?_cons_succ] at e5c
          have T5 := hid ((T0.out.more (Q := fun b => b = b2) B5.out (fun b hb => by subst hb; exact ⟨rb.out, lt5.out⟩)))
          refine (hBt.out _).mono ?_
          rintro r w6 ⟨rfl, hb⟩
          have c6 := (hb.cell (p := ⟨b2, 1, none⟩) lt5.out).trans e5c
          have g6 := hid ((hb.block _ lt5.out).trans e5.out)
          have B6 := hid (B5.out.trans (hb.mono B5.out.size))
          have T6 := hid (T5.out.bel hb)
          have q6 := hid (rangeBel2 B6.out q0.out)
          have x6 := hid (Enc.kept x0.out (fun b hb hl => B6.out.block b hl))
          clear hb e5 e5c B5 T5 lt5
          go_wp2
          refine wp_region_noPanic ?_
          refine wp_region_held_drew (S := fun w' => w'.rangeAt w.heap.size 0 cs) (by kernel_rfl) ?_ (fun hHeld => ?_)
          · exact q6.out
          refine' wpAnyH_take (i := 0) (oi := _) (v := ?_) rfl (by kernel_rfl) (by kernel_rfl) (by kernel_rfl) (fun _ _ _ h => h) (Or.inl ⟨by rfl, ?_⟩) (by assumption) ?_
          rotate_left
          · intro W hSw
            go_simp
            first | done | (with_reducible rfl)
          try simp only [Act.put, sQa, sQb, sQc, gQa, gQb, gQc]
          refine' wpAnyH_take (i := 1) (oi := _) (v := ?_) rfl (by kernel_rfl) (by kernel_rfl) (by kernel_rfl) (fun _ _ _ h => h) (Or.inl ⟨by rfl, ?_⟩) (by assumption) ?_
          rotate_left
          · intro W hSw
            go_simp
            first | done | (with_reducible rfl)
          try simp only [Act.put, sQa, sQb, sQc, gQa, gQb, gQc]
          refine' wpAnyH_take (i := 2) (oi := _) (v := ?_) rfl (by kernel_rfl) (by kernel_rfl) (by kernel_rfl) (fun _ _ _ h => h) (Or.inl ⟨by rfl, ?_⟩) (by assumption) ?_
          rotate_left
          · intro W hSw
            go_simp
            first | done | (with_reducible rfl)
          try simp only [Act.put, sQa, sQb, sQc, gQa, gQb, gQc]
          refine' wpAnyH_take (i := 3) (oi := _) (v := ?_) rfl (by kernel_rfl) (by kernel_rfl) (by kernel_rfl) (fun _ _ _ h => h) (Or.inl ⟨by rfl, ?_⟩) (by assumption) ?_
          rotate_left
          · intro W hSw
            go_simp
            first | done | (with_reducible rfl)
          try simp only [Act.put, sQa, sQb, sQc, gQa, gQb, gQc]
          refine' wpAnyH_take (i := 5) (oi := _) (v := ?_) rfl (by kernel_rfl) (by kernel_rfl) (by kernel_rfl) (fun _ _ _ h => h) (Or.inl ⟨by rfl, ?_⟩) (by assumption) ?_
          rotate_left
          · intro W hSw
            go_simp
            first | done | (with_reducible rfl)
          try simp only [Act.put, sQa, sQb, sQc, gQa, gQb, gQc]
          refine' wpAnyH_take (i := 6) (oi := _) (v := ?_) rfl (by kernel_rfl) (by kernel_rfl) (by kernel_rfl) (fun _ _ _ h => h) (Or.inl ⟨by rfl, ?_⟩) (by assumption) ?_
          rotate_left
          · intro W hSw
            go_simp
            first | done | (with_reducible rfl)
          try simp only [Act.put, sQa, sQb, sQc, gQa, gQb, gQc]
          refine' wpAnyH_take (i := 7) (oi := _) (v := _) rfl (by kernel_rfl) (by kernel_rfl) (by kernel_rfl) (fun _ _ _ h => h) (yieldsIf_load_mid (by rfl) _ _ rfl _ _ rfl _ _ (fun _ h => h) hun rfl hiN.out) (by assumption) ?_
          try simp only [Act.put, sQa, sQb, sQc, gQa, gQb, gQc]
          refine wpAnyH_ready (rs := [4]) (by kernel_rfl) (by simp) ?_
          refine AllReadyH.cons (o := _) rfl (fun K hK => ?_) AllReadyH.nil
          go_simp
          refine hK.out _ _ ?_ (fun hHeld => ?_)
          · exact hHeld
          clear hK K
          try simp only [Act.put, sQa, sQb, sQc, gQa, gQb, gQc]
          refine wpAnyH_ready (rs := [8]) (by kernel_rfl) (by simp) ?_
          refine AllReadyH.cons (o := _) rfl (fun K hK => ?_) AllReadyH.nil
          go_simp
          refine (iha.out _ (fun b => (P b ∨ b = w.heap.size) ∨ b = b2) hg1.out (T6.out.bel (bel_drew w6)) (Nat.le_trans h8B.out B6.out.size) (Enc.kept x6.out fun _ _ _ => rfl) (fun b hb => .inl (.inl (hFP.out b hb)))).mono ?_
          rintro r w7 ⟨rfl, T7, S7, B7⟩
          have g7 := (S7 b2 (.inr rfl)).trans g6.out
          have f7 := block_frozen g7 1
          have d7 := block_cell g7 1
          simp only [List.getElem?_toArray, List.getElem?_cons_zero, List.getElem?_cons_succ] at d7
          replace g7 := hid g7
          replace T7 := hid T7
          replace S7 := hid S7
          replace B7 := hid B7
          go_wp2_with fail
          refine hK.out _ _ ?_ (fun hHeld => ?_)
          · exact rangeAt_kept hHeld (fun _ => S7 w.heap.size (.inl (.inr rfl)))
          clear hK K
          try simp only [Act.put, sQa, sQb, sQc, gQa, gQb, gQc]
          refine' wpAnyH_take (i := 9) (oi := _) (v := ?_) rfl (by kernel_rfl) (by kernel_rfl) (by kernel_rfl) (fun _ _ _ h => h) (Or.inl ⟨by rfl, ?_⟩) (by assumption) ?_
          rotate_left
          · intro W hSw
            go_simp
            first | done | (with_reducible rfl)
          try simp only [Act.put, sQa, sQb, sQc, gQa, gQb, gQc]
          refine wpAnyH_ready (rs := [10]) (by kernel_rfl) (by simp) ?_
          refine AllReadyH.cons (o := _) rfl (fun K hK => ?_) AllReadyH.nil
          go_simp
          refine hK.out _ _ ?_ (fun hHeld => ?_)
          · exact rangeAt_kept hHeld (fun _ => Below.heap_setCell _ _ _ _ (by have := rb.out; have := sz0.out; show w.heap.size ≠ b2; omega))
          clear hK K
          try simp only [Act.put, sQa, sQb, sQc, gQa, gQb, gQc]
          refine wpAnyH_done (by kernel_rfl) ?_ _
          refine NoPanic.normal ?_
          have g8 := hid (block_set g7.out 1 (.int .i64 M))
          have T8 := hid (T7.out.at_ (b0 := b2) (w' := w7.setCell ⟨b2, 1, none⟩ (.int .i64 M)) (.inr rfl) (fun h => by have := hFl.out b2 h; have := rb.out; have := sz0.out; omega) (by simp [World.setCell]) (fun b _ hn => Below.heap_setCell _ _ _ _ hn))
          have S8 := hid (fun b (hp : P b) => (Below.heap_setCell w7 ⟨b2, 1, none⟩ (.int .i64 M) b (by have := hPl.out b hp; have := rb.out; have := sz0.out; show b ≠ b2; omega)).trans ((S7.out b (.inl (.inl hp))).trans ((B6.out.block b (by have := hPl.out b hp; have := sz0.out; omega)).trans (S0.out b hp))))
          have B8 := hid (((W0.out.trans (B6.out.mono h8B.out)).trans (undrew B7.out)).setCell (p := ⟨b2, 1, none⟩) (Nat.le_trans h8B.out rb.out) (.int .i64 M))
          rw [set2_1] at g8
          have hsz8 := hid (show B0 ≤ (w7.setCell ⟨b2, 1, none⟩ (.int .i64 M)).heap.size by have := B8.out.size; omega)
          have r8 := hid (rangeOf (l := [Value.int .i64 (L), .int .i64 (M)]) g8.out)
          clear T7 S7 B7 g7 f7 d7 T6 c6 g6 B6 q6 x6 hHeld iha
          generalize w7.setCell ⟨b2, 1, none⟩ (.int .i64 M) = w8 at *
          have hi8 := hid (show (Tryd.prog.info? 131).map (·.size) = some ([Value.int .i64 (L), .int .i64 (M)]).length from size2)
          go_wp2_with (first
            | ((with_reducible refine wpList_load_rng rfl 131 (.tmp 9) rfl b2 0 rfl [Value.int .i64 (L), .int .i64 (M)] _ ?_ hu2 rfl hi8.out ?_); exact r8.out))
          refine (hfk.out _ T8.out hsz8.out).mono ?_
          rintro r w9 ⟨rfl, T9, S9, B9⟩
          go_wp2
          go_ret
          rw [hres.out]
          exact ⟨rfl, T9.less (fun b hb => .inl (.inl hb)), fun b hp => (S9 b (.inl (.inl hp))).trans (S8.out b hp), B8.out.trans B9⟩
theorem PTput_any (g B0 : Nat) (F : Nat → Prop) (k : Dg) (v : List UInt8) (AV : Option Addr) (cV : Nat) (ns : List Nd) (root : Int) (ho : Ones ns) (hv : valB v = true) (hlen : ns.length + 600 ≤ 1000000) : ∀ (e d : Nat) (n : Int) (w : World) (P : Nat → Prop), e + d = 256 → PG ns k e n →
    TrieAt w g B0 F P ns root → B0 ≤ w.heap.size → Enc.rep F w (leafN k v) (ndC (leafN k v) AV cV) → (∀ b, F b → P b) →
    Calls Tryd.prog 52 #[.pointer (some ⟨g, 0, none⟩), .int .i64 n, .int .i64 (d : Int), .agg (ndC (leafN k v) AV cV).toArray] w (PutPost g B0 F P root w (putN ns k v e n))
  | 0, d, n, w, P, hd, hG, hT, hB, hx, hFP => PTput_step g B0 F k v AV cV ns root ho hv hlen 0 d n hd hG w P hT hB hx hFP fun f hf => by omega
  | e + 1, d, n, w, P, hd, hG, hT, hB, hx, hFP => PTput_step g B0 F k v AV cV ns root ho hv hlen (e + 1) d n hd hG w P hT hB hx hFP fun f hf n w P hG hT hB hx hFP => by
    obtain rfl : e = f := by omega
    exact PTput_any g B0 F k v AV cV ns root ho hv hlen e (d + 1) n w P (by omega) hG hT hB hx hFP
end Go.Proofs.YtfjkcdccnbggnaaDoor
