/-
  Contracts of the landed package tx: Body, Bytes.
-/
import Derived.Test.YtaegdiggmgifiaaDoorTxA
import Derived.Test.YtaegdiggmgifiaaDoorMem
namespace Go.Proofs.YtaegdiggmgifiaaDoor
open Go.RowKit
set_option linter.unusedVariables false
set_option linter.unusedSimpArgs false
set_option maxRecDepth 100000

theorem slotDgX : Slot Tryd.prog Dg 77 23 (.agg z32) 32 where
  under := Tryd.underlying77
  info := by kernel_rfl
  zero := by decide +kernel
  pos := by decide
theorem slotNoX : Slot Tryd.prog Nat 78 24 (.int .u64 0) 8 where
  under := Tryd.underlying78
  info := by kernel_rfl
  zero := rfl
  pos := by decide
theorem wpList_buildVs {P : Program} {α : Type} [Enc α] {S E : TypeId} {z : Value} {bytes : Nat} (hS : Slot P α S E z bytes) {w : World} {ops : Array Oper} {rest : List Oper} {o : Oper} {a : Act} {Q : Exit → Act → World → Prop} (hg : Region.wanted o (yielded ops a.tmps) = true)
    (n : Nat) (parts : Array (Nat × Operand)) (hop : o.op = .buildSlice S n parts) (css : List (List Value)) (vs : List Value) (hn : css.length = n) (h0 : 0 < n) (hsm : n * Enc.size α ≤ 16777216) (hl : ∀ cs ∈ css, cs.length = Enc.size α) (hvs : vs.map (·.cells) = css.map (·.toArray))
    (hp : parts.toList.map (fun (i, x) => (i, a.eval x)) = (vs.zipIdx 0).map fun x => (x.2, x.1))
    (hK : wpList P ops Q rest (a.put o.dst (.slice (some ⟨w.heap.size, 0, none⟩) n n)) (w.alloc (.cells css.flatten.toArray E))) : wpList P ops Q (o :: rest) a w :=
  wpList_step fun _ hK2 => by
    rw [if_pos hg]
    have he : (parts.map fun (i, x) => (i, a.eval x)) = ((vs.zipIdx 0).map fun x => (x.2, x.1)).toArray := by
      apply Array.ext'
      rw [Array.toList_map, hp]
    unfold Oper.wp execOp
    simp only [hop, he, Sem.run_bind, run_buildAll hS n css hn h0 hsm hl vs hvs w, Result.andThen_ok]
    exact hK2 _ _ hK
theorem row_dgsX {w : World} (ds : List Dg) (E : TypeId) : Row (fun b => w.heap.size ≤ b ∧ b < w.heap.size + 1) (w.alloc (.cells ((ds.map fun d => d.1.map bv).flatten).toArray E)) (some ⟨w.heap.size, 0, none⟩) ds := fun hn =>
  ⟨w.heap.size, 0, rfl, ⟨Nat.le_refl _, Nat.lt_succ_self _⟩, by simp, cells_all (F := fun b => w.heap.size ≤ b ∧ b < w.heap.size + 1) (by simp) fun j x vs hx hv => by
    rw [List.getElem?_map, hx] at hv
    injection hv with hv
    subst hv
    rfl⟩
theorem row_nosX {w : World} (ns : List Nat) (h : ∀ n ∈ ns, n < 18446744073709551616) (E : TypeId) : Row (fun b => w.heap.size ≤ b ∧ b < w.heap.size + 1) (w.alloc (.cells ((ns.map fun (n : Nat) => [Value.int .u64 (n : Int)]).flatten).toArray E)) (some ⟨w.heap.size, 0, none⟩) ns := fun hn =>
  ⟨w.heap.size, 0, rfl, ⟨Nat.le_refl _, Nat.lt_succ_self _⟩, by simp, cells_all (F := fun b => w.heap.size ≤ b ∧ b < w.heap.size + 1) (by simp) fun j x vs hx hv => by
    rw [List.getElem?_map, hx] at hv
    injection hv with hv
    subst hv
    exact ⟨rfl, h x (List.mem_of_getElem? hx)⟩⟩
theorem dgsB_two (d e : Dg) : [] ++ dgsB [d, e] = d.1 ++ e.1 := by simp [dgsB]
theorem dgsB_one (d : Dg) : dgsB [d] = d.1 := by simp [dgsB]
theorem nosB_three (a b c : Nat) : nosB [a, b, c] = be 8 a ++ (be 8 b ++ be 8 c) := by simp [nosB]
set_option maxHeartbeats 2000000 in
theorem PTxBody_any (x : Tx) (hx : x.ok) (w : World) : Calls Tryd.prog 15 #[.agg (txC x).toArray] w fun e w' => ∃ A c, e = .returned (.slice A 88 c) ∧ Own 5 w' w.heap.size A c (bodyX x) ∧ Below w.heap.size w w' := by
  have hu := Tryd.underlying23
  have B0 := BoxX.new w x 26
  have W0 := hid (ext_alloc w (.cells (txC x).toArray 26))
  have hs0 := hid (show (w.alloc (.cells (txC x).toArray 26)).heap.size = w.heap.size + 1 from World.size_alloc _ _)
  have p0 := hid B0.p
  have t0 := hid B0.t
  have n0 := hid B0.n
  have a0 := hid B0.a
  have f0 := hid B0.f
  have s1 := hid (sizeDxL x.p)
  have s2 := hid (sizeDxL x.t)
  have lp := hid (len_dgv x.p)
  have lt := hid (len_dgv x.t)
  have P1 := (fun (W : World) => PTxPutD_any (fun b => W.heap.size ≤ b ∧ b < W.heap.size + 1) (W.heap.size + 1) W.heap.size (W.heap.size + 1) none (some ⟨W.heap.size, 0, none⟩) 0 2 [] [x.p, x.t] (W.alloc (.cells (([x.p, x.t].map fun d => d.1.map bv).flatten).toArray 23)) (Own.nil _ _) (by rw [World.size_alloc]; exact Nat.le_refl _) (row_dgsX _ _) (fun _ h => h) (by rw [World.size_alloc]; exact Nat.le_refl _) (Zone.none _ _) (by simp) (by simp))
  rw [dgsB_two] at P1
  have hlen1 : (x.p.1 ++ x.t.1).length = 64 := by rw [List.length_append, x.p.2, x.t.2]
  rw [hlen1] at P1
  have P2 := hid (fun (A : Option Addr) (c : Nat) (W : World) (B : Nat) (hB : B ≤ W.heap.size) (ho : Own 5 W B A c (x.p.1 ++ x.t.1)) => PTxPutN_any (fun b => W.heap.size ≤ b ∧ b < W.heap.size + 1) B W.heap.size (W.heap.size + 1) A (some ⟨W.heap.size, 0, none⟩) c 3 (x.p.1 ++ x.t.1) [x.n, x.a, x.f] (W.alloc (.cells (([x.n, x.a, x.f].map fun (n : Nat) => [Value.int .u64 (n : Int)]).flatten).toArray 24)) (ho.alloc _) (by rw [World.size_alloc]; omega) (row_nosX _ (by intro n hn; simp at hn; rcases hn with rfl | rfl | rfl; exact hx.1; exact hx.2.1; exact hx.2.2) _) (fun _ h => h) (by rw [World.size_alloc]; exact Nat.le_refl _) (fun a ha => .inl (ho.blk a ha).2) (by rw [hlen1]; decide) (by simp))
  have hb : x.p.1 ++ x.t.1 ++ nosB [x.n, x.a, x.f] = bodyX x := by unfold bodyX nosB; simp
  rw [hb, body_len, hlen1] at P2
  clear hb hlen1 B0
  generalize bodyX x = z at *
  generalize x.p.1 ++ x.t.1 = y at *
  generalize x.n = vn at *
  generalize x.a = va at *
  generalize x.f = vf at *
  rw [show ([x.p, x.t] : List Dg).length = 2 from rfl, show ([] : List UInt8).length = 0 from rfl] at P1
  rw [show ([vn, va, vf] : List Nat).length = 3 from rfl] at P2
  simp only [List.map_cons, List.map_nil, List.flatten_cons, List.flatten_nil, List.append_nil, List.cons_append, List.nil_append] at P1 P2
  generalize x.p.1.map bv = cp at *
  generalize x.t.1.map bv = ct at *
  generalize txC x = cx at *
  go_enter Tryd.func15, Tryd.ntmps15
  replace P1 := P1 (w.alloc (.cells cx.toArray 26))
  rw [hs0.out] at P1
  replace P1 := hid P1
  have W1 := hid (ext_alloc (w.alloc (.cells cx.toArray 26)) (.cells (cp ++ ct).toArray 23))
  rw [hs0.out] at W1
  go_wp2_with (first
    | ((with_reducible refine wpList_load_rng rfl 23 (.tmp 4) rfl w.heap.size 0 rfl cp _ ?_ hu rfl s1.out ?_); exact p0.out)
    | ((with_reducible refine wpList_load_rng rfl 23 (.tmp 6) rfl w.heap.size 32 rfl ct _ ?_ hu rfl s2.out ?_); exact t0.out)
    | ((with_reducible refine wpList_buildVs slotDgX rfl 2 _ rfl [cp, ct] [.agg cp.toArray, .agg ct.toArray] rfl (by decide) (by decide) ?_ ?_ ?_ ?_); (intro cs hcs; simp at hcs; rcases hcs with rfl | rfl; exact lp.out; exact lt.out); rfl; rfl))
  refine P1.out.mono ?_
  rintro e w3 ⟨A3, c3, rfl, o3, hb⟩
  have V1 := hid (show Below (w.heap.size + 1) (w.alloc (.cells cx.toArray 26)) w3 from W1.out.trans (hb.mono (Nat.le_succ _)))
  have z3 := hid (show w.heap.size + 1 ≤ w3.heap.size from by have := V1.out.size; rw [hs0.out] at this; exact this)
  have n3 := hid ((V1.out.cell (Nat.lt_succ_self _)).trans n0.out)
  have a3 := hid ((V1.out.cell (Nat.lt_succ_self _)).trans a0.out)
  have f3 := hid ((V1.out.cell (Nat.lt_succ_self _)).trans f0.out)
  have P3 := hid (P2.out A3 c3 w3 (w.heap.size + 1) z3.out (o3.base (Nat.le_succ _)))
  clear hb W1 n0 a0 f0 p0 t0 P1 P2
  replace n3 := n3.out
  replace a3 := a3.out
  replace f3 := f3.out
  go_wp2_with (first
    | ((with_reducible refine wpList_buildVs slotNoX rfl 3 _ rfl [[.int .u64 (vn : Int)], [.int .u64 (va : Int)], [.int .u64 (vf : Int)]] [.int .u64 (vn : Int), .int .u64 (va : Int), .int .u64 (vf : Int)] rfl (by decide) (by decide) ?_ ?_ ?_ ?_); (intro cs hcs; simp at hcs; rcases hcs with rfl | rfl | rfl <;> rfl); rfl; rfl))
  refine P3.out.mono ?_
  rintro e w5 ⟨A5, c5, rfl, o5, hb⟩
  have V5 := hid (V1.out.trans ((ext_alloc w3 (.cells [Value.int .u64 (vn : Int), .int .u64 (va : Int), .int .u64 (vf : Int)].toArray 24)).mono z3.out) |>.trans hb)
  clear hb n3 a3 f3
  go_wp2
  go_ret
  exact ⟨_, _, rfl, o5.base (Nat.le_succ _), W0.out.trans (V5.out.mono (Nat.le_succ _))⟩
end Go.Proofs.YtaegdiggmgifiaaDoor
