/-
  Contracts of the landed package acct: Total's closure, Total.
-/
import Derived.Shelf.Spec.BitsCarry
import Derived.Test.YtcifncmfjlbhjaaDoorAcC
namespace Go.Proofs.YtcifncmfjlbhjaaDoor
open Go.RowKit Go.Shelf
set_option linter.unusedVariables false
set_option linter.unusedSimpArgs false
set_option maxRecDepth 100000
attribute [local go_sem] Oper.semAt_some

def renAdd : Ren where
  f := fun x => match x with
    | 25 => 25
    | y => y
  t := fun x => match x with
    | 22 => 22
    | y => y
  g := fun x => x
theorem laysAdd : Lays7.n25 Tryd.prog renAdd where
  mixed := by kernel_rfl
  f25 := (by kernel_rfl : Tryd.prog.funcs[25]? = some (Body7.n25 renAdd))
  t22 := Tryd.underlying22
  a22 := Tryd.isAgg22
  z22 := Tryd.sizeOf22
  v22 := Tryd.zeroValue22
  i22 := by kernel_rfl
theorem add64_is (x y : Nat) (lo cy : Int) (h1 : lo = ((x + y) % 18446744073709551616 : Nat)) (h2 : cy = ((x + y) / 18446744073709551616 : Nat)) (w : World) :
    (callFunc 25 #[.int .u64 (x : Int), .int .u64 (y : Int), .int .u64 0]).run Tryd.prog w = .ok (.value (.tuple #[.int .u64 lo, .int .u64 cy])) w := by
  subst h1 h2
  exact Any7.bits_Add64 laysAdd x y 0 (by decide) w
set_option maxHeartbeats 1000000 in
/-- The closure that adds a balance to the two numbers. -/
theorem AcAdd_is (hi lo : Nat) (S b : Nat) (l h l2 h2 : Int) (w : World) (hl : l = (S % 18446744073709551616 : Nat)) (hh : h = (S / 18446744073709551616 % 18446744073709551616 : Nat)) (hl2 : l2 = ((S + b) % 18446744073709551616 : Nat)) (hh2 : h2 = ((S + b) / 18446744073709551616 % 18446744073709551616 : Nat))
    (hne : hi ≠ lo) (bl : Boxed w lo 22 (.int .u64 l)) (bh : Boxed w hi 22 (.int .u64 h)) :
    Calls Tryd.prog 24 #[.int .u64 (b : Int), .pointer (some ⟨lo, 0, none⟩), .pointer (some ⟨hi, 0, none⟩)] w fun e w' => (∃ v, e = .returned v) ∧ w' = (w.setCell ⟨lo, 0, none⟩ (.int .u64 l2)).setCell ⟨hi, 0, none⟩ (.int .u64 h2) := by
  obtain ⟨cy, hcy⟩ : ∃ cy : Int, cy = ((S % 18446744073709551616 + b) / 18446744073709551616 : Nat) := ⟨_, rfl⟩
  have hA := fun W => add64_is (S % 18446744073709551616) b l2 cy (by rw [hl2]; congr 1; omega) hcy W
  rw [← hl] at hA
  have hw : IntKind.u64.wrap (h + cy) = h2 := by
    rw [IntKind.wrap_u64, hh, hcy, hh2]
    omega
  have cl := bl.cell
  have fl := bl.frozen
  have ch := (bh.other hne (.int .u64 l2)).cell
  have fh := (bh.other hne (.int .u64 l2)).frozen
  clear hl hh hl2 hh2 hcy bl bh
  go_enter Tryd.func24, Tryd.ntmps24
  go_wp2
  go_end0
  exact ⟨⟨_, rfl⟩, rfl⟩
def tHi (xs : List (Ac × Int)) : Int := (sumA xs / 18446744073709551616 % 18446744073709551616 : Nat)
def tLo (xs : List (Ac × Int)) : Int := (sumA xs % 18446744073709551616 : Nat)
/-- What the loop of Total holds between two rounds. -/
def LoopT (w : World) (pre : List (Ac × Int)) (W : World) : Prop := (∀ x ∈ pre, x.2 = 0) ∧ Boxed W (w.heap.size + 1) 22 (.int .u64 (tHi pre)) ∧ Boxed W (w.heap.size + 1 + 1) 22 (.int .u64 (tLo pre)) ∧ Boxed W (w.heap.size + 1 + 1 + 1) 25 (.int .i64 0) ∧
  Boxed W (w.heap.size + 1 + 1 + 1 + 1) 57 (.func (.func 24) #[] #[.pointer (some ⟨w.heap.size + 1 + 1, 0, none⟩), .pointer (some ⟨w.heap.size + 1, 0, none⟩)]) ∧ Below w.heap.size w W
/-- What holds where a round of it has left. -/
def LeftT (w : World) (cd : Code) (pre : List (Ac × Int)) (W : World) : Prop := cd = .ret ∧ ∃ q x, pre = q ++ [x] ∧ x.2 ≠ 0 ∧ Boxed W (w.heap.size + 1) 22 (.int .u64 0) ∧ Boxed W (w.heap.size + 1 + 1) 22 (.int .u64 0) ∧ Boxed W (w.heap.size + 1 + 1 + 1) 25 (.int .i64 x.2) ∧ Below w.heap.size w W
theorem loopT_from (w : World) (B : Nat) (hB : w.heap.size ≤ B) : OwnFrom B (LoopT w) := by
  rintro pre X Y row ⟨h1, h2, h3, h4, h5, h6⟩ hg hr
  have hr2 := fun r e => (hr r e).2
  exact ⟨h1, h2.kept hg (apart_cells h2 hr2), h3.kept hg (apart_cells h3 hr2), h4.kept hg (apart_cells h4 hr2), h5.kept hg (apart_cells h5 hr2), h6.grown hg h6.size (fun k e => Nat.le_trans hB (hr k e).1)⟩
theorem leftT_from (w : World) (B : Nat) (hB : w.heap.size ≤ B) (cd : Code) : OwnFrom B (LeftT w cd) := by
  rintro pre X Y row ⟨h1, q, x, h2, h3, h4, h5, h6, h7⟩ hg hr
  have hr2 := fun r e => (hr r e).2
  exact ⟨h1, q, x, h2, h3, h4.kept hg (apart_cells h4 hr2), h5.kept hg (apart_cells h5 hr2), h6.kept hg (apart_cells h6 hr2), h7.grown hg h7.size (fun k e => Nat.le_trans hB (hr k e).1)⟩
/-- What the assignment of a round leaves. -/
def tmpsA (A : Option Addr) (n c : Nat) (root : Int) (s b6 : Nat) (x : Ac × Int) : Array Value :=
  #[.agg #[.slice A n c, .int .i64 root], .pointer (some ⟨s, 0, none⟩), .pointer (some ⟨s + 1, 0, none⟩), .pointer (some ⟨s + 1 + 1, 0, none⟩), .pointer (some ⟨s + 1 + 1 + 1, 0, none⟩), .pointer (some ⟨s + 1 + 1 + 1 + 1, 0, none⟩), .pointer (some ⟨b6, 0, none⟩), .int .i64 x.2,
    .func (.func 24) #[] #[.pointer (some ⟨s + 1 + 1, 0, none⟩), .pointer (some ⟨s + 1, 0, none⟩)], .agg #[.slice A n c, .int .i64 root], .func (.func 45) #[] #[.pointer (some ⟨s + 1 + 1 + 1 + 1 + 1, 0, none⟩)],
    .agg (acC x.1).toArray, .int .i64 x.2, undef, undef, undef, undef, undef, undef, undef, undef, undef]
def AxA (A : Option Addr) (n c : Nat) (root : Int) (s : Nat) (x : Ac × Int) (a : Act) (W : World) : Prop := ∃ b6, s + 1 + 1 + 1 + 1 < b6 ∧ W.heap[b6]? = some (.cells (acC x.1).toArray 24 (0, 0)) ∧ a = { tmps := tmpsA A n c root s b6 x, defers := [] }
theorem axA_from (A : Option Addr) (n c : Nat) (root : Int) (s B : Nat) (x : Ac × Int) (a : Act) : OwnFrom B (fun (_ : Unit) W => AxA A n c root s x a W) := by
  rintro _ X Y row ⟨b6, h0, h1, h2⟩ hg hr
  exact ⟨b6, h0, (hg.block _ (block_lt h1) (apart_cells h1 fun r e => (hr r e).2)).trans h1, h2⟩
theorem tot_end {t : Tr} (hm : mayA t = true) (hc : t.ns.length ≤ 1000000) : tHi (seqA t) = (totH (allT t) : Int) ∧ tLo (seqA t) = (totL (allT t) : Int) := by
  unfold tHi tLo totH totL
  rw [seqA_tot hm]
  refine ⟨?_, rfl⟩
  have h1 : mayT t = true := by unfold mayA at hm; simp only [Bool.and_eq_true] at hm; exact hm.1
  have h2 := tot_le (allT t)
  have h3 := all_len h1 hc
  congr 1
  omega
set_option maxHeartbeats 8000000 in
theorem PAcTotal_any (F : Nat → Prop) (A : Option Addr) (c : Nat) (ns : List Nd) (root : Int) (w : World) (hr : Row F w A ns) (hc : ns.length ≤ 1000000) :
    Calls Tryd.prog 7 #[.agg #[.slice A ns.length c, .int .i64 root]] w fun e w' => e = .returned (.tuple #[.int .u64 (if mayA ⟨ns, root⟩ = true then (totH (allT ⟨ns, root⟩) : Int) else 0), .int .u64 (if mayA ⟨ns, root⟩ = true then (totL (allT ⟨ns, root⟩) : Int) else 0), .int .i64 (if mayA ⟨ns, root⟩ = true then 0 else 8)]) ∧ Below w.heap.size w w' := by
  have hut := Tryd.underlying31
  obtain ⟨r1, hr1⟩ : ∃ a : Int, (if mayA ⟨ns, root⟩ = true then (totH (allT ⟨ns, root⟩) : Int) else 0) = a := ⟨_, rfl⟩
  obtain ⟨r2, hr2⟩ : ∃ a : Int, (if mayA ⟨ns, root⟩ = true then (totL (allT ⟨ns, root⟩) : Int) else 0) = a := ⟨_, rfl⟩
  obtain ⟨r3, hr3⟩ : ∃ a : Int, (if mayA ⟨ns, root⟩ = true then (0 : Int) else 8) = a := ⟨_, rfl⟩
  rw [hr1, hr2, hr3]
  have hY1 : Hid (mayA ⟨ns, root⟩ = true → r1 = tHi (seqA ⟨ns, root⟩) ∧ r2 = tLo (seqA ⟨ns, root⟩) ∧ r3 = 0) := hid fun h => by
    obtain ⟨e1, e2⟩ := tot_end h hc
    rw [← hr1, ← hr2, ← hr3, h, e1, e2]
    exact ⟨rfl, rfl, rfl⟩
  have hN1 : Hid (mayA ⟨ns, root⟩ = false → r1 = 0 ∧ r2 = 0 ∧ r3 = 8) := hid fun h => by
    rw [← hr1, ← hr2, ← hr3, h]
    exact ⟨rfl, rfl, rfl⟩
  clear hr1 hr2 hr3
  refine (callsIn_wide (n := 4)).1 ?_
  refine callsIn_of_wp_marks Tryd.func7 rfl trivial ?_ rfl
  simp only [Tryd.ntmps7, List.size_toArray, List.length_cons, List.length_nil, Nat.reduceAdd, Nat.reduceSub, Array.replicate_succ, Array.replicate_zero, List.push_toArray, List.append_toArray, List.nil_append, List.cons_append]
  gi_wp2_with fail
  have c1 := ((Boxed.new (w.alloc (.cells #[.slice A ns.length c, .int .i64 root] 31)) 22 (.int .u64 0)).alloc (.cells #[.int .u64 0] 22)).alloc (.cells #[.int .i64 0] 25) |>.alloc (.cells #[(.func (.func 24) #[] #[.pointer (some ⟨w.heap.size + 1 + 1, 0, none⟩), .pointer (some ⟨w.heap.size + 1, 0, none⟩)])] 57)
  have c2 := ((Boxed.new ((w.alloc (.cells #[.slice A ns.length c, .int .i64 root] 31)).alloc (.cells #[.int .u64 0] 22)) 22 (.int .u64 0)).alloc (.cells #[.int .i64 0] 25)).alloc (.cells #[(.func (.func 24) #[] #[.pointer (some ⟨w.heap.size + 1 + 1, 0, none⟩), .pointer (some ⟨w.heap.size + 1, 0, none⟩)])] 57)
  have c3 := (Boxed.new (((w.alloc (.cells #[.slice A ns.length c, .int .i64 root] 31)).alloc (.cells #[.int .u64 0] 22)).alloc (.cells #[.int .u64 0] 22)) 25 (.int .i64 0)).alloc (.cells #[(.func (.func 24) #[] #[.pointer (some ⟨w.heap.size + 1 + 1, 0, none⟩), .pointer (some ⟨w.heap.size + 1, 0, none⟩)])] 57)
  have c4 := Boxed.new ((((w.alloc (.cells #[.slice A ns.length c, .int .i64 root] 31)).alloc (.cells #[.int .u64 0] 22)).alloc (.cells #[.int .u64 0] 22)).alloc (.cells #[.int .i64 0] 25)) 57 (.func (.func 24) #[] #[.pointer (some ⟨w.heap.size + 1 + 1, 0, none⟩), .pointer (some ⟨w.heap.size + 1, 0, none⟩)])
  have X5 : Below w.heap.size w (((((w.alloc (.cells #[.slice A ns.length c, .int .i64 root] 31)).alloc (.cells #[.int .u64 0] 22)).alloc (.cells #[.int .u64 0] 22)).alloc (.cells #[.int .i64 0] 25)).alloc (.cells #[(.func (.func 24) #[] #[.pointer (some ⟨w.heap.size + 1 + 1, 0, none⟩), .pointer (some ⟨w.heap.size + 1, 0, none⟩)])] 57)) := by (repeat (first | exact Below.refl _ _ | assumption | refine ext_trans ?_ (by assumption) | refine ext_trans ?_ (ext_alloc _ _)))
  have s5 : (((((w.alloc (.cells #[.slice A ns.length c, .int .i64 root] 31)).alloc (.cells #[.int .u64 0] 22)).alloc (.cells #[.int .u64 0] 22)).alloc (.cells #[.int .i64 0] 25)).alloc (.cells #[(.func (.func 24) #[] #[.pointer (some ⟨w.heap.size + 1 + 1, 0, none⟩), .pointer (some ⟨w.heap.size + 1, 0, none⟩)])] 57)).heap.size = w.heap.size + 1 + 1 + 1 + 1 + 1 := by simp
  simp only [World.size_alloc] at c1 c2 c3 c4
  refine ⟨trivial, callsIn_wide.2 ((each_acct A ns.length c root _).mono ?_)⟩
  generalize (((((w.alloc (.cells #[.slice A ns.length c, .int .i64 root] 31)).alloc (.cells #[.int .u64 0] 22)).alloc (.cells #[.int .u64 0] 22)).alloc (.cells #[.int .i64 0] 25)).alloc (.cells #[(.func (.func 24) #[] #[.pointer (some ⟨w.heap.size + 1 + 1, 0, none⟩), .pointer (some ⟨w.heap.size + 1, 0, none⟩)])] 57)) = w5 at *
  rintro e W0 ⟨rfl, hW0⟩
  have hs0 : W0.heap.size = w.heap.size + 1 + 1 + 1 + 1 + 1 + 1 := by rw [hW0, World.size_alloc, s5]
  have d1 : Boxed W0 (w.heap.size + 1) 22 (.int .u64 0) := by rw [hW0]; exact c1.alloc _
  have d2 : Boxed W0 (w.heap.size + 1 + 1) 22 (.int .u64 0) := by rw [hW0]; exact c2.alloc _
  have d3 : Boxed W0 (w.heap.size + 1 + 1 + 1) 25 (.int .i64 0) := by rw [hW0]; exact c3.alloc _
  have d4 : Boxed W0 (w.heap.size + 1 + 1 + 1 + 1) 57 (.func (.func 24) #[] #[.pointer (some ⟨w.heap.size + 1 + 1, 0, none⟩), .pointer (some ⟨w.heap.size + 1, 0, none⟩)]) := by rw [hW0]; exact c4.alloc _
  have b3 : W0.heap[w.heap.size + 1 + 1 + 1 + 1 + 1]? = some (.cells #[.slice A ns.length c, .int .i64 root] 31 (0, 0)) := by
    rw [hW0]
    have := heap_alloc_new w5 (.cells #[.slice A ns.length c, .int .i64 root] 31)
    rw [s5] at this
    exact this
  have Y0 : Below w.heap.size w W0 := by rw [hW0]; exact X5.trans ((ext_alloc _ _).mono X5.size)
  clear hW0 c1 c2 c3 c4 X5
  rw [s5]
  gi_wp2
  refine wpIn_rangeFunc_ownH (F := Fence.wide) rfl (by omega) (gf := 45) (lb := #[.pointer (some ⟨w.heap.size + 1 + 1 + 1 + 1 + 1, 0, none⟩)]) rfl trivial (enters_of Tryd.func45 (by kernel_rfl) rfl)
    (encs := encA) (Kp := KeepA w.heap.size (fun b => b = w.heap.size + 1 ∨ b = w.heap.size + 1 + 1)) (S := fun xs => xs = seqA ⟨ns, root⟩) (Sp := fun pre => ∃ r, seqA ⟨ns, root⟩ = pre ++ r) (N := 1000001) (w0 := W0)
    (fun l J Jx W hW hJ hJx hY h0 => each1_in 3 (by omega) (w.heap.size + 1 + 1 + 1 + 1 + 1) w.heap.size l (fun b => b = w.heap.size + 1 ∨ b = w.heap.size + 1 + 1) F A c ns root w W rfl (Y0.trans (hW.mono Y0.size)) hr hc ((hW.block _ (block_lt b3)).trans b3)
      (fun b hb => by have := hW.size; rcases hb with rfl | rfl <;> omega) J Jx hJ hY h0)
    (fun h k => h.trans k) (keepA_b Y0.size) (Below.refl _ _) (fun _ => rfl)
    (LoopT w) (LeftT w) (loopT_from w _ Y0.size) (fun cd => leftT_from w _ Y0.size cd)
    ⟨by simp, d1, d2, d3, d4, Y0⟩
    (AxA A ns.length c root w.heap.size) (fun x a' => axA_from _ _ _ _ _ _ _ _) ?assign ?body ?done ?stop
  case assign =>
    rintro l pre ⟨a, e⟩ W K ⟨he0, k1, k2, k3, k4, hB⟩ hK
    dsimp only [encA]
    have h6 := heap_alloc_new W (.cells (acC ac0).toArray 24)
    have hone := hid (one_ac a)
    gi_wp2_with (first
      | (refine wpListIn_store_row rfl 24 (.tmp 6) (.tmp 11) rfl W.heap.size (acC a).toArray rfl rfl 24 (acC ac0).toArray ?_ ?_ ?_ ?_ ?_; exact h6; exact sizeAc; rfl; exact hone.out; intro w6 g6 hg6 hs6))
    have hb6 : Below W.heap.size W w6 := xnewP rfl hg6
    refine hK _ _ ⟨hb6.size, fun k o _ hk _ => (hb6.block _ (Array.getElem?_eq_some_iff.1 hk).1).trans hk⟩ (KeepA.bel hb6 hB.size) ⟨he0, boxed_bel k1 hb6 k1.lt, boxed_bel k2 hb6 k2.lt, boxed_bel k3 hb6 k3.lt, boxed_bel k4 hb6 k4.lt, hB.trans (hb6.mono hB.size)⟩ ⟨W.heap.size, k4.lt, g6, rfl⟩
  case body =>
    rintro l pre ⟨a, e⟩ a' W hl ⟨r0, hr0⟩ ⟨he0, k1, k2, k3, k4, hB⟩ ⟨b6, hb6, h6, rfl⟩ hlt
    have v1 := k1.cell
    have v2 := k2.cell
    have v3 := k3.cell
    have v4 := k4.cell
    have f1 := k1.frozen
    have f2 := k2.frozen
    have f3 := k3.frozen
    have q6 := block_cell h6 1
    replace q6 : W.cell? ⟨b6, 1, none⟩ = some (.int .u64 (a.b : Int)) := q6
    unfold tmpsA
    simp only
    by_cases hz : e = 0
    · subst hz
      gi_wp2
      have hS := sumA_snoc pre (a, 0)
      refine ⟨trivial, CallsIn.inRound l (callsIn_wide.2 ((AcAdd_is (w.heap.size + 1) (w.heap.size + 1 + 1) (sumA pre) a.b (tLo pre) (tHi pre) (tLo (pre ++ [(a, 0)])) (tHi (pre ++ [(a, 0)])) W rfl rfl (by unfold tLo; rw [hS]) (by unfold tHi; rw [hS]) (by omega) k2 k1).mono ?_))⟩
      rintro e w7 ⟨⟨v, rfl⟩, rfl⟩
      gi_wp2
      have Z1 := (k2.set (.int .u64 (tLo (pre ++ [(a, 0)])))).other (B' := w.heap.size + 1) (by omega) (.int .u64 (tHi (pre ++ [(a, 0)])))
      have Z2 := (k1.other (B' := w.heap.size + 1 + 1) (by omega) (.int .u64 (tLo (pre ++ [(a, 0)])))).set (.int .u64 (tHi (pre ++ [(a, 0)])))
      have Z3 := (k3.other (B' := w.heap.size + 1 + 1) (by omega) (.int .u64 (tLo (pre ++ [(a, 0)])))).other (B' := w.heap.size + 1) (by omega) (.int .u64 (tHi (pre ++ [(a, 0)])))
      have Z4 := (k4.other (B' := w.heap.size + 1 + 1) (by omega) (.int .u64 (tLo (pre ++ [(a, 0)])))).other (B' := w.heap.size + 1) (by omega) (.int .u64 (tHi (pre ++ [(a, 0)])))
      have Z5 : Below w.heap.size w ((W.setCell ⟨w.heap.size + 1 + 1, 0, none⟩ (.int .u64 (tLo (pre ++ [(a, 0)])))).setCell ⟨w.heap.size + 1, 0, none⟩ (.int .u64 (tHi (pre ++ [(a, 0)])))) := (hB.setCell (p := ⟨w.heap.size + 1 + 1, 0, none⟩) (by show _ ≤ w.heap.size + 1 + 1; omega) _).setCell (p := ⟨w.heap.size + 1, 0, none⟩) (by show _ ≤ w.heap.size + 1; omega) _
      have Z6 : Below w.heap.size W ((W.setCell ⟨w.heap.size + 1 + 1, 0, none⟩ (.int .u64 (tLo (pre ++ [(a, 0)])))).setCell ⟨w.heap.size + 1, 0, none⟩ (.int .u64 (tHi (pre ++ [(a, 0)])))) := ((Below.refl _ W).setCell (p := ⟨w.heap.size + 1 + 1, 0, none⟩) (by show _ ≤ w.heap.size + 1 + 1; omega) _).setCell (p := ⟨w.heap.size + 1, 0, none⟩) (by show _ ≤ w.heap.size + 1; omega) _
      refine ⟨((KeepsOthers.setCell _ _ _).trans (KeepsOthers.setCell _ _ _)).from _, ⟨Z6, fun b cs t fr hb hz => ?_⟩, ?_, Z2, Z1, Z3, Z4, Z5⟩
      · exact (Below.heap_setCell _ _ _ _ (fun e => hz (.inl e))).trans (Below.heap_setCell _ _ _ _ (fun e => hz (.inr e)))
      · intro z hz
        rcases List.mem_append.1 hz with hz | hz
        · exact he0 z hz
        · rw [List.mem_singleton.1 hz]
    · have hzb : (e != 0) = true := by rw [bne_iff_ne]; exact hz
      replace hz := hid hz
      gi_wp2
      exact ⟨(((KeepsOthers.setCell _ _ _).trans (KeepsOthers.setCell _ _ _)).trans (KeepsOthers.setCell _ _ _)).from _, rfl, pre, _, rfl, hz.out,
        ((k1.set _).other (by omega) _).other (by omega) _, ((k2.other (by omega) _).set _).other (by omega) _, ((k3.other (by omega) _).other (by omega) _).set _,
        ((hB.setCell (p := ⟨w.heap.size + 1, 0, none⟩) (by show _ ≤ w.heap.size + 1; omega) _).setCell (p := ⟨w.heap.size + 1 + 1, 0, none⟩) (by show _ ≤ w.heap.size + 1 + 1; omega) _).setCell (p := ⟨w.heap.size + 1 + 1 + 1, 0, none⟩) (by show _ ≤ w.heap.size + 1 + 1 + 1; omega) _⟩
  case done =>
    rintro D xs W hD hS ⟨he0, k1, k2, k3, k4, hB⟩ hK
    have hm : mayA ⟨ns, root⟩ = true := (seqA_may _).2 (by rw [← hS]; exact he0)
    obtain ⟨e1, e2, e3⟩ := hY1.out hm
    rw [← hS] at e1 e2
    rw [← e1] at k1
    rw [← e2] at k2
    subst e3
    have v1 := k1.cell
    have v2 := k2.cell
    have v3 := k3.cell
    have f1 := k1.frozen
    have f2 := k2.frozen
    have f3 := k3.frozen
    clear hS he0 e1 e2 k4
    gi_wp2
    gi_region
    all_goals gi_wp2
    have X1 := ((k1.set (.int .u64 r1)).other (B' := w.heap.size + 1 + 1) (by omega) (.int .u64 r2)).other (B' := w.heap.size + 1 + 1 + 1) (by omega) (.int .i64 0)
    have X2 := ((k2.other (B' := w.heap.size + 1) (by omega) (.int .u64 r1)).set (.int .u64 r2)).other (B' := w.heap.size + 1 + 1 + 1) (by omega) (.int .i64 0)
    have X3 := ((k3.other (B' := w.heap.size + 1) (by omega) (.int .u64 r1)).other (B' := w.heap.size + 1 + 1) (by omega) (.int .u64 r2)).set (.int .i64 0)
    have X4 : Below w.heap.size w (((W.setCell ⟨w.heap.size + 1, 0, none⟩ (.int .u64 r1)).setCell ⟨w.heap.size + 1 + 1, 0, none⟩ (.int .u64 r2)).setCell ⟨w.heap.size + 1 + 1 + 1, 0, none⟩ (.int .i64 0)).drew := (((hB.setCell (p := ⟨w.heap.size + 1, 0, none⟩) (by show _ ≤ w.heap.size + 1; omega) _).setCell (p := ⟨w.heap.size + 1 + 1, 0, none⟩) (by show _ ≤ w.heap.size + 1 + 1; omega) _).setCell (p := ⟨w.heap.size + 1 + 1 + 1, 0, none⟩) (by show _ ≤ w.heap.size + 1 + 1 + 1; omega) _).drew
    have X6 : (((W.setCell ⟨w.heap.size + 1, 0, none⟩ (.int .u64 r1)).setCell ⟨w.heap.size + 1 + 1, 0, none⟩ (.int .u64 r2)).setCell ⟨w.heap.size + 1 + 1 + 1, 0, none⟩ (.int .i64 0)).drew.heap[D]? = some (.deferred (some [])) :=
      (Below.heap_setCell _ _ _ _ (by show D ≠ w.heap.size + 1 + 1 + 1; omega)).trans ((Below.heap_setCell _ _ _ _ (by show D ≠ w.heap.size + 1 + 1; omega)).trans ((Below.heap_setCell _ _ _ _ (by show D ≠ w.heap.size + 1; omega)).trans hK))
    generalize ((W.setCell ⟨w.heap.size + 1, 0, none⟩ (.int .u64 r1)).setCell ⟨w.heap.size + 1 + 1, 0, none⟩ (.int .u64 r2)).setCell ⟨w.heap.size + 1 + 1 + 1, 0, none⟩ (.int .i64 0) = X at *
    replace X1 : Boxed X.drew _ _ _ := X1
    replace X2 : Boxed X.drew _ _ _ := X2
    replace X3 : Boxed X.drew _ _ _ := X3
    generalize X.drew = Y at *
    have hD2 := fun (r : Nat) (e : some D = some r) => (⟨_, by cases e; exact X6, rfl⟩ : ∃ o : Obj, Y.heap[r]? = some o ∧ o.isCells = false)
    refine ⟨by simp, .inl ⟨_, _, rfl, run_takeDeferred X6, ?_⟩⟩
    exact ⟨_, results_cells3 rfl _ _ _ _ _ _ _ _ _ rfl rfl rfl (loadVar_boxed Tryd.isAgg22 (X1.kept (grownBy_putObj' Y D _) (apart_cells X1 hD2))) (loadVar_boxed Tryd.isAgg22 (X2.kept (grownBy_putObj' Y D _) (apart_cells X2 hD2))) (loadVar_boxed Tryd.isAgg25 (X3.kept (grownBy_putObj' Y D _) (apart_cells X3 hD2))), rfl, X4.trans (belowK_b (w := w) (Nat.le_refl _) Y D _ _ (by omega) X6 rfl rfl)⟩
  case stop =>
    rintro D cd pre W hD ⟨r, hS⟩ ⟨rfl, q, x, rfl, hx, k1, k2, k3, hB⟩ hK
    obtain ⟨hm, hx8⟩ := seqA_pre hS hx
    obtain ⟨rfl, rfl, rfl⟩ := hN1.out hm
    rw [hx8] at k3
    have hD2 := fun (r : Nat) (e : some D = some r) => (⟨_, by cases e; exact hK, rfl⟩ : ∃ o : Obj, W.heap[r]? = some o ∧ o.isCells = false)
    gi_wp2
    refine ⟨by simp, .inl ⟨_, _, rfl, run_takeDeferred hK, ?_⟩⟩
    exact ⟨_, results_cells3 rfl _ _ _ _ _ _ _ _ _ rfl rfl rfl (loadVar_boxed Tryd.isAgg22 (k1.kept (grownBy_putObj' W D _) (apart_cells k1 hD2))) (loadVar_boxed Tryd.isAgg22 (k2.kept (grownBy_putObj' W D _) (apart_cells k2 hD2))) (loadVar_boxed Tryd.isAgg25 (k3.kept (grownBy_putObj' W D _) (apart_cells k3 hD2))), rfl, hB.trans (belowK_b (w := w) (Nat.le_refl _) W D _ _ (by omega) hK rfl rfl)⟩
end Go.Proofs.YtcifncmfjlbhjaaDoor
