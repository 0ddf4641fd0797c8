/-
  Contracts of the landed package rows: forks and its closure.
-/
import Derived.Test.YtgmlmkhiflnhdaaDoorRwA
import Derived.Test.YtgmlmkhiflnhdaaDoorRwF
import Derived.Test.YtgmlmkhiflnhdaaDoorInW
namespace Go.Proofs.YtgmlmkhiflnhdaaDoor
open Go.RowKit Go.Shelf
set_option linter.unusedVariables false
set_option linter.unusedSimpArgs false
set_option maxRecDepth 100000

instance : Enc Fk where
  size := 3
  rep := fun _ _ x vs => vs = [.int .i64 (x.f : Int), .int .i64 (x.t : Int), .bool x.l]
  len := by rintro F w x vs rfl; rfl
  one := by rintro F w x vs rfl v hv; simp at hv; rcases hv with rfl | rfl | rfl <;> rfl
  kept := fun h _ => h
  mono := fun h _ => h
def zFkC : Array Value := #[.int .i64 0, .int .i64 0, .bool false]
theorem slotFk : Slot Tryd.prog Fk 47 50 (.agg zFkC) 24 where
  under := Tryd.underlying47
  info := by kernel_rfl
  zero := rfl
  pos := by decide
theorem built_fkL (a b : Int) : Tryd.prog.built 50 [(0, .int .i64 a), (1, .int .i64 b)] = some #[.int .i64 a, .int .i64 b, .bool false] := by kernel_rfl
theorem built_fkR (a b : Int) : Tryd.prog.built 50 [(0, .int .i64 a), (1, .int .i64 b), (2, .bool true)] = some #[.int .i64 a, .int .i64 b, .bool true] := by kernel_rfl
/-- The closure, by its boxes. -/
def partV (bi bp bu : Nat) : Value := .func (.func 35) #[] #[.pointer (some ⟨bi, 0, none⟩), .pointer (some ⟨bp, 0, none⟩), .pointer (some ⟨bu, 0, none⟩)]
/-- What stands while the list is parted: the place, the closure, the forks so far. -/
structure FkSt (B0 bi bp bu i : Nat) (ups : List Fk) (W : World) : Prop where
  place : Boxed W bi 3 (.int .i64 (i : Int))
  fn : Boxed W bp 60 (partV bi bp bu)
  up : ∃ A c, Boxed W bu 47 (.slice A ups.length c) ∧ OwnR 50 W B0 A c ups
  size : B0 ≤ W.heap.size
theorem FkSt.bel {B0 bi bp bu i : Nat} {ups : List Fk} {W W' : World} (h : FkSt B0 bi bp bu i ups W) (hb : Below W.heap.size W W') : FkSt B0 bi bp bu i ups W' := by
  obtain ⟨h1, h2, ⟨A, c, h3, h4⟩, h5⟩ := h
  exact ⟨boxed_bel h1 hb h1.lt, boxed_bel h2 hb h2.lt, ⟨A, c, boxed_bel h3 hb h3.lt, h4.bel hb⟩, Nat.le_trans h5 hb.size⟩
/-- A fork put behind. -/
theorem FkSt.put {B0 bi bp bu i n₀ : Nat} {ups : List Fk} {x : Fk} {W W5 W6 : World} {A A6 : Option Addr} {c c6 : Nat} (h : FkSt B0 bi bp bu i ups W) (hi : bi < B0) (hp : bp < B0) (hu : bu < B0) (hip : bi ≠ bu) (hpu : bp ≠ bu) (hn : n₀ ≤ bu) (hn0 : n₀ ≤ W.heap.size) (hB : n₀ ≤ B0)
    (hup : Boxed W bu 47 (.slice A ups.length c)) (h5 : Below W.heap.size W W5) (ho : OwnR 50 W6 B0 A6 c6 (ups ++ [x])) (h6 : Below B0 W5 W6) :
    FkSt B0 bi bp bu i (ups ++ [x]) (W6.setCell ⟨bu, 0, none⟩ (.slice A6 (ups ++ [x]).length c6)) ∧ Below n₀ W (W6.setCell ⟨bu, 0, none⟩ (.slice A6 (ups ++ [x]).length c6)) := by
  have k1 := boxed_bel (boxed_bel h.place h5 h.place.lt) h6 hi
  have k2 := boxed_bel (boxed_bel h.fn h5 h.fn.lt) h6 hp
  have k3 := boxed_bel (boxed_bel hup h5 hup.lt) h6 hu
  refine ⟨⟨k1.other hip _, k2.other hpu _, ⟨A6, c6, k3.set _, ho.setG hu hu _⟩, ?_⟩, ?_⟩
  · exact Nat.le_trans h.size (Nat.le_trans h5.size (Nat.le_trans h6.size (by simp [World.setCell])))
  · exact ((h5.mono hn0).trans (h6.mono hB)).setCell (p := ⟨bu, 0, none⟩) hn _
def PartAt (n₀ B0 bi bp bu i f t : Nat) : Prop := ∀ (ups : List Fk) (W : World), FkSt B0 bi bp bu i ups W → ups.length + (t - f) ≤ 1000 →
    Calls Tryd.prog 35 #[.int .i64 (f : Int), .int .i64 (t : Int), .pointer (some ⟨bi, 0, none⟩), .pointer (some ⟨bp, 0, none⟩), .pointer (some ⟨bu, 0, none⟩)] W fun e W' => (∃ v, e = .returned v) ∧ FkSt B0 bi bp bu i (ups ++ forksP f t i) W' ∧ Below n₀ W W'
set_option maxHeartbeats 2000000 in
theorem forkPart_step (n₀ B0 bi bp bu i f t : Nat) (hi : bi < B0) (hp : bp < B0) (hu : bu < B0) (hip : bi ≠ bu) (hpu : bp ≠ bu) (hn : n₀ ≤ bu) (hB : n₀ ≤ B0) (hft : f < t) (ht : t ≤ 256)
    (ih : ∀ f' t', f' < t' → t' ≤ t → t' - f' < t - f → PartAt n₀ B0 bi bp bu i f' t') : PartAt n₀ B0 bi bp bu i f t := by
  intro ups W hst hlen
  have w1 : IntKind.i64.wrap ((t : Int) - (f : Int)) = ((t - f : Nat) : Int) := by rw [IntWalk.i64_in _ (by omega)]; omega
  by_cases h1 : t - f = 1
  · have q1 : (((t - f : Nat) : Int) == 1) = true := by rw [h1]; rfl
    rw [forksP_one (by omega), List.append_nil]
    clear ih
    go_enter Tryd.func35, Tryd.ntmps35
    go_wp2
    refine bodyPost_ret (results_none rfl _ _ _) rfl ?_
    exact ⟨⟨_, rfl⟩, hst, Below.refl _ _⟩
  · have q1 : (((t - f : Nat) : Int) == 1) = false := by rw [beq_eq_false_iff_ne]; omega
    have h2 : 2 ≤ t - f := by omega
    have f1 := firstN_pos (t - f)
    have f2 := firstN_lt h2
    have hF := hid (fun W => PRwLeft_any (t - f) W h2 (by omega))
    obtain ⟨m, hm⟩ : ∃ m, f + firstN (t - f) = m := ⟨_, rfl⟩
    have w2 : IntKind.i64.wrap ((f : Int) + (firstN (t - f) : Int)) = (m : Int) := by rw [IntWalk.i64_in _ (by omega)]; omega
    have cI := hst.place.cell
    have cP := hst.fn.cell
    unfold partV at cP
    have hsz := hst.size
    by_cases hlt : i < f + firstN (t - f)
    · have q2 : (i : Int) < (m : Int) := by omega
      have hI := ih f m (by omega) (by omega) (by omega) ups W hst (by omega)
      have hl2 : (forksP f m i).length ≤ firstN (t - f) := by have := forksP_len _ f m i (Nat.lt_succ_self _); omega
      rw [forksP_left h2 hlt, ← List.append_assoc, hm]
      have hul : (ups ++ forksP f m i).length ≤ 1000 := by rw [List.length_append]; omega
      generalize ups ++ forksP f m i = us at *
      replace hI := hid hI
      clear ih hm hl2
      go_enter Tryd.func35, Tryd.ntmps35
      go_wp2_with fail
      refine (hF.out _).mono ?_
      rintro e w1 ⟨rfl, rfl⟩
      go_wp2_with fail
      refine hI.out.mono ?_
      rintro e w2 ⟨⟨v, rfl⟩, hs2, hb2⟩
      obtain ⟨A2, c2, hup, hown⟩ := hs2.up
      have cU := hup.cell
      have hc0 := hid hb2
      have hs2' := hid hs2
      have hl2 := hid hs2.size
      clear hb2 hs2
      go_wp2_with (first
        | ((with_reducible refine wpList_built rfl 50 _ rfl _ [(0, .int .i64 (m : Int)), (1, .int .i64 (t : Int))] ?_ ?_ ?_); exact built_fkL _ _; rfl)
        | (with_reducible refine wpList_buildOne slotFk (by decide) rfl (.tmp 28) rfl [.int .i64 (m : Int), .int .i64 (t : Int), .bool false] rfl rfl ?_)
        | (at_builtin; refine wpList_appOwnG slotFk rfl (.tmp 25) (.tmp 29) rfl B0 B0 A2 _ us.length 1 c2 1 us [⟨m, t, false⟩] (fun _ => False) rfl rfl rfl rfl (hown.alloc _) (src_alloc rfl) (fun b hb => hb.elim) (by simp; omega) (by have := hl2.out; rw [World.size_alloc]; omega) ?_; intro A6 c6 w6 ho6 hB6 hG6; have hz := boxed_bel (hup.alloc _) hB6 hu; have cz := hz.cell; have fz := hz.frozen; have ho6 := hid ho6; have hB6 := hid hB6; clear hG6))
      go_end0
      have k := hs2'.out.put hi hp hu hip hpu hn (Nat.le_trans hB hl2.out) hB hup (ext_alloc _ _) ho6.out hB6.out
      rw [List.length_append, List.length_singleton] at k
      exact ⟨⟨_, rfl⟩, k.1, hc0.out.trans k.2⟩
    · have q2 : ¬ (i : Int) < (m : Int) := by omega
      have hI := ih m t (by omega) (by omega) (by omega) ups W hst (by omega)
      have hl2 : (forksP m t i).length ≤ t - m := forksP_len _ m t i (Nat.lt_succ_self _)
      rw [forksP_right h2 hlt, ← List.append_assoc, hm]
      have hul : (ups ++ forksP m t i).length ≤ 1000 := by rw [List.length_append]; omega
      generalize ups ++ forksP m t i = us at *
      replace hI := hid hI
      clear ih hm hl2
      go_enter Tryd.func35, Tryd.ntmps35
      go_wp2_with fail
      refine (hF.out _).mono ?_
      rintro e w1 ⟨rfl, rfl⟩
      go_wp2_with fail
      refine hI.out.mono ?_
      rintro e w2 ⟨⟨v, rfl⟩, hs2, hb2⟩
      obtain ⟨A2, c2, hup, hown⟩ := hs2.up
      have cU := hup.cell
      have hc0 := hid hb2
      have hs2' := hid hs2
      have hl2 := hid hs2.size
      clear hb2 hs2
      go_wp2_with (first
        | ((with_reducible refine wpList_built rfl 50 _ rfl _ [(0, .int .i64 (f : Int)), (1, .int .i64 (m : Int)), (2, .bool true)] ?_ ?_ ?_); exact built_fkR _ _; rfl)
        | (with_reducible refine wpList_buildOne slotFk (by decide) rfl (.tmp 38) rfl [.int .i64 (f : Int), .int .i64 (m : Int), .bool true] rfl rfl ?_)
        | (at_builtin; refine wpList_appOwnG slotFk rfl (.tmp 35) (.tmp 39) rfl B0 B0 A2 _ us.length 1 c2 1 us [⟨f, m, true⟩] (fun _ => False) rfl rfl rfl rfl (hown.alloc _) (src_alloc rfl) (fun b hb => hb.elim) (by simp; omega) (by have := hl2.out; rw [World.size_alloc]; omega) ?_; intro A6 c6 w6 ho6 hB6 hG6; have hz := boxed_bel (hup.alloc _) hB6 hu; have cz := hz.cell; have fz := hz.frozen; have ho6 := hid ho6; have hB6 := hid hB6; clear hG6))
      go_end0
      have k := hs2'.out.put hi hp hu hip hpu hn (Nat.le_trans hB hl2.out) hB hup (ext_alloc _ _) ho6.out hB6.out
      rw [List.length_append, List.length_singleton] at k
      exact ⟨⟨_, rfl⟩, k.1, hc0.out.trans k.2⟩
theorem forkPart_any (n₀ B0 bi bp bu i : Nat) (hi : bi < B0) (hp : bp < B0) (hu : bu < B0) (hip : bi ≠ bu) (hpu : bp ≠ bu) (hn : n₀ ≤ bu) (hB : n₀ ≤ B0) : ∀ (k f t : Nat), f < t → t ≤ 256 → t - f ≤ k → PartAt n₀ B0 bi bp bu i f t := by
  intro k
  induction k with
  | zero => intro f t h1 _ h2; omega
  | succ k ih => exact fun f t h1 h2 h3 => forkPart_step n₀ B0 bi bp bu i f t hi hp hu hip hpu hn hB h1 h2 fun f' t' g1 g2 g3 => ih f' t' g1 (by omega) (by omega)
/-- The forks about a place. -/
theorem PRwForks_any (n i : Nat) (w : World) (h : i < n) (hn : n ≤ 256) :
    Calls Tryd.prog 24 #[.int .i64 (n : Int), .int .i64 (i : Int)] w fun e w' => ∃ A c, e = .returned (.slice A (forksP 0 n i).length c) ∧ OwnR 50 w' w.heap.size A c (forksP 0 n i) ∧ Below w.heap.size w w' := by
  have hP := forkPart_any w.heap.size (w.heap.size + 1 + 1 + 1) w.heap.size (w.heap.size + 1 + 1) (w.heap.size + 1) i (by omega) (by omega) (by omega) (by omega) (by omega) (by omega) (by omega) n 0 n (by omega) hn (by omega) []
  have hlen : (forksP 0 n i).length ≤ n := by have := forksP_len _ 0 n i (Nat.lt_succ_self _); omega
  obtain ⟨W0, hW0⟩ : ∃ W0, ((w.alloc (.cells #[.int .i64 (i : Int)] 3)).alloc (.cells #[.slice none 0 0] 47)).alloc (.cells #[partV w.heap.size (w.heap.size + 1 + 1) (w.heap.size + 1)] 60) = W0 := ⟨_, rfl⟩
  have s0 : W0.heap.size = w.heap.size + 1 + 1 + 1 := by rw [← hW0]; simp
  have st0 : FkSt (w.heap.size + 1 + 1 + 1) w.heap.size (w.heap.size + 1 + 1) (w.heap.size + 1) i [] W0 := by
    rw [← hW0]
    refine ⟨((Boxed.new w _ _).alloc _).alloc _, ?_, ⟨none, 0, ?_, OwnQ.nil _ _ _⟩, by simp⟩
    · have := Boxed.new ((w.alloc (.cells #[.int .i64 (i : Int)] 3)).alloc (.cells #[.slice none 0 0] 47)) 60 (partV w.heap.size (w.heap.size + 1 + 1) (w.heap.size + 1))
      simp only [World.size_alloc] at this
      exact this
    · have := (Boxed.new (w.alloc (.cells #[.int .i64 (i : Int)] 3)) 47 (.slice none 0 0)).alloc (.cells #[partV w.heap.size (w.heap.size + 1 + 1) (w.heap.size + 1)] 60)
      simp only [World.size_alloc] at this
      exact this
  have Y0 : Below w.heap.size w W0 := by rw [← hW0]; (repeat (first | exact Below.refl _ _ | assumption | refine ext_trans ?_ (by assumption) | refine ext_trans ?_ (ext_alloc _ _)))
  have hQ := hid (hP W0 st0 (by simp; omega))
  unfold partV at hW0
  replace hW0 := hid hW0
  rw [List.nil_append] at hQ
  generalize forksP 0 n i = fs at *
  clear hP st0
  go_enter Tryd.func24, Tryd.ntmps24
  go_wp2_with fail
  rw [hW0.out]
  refine hQ.out.mono ?_
  rintro e w2 ⟨⟨v, rfl⟩, ⟨-, -, ⟨A2, c2, hup, hown⟩, -⟩, hb2⟩
  have cU := hup.cell
  have hE := hid (Y0.trans hb2)
  go_wp2
  go_ret
  exact ⟨A2, c2, rfl, hown.base (by omega), hE.out⟩
end Go.Proofs.YtgmlmkhiflnhdaaDoor
