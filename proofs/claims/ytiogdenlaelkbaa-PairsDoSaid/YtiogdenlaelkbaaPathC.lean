/-
  Contracts of the landed package path: parting.
-/
import Derived.Test.YtiogdenlaelkbaaPathB
namespace Go.Proofs.Ytiogdenlaelkbaa
open Go.RowKit Go.Shelf
set_option linter.unusedVariables false
set_option linter.unusedSimpArgs false
attribute [local go_sem] Oper.semAt_some

def Loop4 (w : World) (pre : List (Nat × Nat)) (W : World) : Prop :=
  (∀ x ∈ pre, x.1 = x.2) ∧ Boxed W (w.heap.size + 1 + 1) 3 (.int .i64 (pre.length : Int)) ∧ Boxed W (w.heap.size + 1 + 1 + 1) 4 (.bool false) ∧ Below w.heap.size w W
def Left4 (w : World) (cd : Code) (pre : List (Nat × Nat)) (W : World) : Prop :=
  cd = .exit 0 ∧ ∃ q x, pre = q ++ [x] ∧ (∀ y ∈ q, y.1 = y.2) ∧ x.1 ≠ x.2 ∧ Boxed W (w.heap.size + 1 + 1) 3 (.int .i64 (q.length : Int)) ∧ Boxed W (w.heap.size + 1 + 1 + 1) 4 (.bool (decide (x.1 < x.2))) ∧ Below w.heap.size w W
theorem loop4_from (w : World) (B : Nat) (hB : w.heap.size ≤ B) : OwnFrom B (Loop4 w) := by
  rintro pre X Y row ⟨h1, h2, h3, h4⟩ hg hr
  have hr2 := fun r e => (hr r e).2
  exact ⟨h1, h2.kept hg (apart_cells h2 hr2), h3.kept hg (apart_cells h3 hr2), h4.grown hg h4.size (fun k e => Nat.le_trans hB (hr k e).1)⟩
theorem left4_from (w : World) (B : Nat) (hB : w.heap.size ≤ B) (cd : Code) : OwnFrom B (Left4 w cd) := by
  rintro pre X Y row ⟨h1, q, x, h2, h3, h4, h5, h6, h7⟩ hg hr
  have hr2 := fun r e => (hr r e).2
  exact ⟨h1, q, x, h2, h3, h4, h5.kept hg (apart_cells h5 hr2), h6.kept hg (apart_cells h6 hr2), h7.grown hg h7.size (fun k e => Nat.le_trans hB (hr k e).1)⟩
theorem res4 {W : World} {s : Nat} {v e : Value} {tmps : Array Value} (h1 : Boxed W (s + 1 + 1) 3 v) (h2 : Boxed W (s + 1 + 1 + 1) 4 e)
    (e1 : tmps.getD 4 undef = .pointer (some ⟨s + 1 + 1, 0, none⟩)) (e2 : tmps.getD 5 undef = .pointer (some ⟨s + 1 + 1 + 1, 0, none⟩)) : (results Try.f39 tmps).run Try.prog W = .ok (.tuple #[v, e]) W :=
  results_cells2 rfl tmps _ W _ _ _ _ e1 e2 (loadVar_boxed Try.isAgg3 h1) (loadVar_boxed Try.isAgg4 h2)

theorem twos_all {l m : List UInt8} {j : Nat} (h : ∀ x ∈ twos l m j, x.1 = x.2) : ∀ i, i < j → kb l i = kb m i := fun i hi => h (two l m i) (List.mem_map.2 ⟨i, List.mem_range.2 hi, rfl⟩)
theorem twos_last {l m : List UInt8} {j : Nat} {q : List (Nat × Nat)} {x : Nat × Nat} (h : q ++ [x] = twos l m j) : 1 ≤ j ∧ q = twos l m (j - 1) ∧ x = two l m (j - 1) := by
  have hl := congrArg List.length h
  rw [twos_length] at hl
  simp at hl
  obtain ⟨k, rfl⟩ : ∃ k, j = k + 1 := ⟨j - 1, by omega⟩
  rw [twos_succ] at h
  obtain ⟨h1, h2⟩ := List.append_inj' h rfl
  exact ⟨by omega, h1, by simpa using h2⟩

set_option maxRecDepth 100000 in
set_option maxHeartbeats 2000000 in
theorem parting_any (l m : List UInt8) (w : World) (hl : l.length = 32) (hm : m.length = 32) :
    Calls Try.prog 39 #[.agg (l.map bv).toArray, .agg (m.map bv).toArray] w fun r w' => r = .returned (.tuple #[.int .i64 (shared l m : Int), .bool (ahead l m)]) ∧ Below w.heap.size w w' := by
  obtain ⟨ds, hds⟩ : ∃ ds, ds = (l.map bv).toArray := ⟨_, rfl⟩
  have hsz : ds.size = 32 := by rw [hds]; simp [hl]
  obtain ⟨es, hes⟩ : ∃ es, es = (m.map bv).toArray := ⟨_, rfl⟩
  have hsy : es.size = 32 := by rw [hes]; simp [hm]
  rw [← hds, ← hes]
  replace hds := hid hds
  replace hes := hid hes
  have hd1 := heap_alloc_new w (.cells ds 24)
  have hd2 := heap_alloc_new (w.alloc (.cells ds 24)) (.cells es 24)
  rw [World.size_alloc] at hd2
  have up : ∀ {W : World} {k : Nat} {o o' : Obj}, W.heap[k]? = some o → (W.alloc o').heap[k]? = some o := fun h => (Below.heap_alloc _ _ _ (block_lt h)).trans h
  have hd3 := hid (up (o' := .cells #[.bool false] 4) (up (o' := .cells #[.int .i64 0] 3) (up (o' := .cells es 24) hd1)))
  have hd4 := hid (up (o' := .cells #[.bool false] 4) (up (o' := .cells #[.int .i64 0] 3) hd2))
  clear hd1 hd2 up
  obtain ⟨sv, hsv⟩ : ∃ v : Int, (shared l m : Int) = v := ⟨_, rfl⟩
  obtain ⟨ab, hab⟩ : ∃ b, ahead l m = b := ⟨_, rfl⟩
  rw [hsv, hab]
  replace hsv := hid hsv
  replace hab := hid hab
  refine (callsIn_wide (n := 4)).1 ?_
  refine callsIn_of_wp_marks Try.func39 rfl trivial ?_ rfl
  simp only [Try.ntmps39, List.size_toArray, List.length_cons, List.length_nil, Nat.reduceAdd, Nat.reduceSub, Array.replicate_succ, Array.replicate_zero, List.push_toArray, List.append_toArray, List.nil_append, List.cons_append]
  gi_wp2
  refine wpIn_wide.2 (wp_scope_straight ((wpIn_wide (n := 4)).1 ?_))
  gi_wp2
  refine wpIn_label ?_
  gi_wp2_with (first
    | ((with_reducible refine wpListIn_load_row rfl 24 (.tmp 2) rfl w.heap.size rfl 24 ds (0, 0) _ ?_ Try.underlying24 rfl ?_ ?_); exact hd3.out; (rw [hsz]; exact size32))
    | ((with_reducible refine wpListIn_load_row rfl 24 (.tmp 3) rfl (w.heap.size + 1) rfl 24 es (0, 0) _ ?_ Try.underlying24 rfl ?_ ?_); exact hd4.out; (rw [hsy]; exact size32))
    | (refine ⟨trivial, ?_⟩; gi_at_call 43; refine (callsIn_wide.2 (inStep_any _ _ _)).mono ?_; rintro e w' ⟨rfl, rfl⟩))
  have bN := (((Boxed.new ((w.alloc (.cells ds 24)).alloc (.cells es 24)) 3 (.int .i64 0)).alloc (.cells #[.bool false] 4)).alloc (.cells ds 24)).alloc (.cells es 24)
  have bA := ((Boxed.new (((w.alloc (.cells ds 24)).alloc (.cells es 24)).alloc (.cells #[.int .i64 0] 3)) 4 (.bool false)).alloc (.cells ds 24)).alloc (.cells es 24)
  have bP := heap_alloc_new ((((w.alloc (.cells ds 24)).alloc (.cells es 24)).alloc (.cells #[.int .i64 0] 3)).alloc (.cells #[.bool false] 4)) (.cells ds 24)
  replace bP := (Below.heap_alloc _ (.cells es 24) _ (block_lt bP)).trans bP
  have bQ := heap_alloc_new (((((w.alloc (.cells ds 24)).alloc (.cells es 24)).alloc (.cells #[.int .i64 0] 3)).alloc (.cells #[.bool false] 4)).alloc (.cells ds 24)) (.cells es 24)
  have hB0 : Below w.heap.size w ((((((w.alloc (.cells ds 24)).alloc (.cells es 24)).alloc (.cells #[.int .i64 0] 3)).alloc (.cells #[.bool false] 4)).alloc (.cells ds 24)).alloc (.cells es 24)) := by (repeat (first | exact Below.refl _ _ | assumption | refine ext_trans ?_ (by assumption) | refine ext_trans ?_ (ext_alloc _ _)))
  have hs0 : ((((((w.alloc (.cells ds 24)).alloc (.cells es 24)).alloc (.cells #[.int .i64 0] 3)).alloc (.cells #[.bool false] 4)).alloc (.cells ds 24)).alloc (.cells es 24)).heap.size = w.heap.size + 6 := by simp
  simp only [World.size_alloc] at bN bA bP bQ
  clear hd3 hd4
  generalize ((((((w.alloc (.cells ds 24)).alloc (.cells es 24)).alloc (.cells #[.int .i64 0] 3)).alloc (.cells #[.bool false] 4)).alloc (.cells ds 24)).alloc (.cells es 24)) = W0 at *
  refine wpIn_rangeFunc_ownG (F := Fence.wide) rfl (by omega) (gf := 44) (lb := #[.pointer (some ⟨w.heap.size + 1 + 1 + 1 + 1, 0, none⟩), .pointer (some ⟨w.heap.size + 1 + 1 + 1 + 1 + 1, 0, none⟩)]) rfl trivial (enters_of Try.func44 (by kernel_rfl) rfl)
    (encs := Two.encs) (Kp := Keep2 w.heap.size (w.heap.size + 1 + 1 + 1 + 1) (w.heap.size + 1 + 1 + 1 + 1 + 1)) (S := fun xs => xs = twos l m 256) (Sp := fun pre => ∃ j, j ≤ 256 ∧ pre = twos l m j) (N := 256) (w0 := W0)
    (fun lp J Jx W hW hJ hJx hY h0 => inStep1_in 3 (by omega) (w.heap.size + 1 + 1 + 1 + 1) (w.heap.size + 1 + 1 + 1 + 1 + 1) w.heap.size lp l m hl hm W (by have := hW.size; omega)
      ((hW.block _ (by rw [hs0]; omega)).trans (by rw [← hds.out]; exact bP)) ((hW.block _ (by rw [hs0]; omega)).trans (by rw [← hes.out]; exact bQ)) J Jx hJ hY h0)
    (fun h k => h.trans k) (fun W lp ob ob' hlp h1 h2 h3 => ⟨belowK_b (w := W0) (by omega) W lp ob ob' hlp h1 h2 h3, World.putObj_heap_other (by omega), World.putObj_heap_other (by omega)⟩) (Below.refl _ _) (fun _ => rfl)
    (Loop4 w) (Left4 w) (by rw [hs0]; exact loop4_from w _ (by omega)) (fun cd => by rw [hs0]; exact left4_from w _ (by omega) cd)
    ⟨by simp, bN, bA, hB0⟩
    (fun x => { tmps := #[.agg ds, .agg es, .pointer (some ⟨w.heap.size, 0, none⟩), .pointer (some ⟨w.heap.size + 1, 0, none⟩), .pointer (some ⟨w.heap.size + 1 + 1, 0, none⟩), .pointer (some ⟨w.heap.size + 1 + 1 + 1, 0, none⟩), .int .u8 (x.1 : Int), .int .u8 (x.2 : Int), .agg ds, .agg es, .func (.func 44) #[] #[.pointer (some ⟨w.heap.size + 1 + 1 + 1 + 1, 0, none⟩), .pointer (some ⟨w.heap.size + 1 + 1 + 1 + 1 + 1, 0, none⟩)], .int .u8 (x.1 : Int), .int .u8 (x.2 : Int), undef, undef, undef, undef, undef, undef, undef, undef, undef, undef, undef, undef], defers := [] }) ?assign ?body ?done ?stop
  case assign =>
    rintro lp ⟨x, y⟩ W K hK
    dsimp only [Two.encs]
    gi_wp2
    exact hK
  case body =>
    rintro lp pre ⟨x, y⟩ W ⟨he, hN, hA, hB⟩ hlt
    have hcN := hN.cell
    have hfN := hN.frozen
    have hcA := hA.cell
    have hfA := hA.frozen
    have wp1 : IntKind.i64.wrap ((pre.length : Int) + 1) = ((pre.length + 1 : Nat) : Int) := by rw [IntWalk.i64_in _ (by omega)]; simp
    simp only
    rcases Nat.lt_trichotomy x y with h | h | h
    · have h1 : (x : Int) < (y : Int) := by omega
      gi_wp2
      exact ⟨(KeepsOthers.setCell _ _ _).from _, rfl, pre, (x, y), rfl, he, by simp only; omega, hN.other (by omega) _, by rw [show decide ((x, y).1 < (x, y).2) = true from decide_eq_true h]; exact hA.set _, hB.setCell (p := ⟨w.heap.size + 1 + 1 + 1, 0, none⟩) (by show _ ≤ w.heap.size + 1 + 1 + 1; omega) _⟩
    · subst h
      gi_wp2
      refine ⟨(KeepsOthers.setCell _ _ _).from _, ⟨(Below.refl _ W).setCell (p := ⟨w.heap.size + 1 + 1, 0, none⟩) (by show _ ≤ w.heap.size + 1 + 1; omega) _, Below.heap_setCell _ _ _ _ (by show _ ≠ w.heap.size + 1 + 1; omega), Below.heap_setCell _ _ _ _ (by show _ ≠ w.heap.size + 1 + 1; omega)⟩, ?_, ?_, hA.other (by omega) _, hB.setCell (p := ⟨w.heap.size + 1 + 1, 0, none⟩) (by show _ ≤ w.heap.size + 1 + 1; omega) _⟩
      · intro z hz
        rcases List.mem_append.1 hz with hz | hz
        · exact he z hz
        · rw [List.mem_singleton.1 hz]
      · rw [List.length_append, List.length_singleton, Int.natCast_add]
        exact hN.set _
    · have h1 : ¬ (x : Int) < (y : Int) := by omega
      have h2 : (y : Int) < (x : Int) := by omega
      gi_wp2
      exact ⟨KeepsFrom.refl _ _, rfl, pre, (x, y), rfl, he, by simp only; omega, hN, by rw [show decide ((x, y).1 < (x, y).2) = false from decide_eq_false (by simp only; omega)]; exact hA, hB⟩
  case done =>
    rintro D ys W hD rfl ⟨he, hN, hA, hB⟩ hK
    have hlm : l = m := key_ext hl hm (twos_all he)
    have hsh : shared l m = 256 := (shared_all hl hm).2 hlm
    have hah : ahead l m = false := by rw [hlm]; exact ahead_self m
    rw [twos_length] at hN
    have E1 : sv = (256 : Nat) := by rw [← hsv.out, hsh]
    have E2 : ab = false := by rw [← hab.out, hah]
    clear hlm hsh hah he hsv hab
    rw [← E1] at hN
    rw [← E2] at hA
    clear E1 E2
    have hcN := hN.cell
    have hfN := hN.frozen
    have hcA := hA.cell
    have hfA := hA.frozen
    gi_wp2
    gi_region
    all_goals gi_wp2
    have X1 := (hN.set (.int .i64 sv)).other (B' := w.heap.size + 1 + 1 + 1) (by omega) (.bool ab)
    have X2 := (hA.other (B' := w.heap.size + 1 + 1) (by omega) (.int .i64 sv)).set (.bool ab)
    have X4 : Below w.heap.size w ((W.setCell ⟨w.heap.size + 1 + 1, 0, none⟩ (.int .i64 sv)).setCell ⟨w.heap.size + 1 + 1 + 1, 0, none⟩ (.bool ab)).drew := ((hB.setCell (p := ⟨w.heap.size + 1 + 1, 0, none⟩) (by show _ ≤ w.heap.size + 1 + 1; omega) _).setCell (p := ⟨w.heap.size + 1 + 1 + 1, 0, none⟩) (by show _ ≤ w.heap.size + 1 + 1 + 1; omega) _).drew
    have X6 : ((W.setCell ⟨w.heap.size + 1 + 1, 0, none⟩ (.int .i64 sv)).setCell ⟨w.heap.size + 1 + 1 + 1, 0, none⟩ (.bool ab)).drew.heap[D]? = some (.deferred (some [])) := (Below.heap_setCell _ _ _ _ (by show D ≠ w.heap.size + 1 + 1 + 1; omega)).trans ((Below.heap_setCell _ _ _ _ (by show D ≠ w.heap.size + 1 + 1; omega)).trans hK)
    generalize ((W.setCell ⟨w.heap.size + 1 + 1, 0, none⟩ (.int .i64 sv)).setCell ⟨w.heap.size + 1 + 1 + 1, 0, none⟩ (.bool ab)) = X at *
    replace X1 : Boxed X.drew _ _ _ := X1
    replace X2 : Boxed X.drew _ _ _ := X2
    generalize X.drew = Y at *
    have hD2 := fun (r : Nat) (e : some D = some r) => (⟨_, by cases e; exact X6, rfl⟩ : ∃ o : Obj, Y.heap[r]? = some o ∧ o.isCells = false)
    dsimp only [Exit.noGoto]
    refine ⟨by simp, .inl ⟨_, _, rfl, run_takeDeferred X6, ?_⟩⟩
    exact ⟨_, res4 (X1.kept (grownBy_putObj' Y D _) (apart_cells X1 hD2)) (X2.kept (grownBy_putObj' Y D _) (apart_cells X2 hD2)) rfl rfl, rfl, X4.trans (belowK_b (w := w) (Nat.le_refl _) Y D _ _ (by omega) X6 rfl rfl)⟩
  case stop =>
    rintro D cd pre W hD ⟨j, hj, rfl⟩ ⟨rfl, q, x, hq, he, hne, hN, hA, hB⟩ hK
    obtain ⟨hj1, rfl, rfl⟩ := twos_last hq.symm
    rw [twos_length] at hN
    have hsh : shared l m = j - 1 := shared_unique (by omega) (twos_all he) (fun _ => hne)
    have hah : ahead l m = decide (kb l (j - 1) < kb m (j - 1)) := by
      unfold ahead
      rw [hsh]
      exact decide_eq_decide.2 ⟨fun h => h.2, fun h => ⟨by omega, h⟩⟩
    have E1 : sv = ((j - 1 : Nat) : Int) := by rw [← hsv.out, hsh]
    have E2 : ab = decide (kb l (j - 1) < kb m (j - 1)) := by rw [← hab.out, hah]
    clear hsh hah he hne hq hsv hab
    rw [← E1] at hN
    replace hA : Boxed W (w.heap.size + 1 + 1 + 1) 4 (.bool ab) := by rw [E2]; exact hA
    clear E1 E2
    have hcN := hN.cell
    have hfN := hN.frozen
    have hcA := hA.cell
    have hfA := hA.frozen
    gi_wp2
    gi_region
    all_goals gi_wp2
    have X1 := (hN.set (.int .i64 sv)).other (B' := w.heap.size + 1 + 1 + 1) (by omega) (.bool ab)
    have X2 := (hA.other (B' := w.heap.size + 1 + 1) (by omega) (.int .i64 sv)).set (.bool ab)
    have X4 : Below w.heap.size w ((W.setCell ⟨w.heap.size + 1 + 1, 0, none⟩ (.int .i64 sv)).setCell ⟨w.heap.size + 1 + 1 + 1, 0, none⟩ (.bool ab)).drew := ((hB.setCell (p := ⟨w.heap.size + 1 + 1, 0, none⟩) (by show _ ≤ w.heap.size + 1 + 1; omega) _).setCell (p := ⟨w.heap.size + 1 + 1 + 1, 0, none⟩) (by show _ ≤ w.heap.size + 1 + 1 + 1; omega) _).drew
    have X6 : ((W.setCell ⟨w.heap.size + 1 + 1, 0, none⟩ (.int .i64 sv)).setCell ⟨w.heap.size + 1 + 1 + 1, 0, none⟩ (.bool ab)).drew.heap[D]? = some (.deferred (some [])) := (Below.heap_setCell _ _ _ _ (by show D ≠ w.heap.size + 1 + 1 + 1; omega)).trans ((Below.heap_setCell _ _ _ _ (by show D ≠ w.heap.size + 1 + 1; omega)).trans hK)
    generalize ((W.setCell ⟨w.heap.size + 1 + 1, 0, none⟩ (.int .i64 sv)).setCell ⟨w.heap.size + 1 + 1 + 1, 0, none⟩ (.bool ab)) = X at *
    replace X1 : Boxed X.drew _ _ _ := X1
    replace X2 : Boxed X.drew _ _ _ := X2
    generalize X.drew = Y at *
    have hD2 := fun (r : Nat) (e : some D = some r) => (⟨_, by cases e; exact X6, rfl⟩ : ∃ o : Obj, Y.heap[r]? = some o ∧ o.isCells = false)
    dsimp only [Exit.noGoto]
    refine ⟨by simp, .inl ⟨_, _, rfl, run_takeDeferred X6, ?_⟩⟩
    exact ⟨_, res4 (X1.kept (grownBy_putObj' Y D _) (apart_cells X1 hD2)) (X2.kept (grownBy_putObj' Y D _) (apart_cells X2 hD2)) rfl rfl, rfl, X4.trans (belowK_b (w := w) (Nat.le_refl _) Y D _ _ (by omega) X6 rfl rfl)⟩
end Go.Proofs.Ytiogdenlaelkbaa
