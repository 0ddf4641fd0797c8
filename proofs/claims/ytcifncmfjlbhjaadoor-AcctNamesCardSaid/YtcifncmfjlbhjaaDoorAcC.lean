/-
  Contracts of the landed package acct: Check.
-/
import Derived.Test.YtcifncmfjlbhjaaDoorAcB
namespace Go.Proofs.YtcifncmfjlbhjaaDoor
open Go.RowKit Go.Shelf
set_option linter.unusedVariables false
set_option linter.unusedSimpArgs false
set_option maxRecDepth 100000
attribute [local go_sem] Oper.semAt_some

/-- What the loop of Check holds between two rounds. -/
def LoopK (w : World) (pre : List (Ac × Int)) (W : World) : Prop := (∀ x ∈ pre, x.2 = 0) ∧ Boxed W (w.heap.size + 1) 25 (.int .i64 0) ∧ Below w.heap.size w W
/-- What holds where a round of it has left. -/
def LeftK (w : World) (cd : Code) (pre : List (Ac × Int)) (W : World) : Prop := cd = .ret ∧ ∃ q x, pre = q ++ [x] ∧ x.2 ≠ 0 ∧ Boxed W (w.heap.size + 1) 25 (.int .i64 x.2) ∧ Below w.heap.size w W
theorem loopK_from (w : World) (B : Nat) (hB : w.heap.size ≤ B) : OwnFrom B (LoopK w) := by
  rintro pre X Y row ⟨h1, h2, h3⟩ hg hr
  have hr2 := fun r e => (hr r e).2
  exact ⟨h1, h2.kept hg (apart_cells h2 hr2), h3.grown hg h3.size (fun k e => Nat.le_trans hB (hr k e).1)⟩
theorem leftK_from (w : World) (B : Nat) (hB : w.heap.size ≤ B) (cd : Code) : OwnFrom B (LeftK w cd) := by
  rintro pre X Y row ⟨h1, q, x, h2, h3, h4, h5⟩ hg hr
  have hr2 := fun r e => (hr r e).2
  exact ⟨h1, q, x, h2, h3, h4.kept hg (apart_cells h4 hr2), h5.grown hg h5.size (fun k e => Nat.le_trans hB (hr k e).1)⟩
theorem results_cell1 {fn : Func} {p : Tmp} {t1 : TypeId} (h : fn.results = #[.cell p t1]) (tmps : Array Value) (P : Program) (w : World) (a1 : Addr) (v1 : Value)
    (e1 : tmps.getD p undef = .pointer (some a1)) (l1 : (loadVar t1 a1).run P w = .ok v1 w) : (results fn tmps).run P w = .ok v1 w := by
  simp only [results, h]
  simp only [Array.getD_eq_getD_getElem?] at e1
  simp [Sem.run_bind, Result.andThen, e1, asAddr, l1]
theorem seqA_pre {t : Tr} {q r : List (Ac × Int)} {x : Ac × Int} (h : seqA t = q ++ [x] ++ r) (hx : x.2 ≠ 0) : mayA t = false ∧ x.2 = 8 := by
  have hm : x ∈ seqA t := by rw [h]; simp
  refine ⟨?_, ?_⟩
  · cases hq : mayA t with
    | false => rfl
    | true => exact absurd ((seqA_may t).1 hq x hm) hx
  · rcases seqA_fst t x hm with h | h
    · exact absurd h hx
    · exact h
set_option maxHeartbeats 4000000 in
theorem PAcCheck_any (F : Nat → Prop) (A : Option Addr) (c : Nat) (ns : List Nd) (root : Int) (w : World) (hr : Row F w A ns) (hc : ns.length ≤ 1000000) :
    Calls Tryd.prog 20 #[.agg #[.slice A ns.length c, .int .i64 root]] w fun e w' => e = .returned (.int .i64 (if mayA ⟨ns, root⟩ = true then 0 else 8)) ∧ Below w.heap.size w w' := by
  have hut := Tryd.underlying31
  obtain ⟨ans, hans⟩ : ∃ a : Int, (if mayA ⟨ns, root⟩ = true then (0 : Int) else 8) = a := ⟨_, rfl⟩
  rw [hans]
  replace hans := hid hans
  have b1 := heap_alloc_new w (.cells #[.slice A ns.length c, .int .i64 root] 31)
  have c1 := Boxed.new (w.alloc (.cells #[.slice A ns.length c, .int .i64 root] 31)) 25 (.int .i64 0)
  rw [World.size_alloc] at c1
  have b2 := hid (((ext_alloc (w.alloc (.cells #[.slice A ns.length c, .int .i64 root] 31)) (.cells #[.int .i64 0] 25)).block _ (block_lt b1)).trans b1)
  have X2 : Hid (Below w.heap.size w ((w.alloc (.cells #[.slice A ns.length c, .int .i64 root] 31)).alloc (.cells #[.int .i64 0] 25))) := hid (by (repeat (first | exact Below.refl _ _ | assumption | refine ext_trans ?_ (by assumption) | refine ext_trans ?_ (ext_alloc _ _))))
  refine (callsIn_wide (n := 4)).1 ?_
  refine callsIn_of_wp_marks Tryd.func20 rfl trivial ?_ rfl
  simp only [Tryd.ntmps20, List.size_toArray, List.length_cons, List.length_nil, Nat.reduceAdd, Nat.reduceSub, Array.replicate_succ, Array.replicate_zero, List.push_toArray, List.append_toArray, List.nil_append, List.cons_append]
  gi_wp2_with (first
    | ((with_reducible refine wpListIn_load_row rfl 31 (.tmp 1) rfl w.heap.size rfl 31 #[.slice A ns.length c, .int .i64 root] (0, 0) _ ?_ hut rfl ?_ ?_); exact b2.out; exact sizeTr))
  refine ⟨trivial, callsIn_wide.2 ((each_acct A ns.length c root _).mono ?_)⟩
  rintro e W0 ⟨rfl, hW0⟩
  have hs0 : W0.heap.size = w.heap.size + 1 + 1 + 1 := by rw [hW0]; simp
  have c3 : Boxed W0 (w.heap.size + 1) 25 (.int .i64 0) := by rw [hW0]; exact c1.alloc _
  have b3 : W0.heap[w.heap.size + 1 + 1]? = some (.cells #[.slice A ns.length c, .int .i64 root] 31 (0, 0)) := by
    rw [hW0]
    have := heap_alloc_new ((w.alloc (.cells #[.slice A ns.length c, .int .i64 root] 31)).alloc (.cells #[.int .i64 0] 25)) (.cells #[.slice A ns.length c, .int .i64 root] 31)
    simp only [World.size_alloc] at this
    exact this
  have Y0 : Below w.heap.size w W0 := by rw [hW0]; exact X2.out.trans ((ext_alloc _ _).mono X2.out.size)
  clear hW0 b1 b2 c1 X2
  simp only [World.size_alloc]
  gi_wp2
  refine wpIn_rangeFunc_ownG (F := Fence.wide) rfl (by omega) (gf := 45) (lb := #[.pointer (some ⟨w.heap.size + 1 + 1, 0, none⟩)]) rfl trivial (enters_of Tryd.func45 (by kernel_rfl) rfl)
    (encs := encA) (Kp := KeepA w.heap.size (fun b => b = w.heap.size + 1)) (S := fun xs => xs = seqA ⟨ns, root⟩) (Sp := fun pre => ∃ r, seqA ⟨ns, root⟩ = pre ++ r) (N := 1000001) (w0 := W0)
    (fun l J Jx W hW hJ hJx hY h0 => each1_in 3 (by omega) (w.heap.size + 1 + 1) w.heap.size l (fun b => b = w.heap.size + 1) F A c ns root w W rfl (Y0.trans (hW.mono Y0.size)) hr hc ((hW.block _ (block_lt b3)).trans b3)
      (fun b hb => by have := hW.size; omega) J Jx hJ hY h0)
    (fun h k => h.trans k) (keepA_b Y0.size) (Below.refl _ _) (fun _ => rfl)
    (LoopK w) (LeftK w) (loopK_from w _ Y0.size) (fun cd => leftK_from w _ Y0.size cd)
    ⟨by simp, c3, Y0⟩
    (fun x => { tmps := #[.agg #[.slice A ns.length c, .int .i64 root], .pointer (some ⟨w.heap.size, 0, none⟩), .pointer (some ⟨w.heap.size + 1, 0, none⟩), undef, .int .i64 x.2, .agg #[.slice A ns.length c, .int .i64 root], .func (.func 45) #[] #[.pointer (some ⟨w.heap.size + 1 + 1, 0, none⟩)], .agg (acC x.1).toArray, .int .i64 x.2, undef, undef, undef], defers := [] }) ?assign ?body ?done ?stop
  case assign =>
    rintro l ⟨a, e⟩ W K hK
    dsimp only [encA]
    gi_wp2
    exact hK
  case body =>
    rintro l pre ⟨a, e⟩ W ⟨he0, hE, hB⟩ hlt
    have hcE := hE.cell
    have hfE := hE.frozen
    simp only
    by_cases hz : e = 0
    · subst hz
      gi_wp2
      refine ⟨KeepsFrom.refl _ _, KeepA.refl _ _ _, ?_, hE, hB⟩
      intro z hz
      rcases List.mem_append.1 hz with hz | hz
      · exact he0 z hz
      · rw [List.mem_singleton.1 hz]
    · have hzb : (e != 0) = true := by rw [bne_iff_ne]; exact hz
      replace hz := hid hz
      gi_wp2
      exact ⟨(KeepsOthers.setCell _ _ _).from _, rfl, pre, _, rfl, hz.out, hE.set _, hB.setCell (p := ⟨w.heap.size + 1, 0, none⟩) (by show _ ≤ w.heap.size + 1; omega) _⟩
  case done =>
    rintro D xs W hD hS ⟨he0, hE, hB⟩ hK
    have hm : mayA ⟨ns, root⟩ = true := (seqA_may _).2 (by rw [← hS]; exact he0)
    have h0 : ans = 0 := by rw [← hans.out, hm]; rfl
    subst h0
    have hcE := hE.cell
    have hfE := hE.frozen
    clear hS he0
    gi_wp2
    have X1 := hE.set (.int .i64 0)
    have X4 : Below w.heap.size w (W.setCell ⟨w.heap.size + 1, 0, none⟩ (.int .i64 0)) := hB.setCell (p := ⟨w.heap.size + 1, 0, none⟩) (by show _ ≤ w.heap.size + 1; omega) _
    have X6 : (W.setCell ⟨w.heap.size + 1, 0, none⟩ (.int .i64 0)).heap[D]? = some (.deferred (some [])) := (Below.heap_setCell _ _ _ _ (by show D ≠ w.heap.size + 1; omega)).trans hK
    generalize W.setCell ⟨w.heap.size + 1, 0, none⟩ (.int .i64 0) = Y at *
    have hD2 := fun (r : Nat) (e : some D = some r) => (⟨_, by cases e; exact X6, rfl⟩ : ∃ o : Obj, Y.heap[r]? = some o ∧ o.isCells = false)
    refine ⟨by simp, .inl ⟨_, _, rfl, run_takeDeferred X6, ?_⟩⟩
    exact ⟨_, results_cell1 rfl _ _ _ _ _ rfl (loadVar_boxed Tryd.isAgg25 (X1.kept (grownBy_putObj' Y D _) (apart_cells X1 hD2))), rfl, X4.trans (belowK_b (w := w) (Nat.le_refl _) Y D _ _ (by omega) X6 rfl rfl)⟩
  case stop =>
    rintro D cd pre W hD ⟨r, hS⟩ ⟨rfl, q, x, rfl, hx, hE, hB⟩ hK
    obtain ⟨hm, hx8⟩ := seqA_pre hS hx
    have h0 : ans = 8 := by rw [← hans.out, hm]; rfl
    subst h0
    rw [hx8] at hE
    have hD2 := fun (r : Nat) (e : some D = some r) => (⟨_, by cases e; exact hK, rfl⟩ : ∃ o : Obj, W.heap[r]? = some o ∧ o.isCells = false)
    gi_wp2
    refine ⟨by simp, .inl ⟨_, _, rfl, run_takeDeferred hK, ?_⟩⟩
    exact ⟨_, results_cell1 rfl _ _ _ _ _ rfl (loadVar_boxed Tryd.isAgg25 (hE.kept (grownBy_putObj' W D _) (apart_cells hE hD2))), rfl, hB.trans (belowK_b (w := w) (Nat.le_refl _) W D _ _ (by omega) hK rfl rfl)⟩
end Go.Proofs.YtcifncmfjlbhjaaDoor
