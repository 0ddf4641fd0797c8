/-
  Contracts of the landed package clash: firstUnlike.
-/
import Derived.Test.YtapnhdpgogfceaaDoorClA
import Derived.Test.YtapnhdpgogfceaaDoorClP
import Derived.Test.YtapnhdpgogfceaaDoorVfX
import Derived.Test.YtapnhdpgogfceaaDoorPfM
namespace Go.Proofs.YtapnhdpgogfceaaDoor
open Go.RowKit Go.Shelf
set_option linter.unusedVariables false
set_option linter.unusedSimpArgs false
attribute [local go_sem] Oper.semAt_some

theorem firstI_cons (x y : List UInt8) (l m : List (List UInt8)) : firstI (x :: l) (y :: m) = if x = y ∧ l ≠ [] ∧ m ≠ [] then firstI l m else (x, y) := rfl
/-- If all that stands ahead is the same, the first that is not is found. -/
theorem firstI_at : ∀ (qs : List (List UInt8 × List UInt8)) (ls ms : List (List UInt8)) (j : Nat) (z : List UInt8 × List UInt8), (ls.zip ms).take j = qs ++ [z] → (∀ q ∈ qs, q.1 = q.2) → z.1 ≠ z.2 → firstI ls ms = z
  | [], ls, ms, j, z, h, hq, hz => by
    rcases j with _ | j
    · simp at h
    rcases ls with _ | ⟨x, l⟩
    · simp at h
    rcases ms with _ | ⟨y, m⟩
    · simp at h
    rw [List.zip_cons_cons, List.take_succ_cons, List.nil_append] at h
    injection h with h1 h2
    subst h1
    rw [firstI_cons, if_neg (fun q => hz q.1)]
  | q :: qs, ls, ms, j, z, h, hq, hz => by
    rcases j with _ | j
    · simp at h
    rcases ls with _ | ⟨x, l⟩
    · simp at h
    rcases ms with _ | ⟨y, m⟩
    · simp at h
    rw [List.zip_cons_cons, List.take_succ_cons, List.cons_append] at h
    injection h with h1 h2
    have hxy : x = y := by have := hq q (by simp); rw [← h1] at this; exact this
    have hl : l ≠ [] := by rintro rfl; simp at h2
    have hm : m ≠ [] := by rintro rfl; simp at h2
    rw [firstI_cons, if_pos ⟨hxy, hl, hm⟩]
    exact firstI_at qs l m j z h2 (fun q hq' => hq q (by simp [hq'])) hz
/-- If all pairs are the same, what is found is the same. -/
theorem firstI_all : ∀ (ls ms : List (List UInt8)), (∀ z ∈ ls.zip ms, z.1 = z.2) → (firstI ls ms).1 = (firstI ls ms).2
  | [], ms, h => rfl
  | x :: l, [], h => rfl
  | x :: l, y :: m, h => by
    have hxy : x = y := h (x, y) (by simp)
    rw [firstI_cons]
    split
    · exact firstI_all l m fun z hz => h z (by simp [hz])
    · exact hxy

/-- A slice's cell turns: no bytes do. -/
theorem rd_setSlice {W : World} {A : Option Addr} {l : List UInt8} {p : Addr} {A0 : Option Addr} {n c : Nat} (h : Rd W A l) (hp : W.cell? p = some (.slice A0 n c)) (v : Value) : Rd (W.setCell p v) A l := fun hn => by
  obtain ⟨b, o, rfl, hc⟩ := h hn
  refine ⟨b, o, rfl, fun j x hx => ?_⟩
  have hj := hc j x hx
  rw [World.cell?_setCell_other _ _ _ _ (fun e => by rw [e, hj] at hp; cases hp)]
  exact hj
/-- What the loop holds between two rounds. -/
def LoopC (w : World) {w0 : World} (pre : List (ItsC w0)) (W : World) : Prop :=
  (∀ x ∈ pre, x.1.l = x.1.m) ∧ Boxed W (w.heap.size + 1 + 1) 22 (.slice none 0 0) ∧ Boxed W (w.heap.size + 1 + 1 + 1) 22 (.slice none 0 0) ∧ Below w.heap.size w W ∧ Below w0.heap.size w0 W
/-- What holds where a round has left. -/
def LeftC (w : World) {w0 : World} (cd : Code) (pre : List (ItsC w0)) (W : World) : Prop :=
  cd = .ret ∧ ∃ q x, pre = q ++ [x] ∧ (∀ y ∈ q, y.1.l = y.1.m) ∧ x.1.l ≠ x.1.m ∧ Boxed W (w.heap.size + 1 + 1) 22 (.slice x.1.A x.1.l.length x.1.c) ∧ Boxed W (w.heap.size + 1 + 1 + 1) 22 (.slice x.1.D x.1.m.length x.1.d) ∧ Below w.heap.size w W ∧ (Rd W x.1.A x.1.l ∧ Rd W x.1.D x.1.m)
theorem loopC_from (w w0 : World) (hB : w.heap.size ≤ w0.heap.size) : OwnFrom w0.heap.size (LoopC w (w0 := w0)) := by
  rintro pre X Y row ⟨h1, h2, h3, h4, h5⟩ hg hr
  have hr2 := fun r e => (hr r e).2
  exact ⟨h1, h2.kept hg (apart_cells h2 hr2), h3.kept hg (apart_cells h3 hr2), h4.grown hg h4.size (fun k e => Nat.le_trans hB (hr k e).1), h5.grown hg h5.size (fun k e => (hr k e).1)⟩
theorem rd_other {W W' : World} {A : Option Addr} {l : List UInt8} {row : Option Nat} (h : Rd W A l) (hg : W.grownBy W' row) (hr : ∀ r, row = some r → ∃ o : Obj, W.heap[r]? = some o ∧ o.isCells = false) : Rd W' A l := by
  rcases Nat.eq_zero_or_pos l.length with h0 | h0
  · obtain rfl : l = [] := List.eq_nil_of_length_eq_zero h0
    exact Rd.nil _ _
  obtain ⟨b, o, rfl, hc⟩ := h h0
  refine fun _ => ⟨b, o, rfl, fun j x hx => ?_⟩
  have hj := hc j x hx
  have hlt := World.block_lt_of_cell? _ _ hj
  rw [← hj]
  refine World.cell?_of_block (hg.block b hlt fun e => ?_)
  obtain ⟨ob, ho, hn⟩ := hr b e.symm
  simp only [World.cell?, ho] at hj
  cases ob <;> simp_all [Obj.isCells]
theorem leftC_from (w w0 : World) (hB : w.heap.size ≤ w0.heap.size) (cd : Code) : OwnFrom w0.heap.size (LeftC w (w0 := w0) cd) := by
  rintro pre X Y row ⟨h1, q, x, h2, h3, h4, h5, h6, h7, h8, h9⟩ hg hr
  have hr2 := fun r e => (hr r e).2
  exact ⟨h1, q, x, h2, h3, h4, h5.kept hg (apart_cells h5 hr2), h6.kept hg (apart_cells h6 hr2), h7.grown hg h7.size (fun k e => Nat.le_trans hB (hr k e).1), rd_other h8 hg hr2, rd_other h9 hg hr2⟩
theorem resC {W : World} {s : Nat} {v e : Value} {tmps : Array Value} (h1 : Boxed W (s + 1 + 1) 22 v) (h2 : Boxed W (s + 1 + 1 + 1) 22 e)
    (e1 : tmps.getD 4 undef = .pointer (some ⟨s + 1 + 1, 0, none⟩)) (e2 : tmps.getD 5 undef = .pointer (some ⟨s + 1 + 1 + 1, 0, none⟩)) : (results Tryd.f23 tmps).run Tryd.prog W = .ok (.tuple #[v, e]) W :=
  results_cells2 rfl tmps _ W _ _ _ _ e1 e2 (loadVar_boxed Tryd.isAgg22 h1) (loadVar_boxed Tryd.isAgg22 h2)

set_option maxRecDepth 100000 in
set_option maxHeartbeats 4000000 in
theorem ClFirst_any (x y : Pf) (A A2 : Option Addr) (c c2 : Nat) (D D2 : Option Addr) (d d2 : Nat) (F G : Nat → Prop) (ls ms : List (List UInt8)) (w : World) (m1 : mayF x = true) (m2 : mayF y = true) (hx : inP x = ls) (hy : inP y = ms) (hne : (firstI ls ms).1 ≠ (firstI ls ms).2)
    (hr : Rd w A x.v) (h1 : x.v.length ≤ c) (h2 : c ≤ maxLen) (hs : Row F w D x.ss) (hr2 : Rd w A2 y.v) (h3 : y.v.length ≤ c2) (h4 : c2 ≤ maxLen) (hs2 : Row G w D2 y.ss) (hT : Tab w) :
    Calls Tryd.prog 23 #[.agg (pfC x A c D d).toArray, .agg (pfC y A2 c2 D2 d2).toArray] w fun e w' => ∃ A5 c5 A6 c6, e = .returned (.tuple #[.slice A5 (firstI ls ms).1.length c5, .slice A6 (firstI ls ms).2.length c6]) ∧
      (Rd w' A5 (firstI ls ms).1 ∧ (firstI ls ms).1.length ≤ c5 ∧ c5 ≤ maxLen) ∧ (Rd w' A6 (firstI ls ms).2 ∧ (firstI ls ms).2.length ≤ c6 ∧ c6 ≤ maxLen) ∧ Below w.heap.size w w' := by
  have hl1 : ls.length ≤ 1000000 := by rw [← hx]; have := (may_small m1).2; unfold inP; rw [inL_length]; omega
  have hl2 : ms.length ≤ 1000000 := by rw [← hy]; have := (may_small m2).2; unfold inP; rw [inL_length]; omega
  have I1 := fun W hW hS hTW => VfInputsE_any x A c D d F true W m1 hW h1 h2 hS hTW
  have I2 := fun W hW hS hTW => VfInputsE_any y A2 c2 D2 d2 G true W m2 hW h3 h4 hS hTW
  simp only [↓reduceIte, hx] at I1
  simp only [↓reduceIte, hy] at I2
  replace I1 := hid I1
  replace I2 := hid I2
  have si1 : Hid ((Tryd.prog.info? 30).map (·.size) = some (pfC x A c D d).toArray.size) := hid (by rw [List.size_toArray]; exact sizePfC x A c D d)
  have si2 : Hid ((Tryd.prog.info? 30).map (·.size) = some (pfC y A2 c2 D2 d2).toArray.size) := hid (by rw [List.size_toArray]; exact sizePfC y A2 c2 D2 d2)
  have fl : Hid (∀ W, Below w.heap.size w W → Rd W A x.v ∧ Row F W D x.ss ∧ Rd W A2 y.v ∧ Row G W D2 y.ss ∧ Tab W) := hid fun W hb => ⟨hr.bel hb, hs.bel hb, hr2.bel hb, hs2.bel hb, hT.bel hb hT.low⟩
  have hup := Tryd.underlying30
  clear hr hs hr2 hs2 hT hx hy
  generalize (pfC x A c D d).toArray = P1 at *
  generalize (pfC y A2 c2 D2 d2).toArray = P2 at *
  have up : ∀ {W : World} {k : Nat} {o o' : Obj}, W.heap[k]? = some o → (W.alloc o').heap[k]? = some o := fun h => (Below.heap_alloc _ _ _ (block_lt h)).trans h
  have k1 := heap_alloc_new w (.cells P1 30)
  have k2 := heap_alloc_new (w.alloc (.cells P1 30)) (.cells P2 30)
  rw [World.size_alloc] at k2
  have d1 := hid (up (o' := .cells #[.slice none 0 0] 22) (up (o' := .cells #[.slice none 0 0] 22) (up (o' := .cells P2 30) k1)))
  have d2 := hid (up (o' := .cells #[.slice none 0 0] 22) (up (o' := .cells #[.slice none 0 0] 22) k2))
  have bx := (Boxed.new ((w.alloc (.cells P1 30)).alloc (.cells P2 30)) 22 (.slice none 0 0)).alloc (.cells #[.slice none 0 0] 22)
  have bY := Boxed.new (((w.alloc (.cells P1 30)).alloc (.cells P2 30)).alloc (.cells #[.slice none 0 0] 22)) 22 (.slice none 0 0)
  simp only [World.size_alloc] at bx bY
  replace bx := hid bx
  replace bY := hid bY
  have X4 : Hid (Below w.heap.size w ((((w.alloc (.cells P1 30)).alloc (.cells P2 30)).alloc (.cells #[.slice none 0 0] 22)).alloc (.cells #[.slice none 0 0] 22))) := hid (by (repeat (first | exact Below.refl _ _ | assumption | refine ext_trans ?_ (by assumption) | refine ext_trans ?_ (ext_alloc _ _))))
  clear k1 k2 up
  refine (callsIn_wide (n := 4)).1 ?_
  refine callsIn_of_wp_marks Tryd.func23 rfl trivial ?_ rfl
  simp only [Tryd.ntmps23, List.size_toArray, List.length_cons, List.length_nil, Nat.reduceAdd, Nat.reduceSub, Array.replicate_succ, Array.replicate_zero, List.push_toArray, List.append_toArray, List.nil_append, List.cons_append]
  gi_wp2_with (first
    | ((with_reducible refine wpListIn_load_row rfl 30 (.tmp 2) rfl w.heap.size rfl 30 P1 (0, 0) _ ?_ hup rfl ?_ ?_); exact d1.out; exact si1.out))
  refine ⟨trivial, callsIn_wide.2 ((I1.out _ (fl.out _ X4.out).1 (fl.out _ X4.out).2.1 (fl.out _ X4.out).2.2.2.2).mono ?_)⟩
  rintro e w5 ⟨A5, c5, rfl, ho5, hb5⟩
  have d25 := hid ((hb5.block _ (block_lt d2.out)).trans d2.out)
  have bx5 := hid (boxed_bel bx.out hb5 bx.out.lt)
  have bY5 := hid (boxed_bel bY.out hb5 bY.out.lt)
  have X5 := hid (X4.out.trans (hb5.mono X4.out.size))
  replace ho5 := hid ho5.row.rds
  clear hb5 d1 d2 bx bY X4
  gi_wp2_with (first
    | ((with_reducible refine wpListIn_load_row rfl 30 (.tmp 3) rfl (w.heap.size + 1) rfl 30 P2 (0, 0) _ ?_ hup rfl ?_ ?_); exact d25.out; exact si2.out))
  refine ⟨trivial, callsIn_wide.2 ((I2.out _ (fl.out _ X5.out).2.2.1 (fl.out _ X5.out).2.2.2.1 (fl.out _ X5.out).2.2.2.2).mono ?_)⟩
  rintro e w6 ⟨A6, c6, rfl, ho6, hb6⟩
  have bx6 := hid (boxed_bel bx5.out hb6 bx5.out.lt)
  have bY6 := hid (boxed_bel bY5.out hb6 bY5.out.lt)
  have X6 := hid (X5.out.trans (hb6.mono X5.out.size))
  replace ho5 := hid (ho5.out.bel hb6)
  replace ho6 := hid ho6.row.rds
  clear hb6 bx5 bY5 X5 d25
  gi_wp2
  refine ⟨trivial, callsIn_wide.2 ((together_any A5 A6 ls.length c5 ms.length c6 w6).mono ?_)⟩
  rintro e W0 ⟨rfl, hW0⟩
  have hs0 : W0.heap.size = w6.heap.size + 1 + 1 := by rw [hW0]; simp
  have Y0 : Below w6.heap.size w6 W0 := by rw [hW0]; exact (ext_alloc _ _).alloc (by simp) _
  have q1 : W0.cell? ⟨w6.heap.size, 0, none⟩ = some (.slice A5 ls.length c5) := by
    rw [hW0]
    exact (((Boxed.new w6 68 (.slice A5 ls.length c5)).alloc _).cell)
  have q2 : W0.cell? ⟨w6.heap.size + 1, 0, none⟩ = some (.slice A6 ms.length c6) := by
    rw [hW0]
    have := (Boxed.new (w6.alloc (.cells #[.slice A5 ls.length c5] 68)) 68 (.slice A6 ms.length c6)).cell
    rw [World.size_alloc] at this
    exact this
  have X0 : Below w.heap.size w W0 := X6.out.trans (Y0.mono X6.out.size)
  have hws : w.heap.size + 1 + 1 + 1 < w6.heap.size := bY6.out.lt
  have bx0 := boxed_bel bx6.out Y0 bx6.out.lt
  have bY0 := boxed_bel bY6.out Y0 bY6.out.lt
  have r5 := ho5.out.bel Y0
  have r6 := ho6.out.bel Y0
  clear hW0 Y0 bx6 bY6 ho5 ho6
  gi_wp2
  refine wpIn_rangeFunc_ownG (F := Fence.wide) rfl (by omega) (gf := 68) (lb := #[.pointer (some ⟨w6.heap.size, 0, none⟩), .pointer (some ⟨w6.heap.size + 1, 0, none⟩)]) rfl trivial (enters_of Tryd.func68 (by kernel_rfl) rfl)
    (encs := fun x : ItsC W0 => ItC.encs x.1) (Kp := Keep2 W0.heap.size w6.heap.size (w6.heap.size + 1)) (S := fun xs => xs.map (fun x => x.1.two) = ls.zip ms) (Sp := fun pre => ∃ j, pre.map (fun x => x.1.two) = (ls.zip ms).take j) (N := min ls.length ms.length) (w0 := W0)
    (fun lp J Jx W hW hJ hJx hY h0 => together1_in 3 (by omega) w6.heap.size (w6.heap.size + 1) W0.heap.size lp A5 A6 c5 c6 ls ms W0 W rfl hW r5 r6 hl1 hl2 ((hW.cell (p := ⟨w6.heap.size, 0, none⟩) (by rw [hs0]; show w6.heap.size < _; omega)).trans q1) ((hW.cell (p := ⟨w6.heap.size + 1, 0, none⟩) (by rw [hs0]; show w6.heap.size + 1 < _; omega)).trans q2) J Jx hJ hY h0)
    (fun h k => h.trans k) (fun W lp ob ob' hlp h1 h2 h3 => ⟨belowK_b (w := W0) (Nat.le_refl _) W lp ob ob' hlp h1 h2 h3, World.putObj_heap_other (by omega), World.putObj_heap_other (by omega)⟩) (Below.refl _ _) (fun _ => rfl)
    (LoopC w) (LeftC w) (loopC_from w W0 (by omega)) (fun cd => leftC_from w W0 (by omega) cd)
    ⟨by simp, bx0, bY0, X0, Below.refl _ _⟩
    (fun x => { tmps := #[.agg P1, .agg P2, .pointer (some ⟨w.heap.size, 0, none⟩), .pointer (some ⟨w.heap.size + 1, 0, none⟩), .pointer (some ⟨w.heap.size + 1 + 1, 0, none⟩), .pointer (some ⟨w.heap.size + 1 + 1 + 1, 0, none⟩), .slice A5 ls.length c5, .int .i64 0, .slice A6 ms.length c6, .int .i64 0, .slice x.1.A x.1.l.length x.1.c, .slice x.1.D x.1.m.length x.1.d,
      .tuple #[.slice A5 ls.length c5, .int .i64 0], .agg P1, .tuple #[.slice A5 ls.length c5, .int .i64 0], .slice A5 ls.length c5, .int .i64 0, .tuple #[.slice A6 ms.length c6, .int .i64 0], .agg P2, .tuple #[.slice A6 ms.length c6, .int .i64 0], .slice A6 ms.length c6, .int .i64 0, .slice A5 ls.length c5, .slice A6 ms.length c6,
      .func (.func 68) #[] #[.pointer (some ⟨w6.heap.size, 0, none⟩), .pointer (some ⟨w6.heap.size + 1, 0, none⟩)], .slice x.1.A x.1.l.length x.1.c, .slice x.1.D x.1.m.length x.1.d, undef, undef, undef, undef, undef, undef], defers := [] }) ?assign ?body ?done ?stop
  case assign =>
    rintro lp ⟨⟨B1, e1, l1, B2, e2, l2⟩, hg⟩ W K hK
    dsimp only [ItC.encs]
    gi_wp2
    exact hK
  case body =>
    rintro lp pre ⟨⟨B1, e1, l1, B2, e2, l2⟩, ⟨g1, g2, g3⟩, g4, g5, g6⟩ W ⟨he, hN, hA, hB, hB0⟩ hlt
    have hcN := hN.cell
    have hfN := hN.frozen
    have hcA := hA.cell
    have hfA := hA.frozen
    have t1 := g1.bel hB0
    have t2 := g4.bel hB0
    simp only
    by_cases h : l1 = l2
    · have hE := hid (BEqual2_is B1 B2 e1 e2 l1 l2 true W t1 t2 (decide_eq_true h))
      replace h := hid h
      gi_wp2
      refine ⟨trivial, callsIn_wide.2 (hE.out.mono ?_)⟩
      rintro e W7 ⟨rfl, rfl⟩
      gi_wp2
      refine ⟨KeepsFrom.refl _ _, Keep2.refl _ _ _ _, ?_, hN, hA, hB, hB0⟩
      intro z hz
      rcases List.mem_append.1 hz with hz | hz
      · exact he z hz
      · rw [List.mem_singleton.1 hz]; exact h.out
    · have hE := hid (BEqual2_is B1 B2 e1 e2 l1 l2 false W t1 t2 (decide_eq_false h))
      gi_wp2
      refine ⟨trivial, callsIn_wide.2 (hE.out.mono ?_)⟩
      rintro e W7 ⟨rfl, rfl⟩
      gi_wp2
      exact ⟨((KeepsOthers.setCell _ _ _).trans (KeepsOthers.setCell _ _ _)).from _, rfl, pre, _, rfl, he, h, (hN.set _).other (by omega) _, (hA.other (by omega) _).set _,
        (hB.setCell (p := ⟨w.heap.size + 1 + 1, 0, none⟩) (by show _ ≤ w.heap.size + 1 + 1; omega) _).setCell (p := ⟨w.heap.size + 1 + 1 + 1, 0, none⟩) (by show _ ≤ w.heap.size + 1 + 1 + 1; omega) _,
        rd_setSlice (rd_setSlice t1 hcN _) (hA.other (by omega) _).cell _, rd_setSlice (rd_setSlice t2 hcN _) (hA.other (by omega) _).cell _⟩
  case done =>
    rintro D3 xs W hD hS ⟨he, hN, hA, hB, hB0⟩ hK
    exact absurd (firstI_all ls ms fun z hz => by
      rw [← hS] at hz
      obtain ⟨y, hy, rfl⟩ := List.mem_map.1 hz
      exact he y hy) hne
  case stop =>
    rintro D3 cd pre W hD ⟨j, hj⟩ ⟨rfl, q, z, rfl, he, hz, hN, hA, hB, hr1, hr2⟩ hK
    have hf : firstI ls ms = z.1.two := firstI_at (q.map fun x => x.1.two) ls ms j z.1.two (by rw [← hj]; simp) (fun u hu => by
      obtain ⟨y, hy, rfl⟩ := List.mem_map.1 hu
      exact he y hy) hz
    have hD2 := fun (r : Nat) (e : some D3 = some r) => (⟨_, by cases e; exact hK, rfl⟩ : ∃ o : Obj, W.heap[r]? = some o ∧ o.isCells = false)
    gi_wp2
    refine ⟨by simp, .inl ⟨_, _, rfl, run_takeDeferred hK, ?_⟩⟩
    rw [hf]
    refine ⟨_, resC (hN.kept (grownBy_putObj' W D3 _) (apart_cells hN hD2)) (hA.kept (grownBy_putObj' W D3 _) (apart_cells hA hD2)) rfl rfl, z.1.A, z.1.c, z.1.D, z.1.d, rfl, ⟨rd_other hr1 (grownBy_putObj' W D3 _) hD2, z.2.1.2⟩, ⟨rd_other hr2 (grownBy_putObj' W D3 _) hD2, z.2.2.2⟩, hB.trans (belowK_b (w := w) (Nat.le_refl _) W D3 _ _ (by omega) hK rfl rfl)⟩
end Go.Proofs.YtapnhdpgogfceaaDoor
