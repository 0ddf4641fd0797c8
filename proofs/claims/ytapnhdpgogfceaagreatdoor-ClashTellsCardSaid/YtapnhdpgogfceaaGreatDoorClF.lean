/-
  Texts laid together: ClB, ClC, ClD, ClE.
-/
import Derived.Test.YtapnhdpgogfceaaGreatDoorClA
import Derived.Test.YtapnhdpgogfceaaGreatDoorClP
import Derived.Test.YtapnhdpgogfceaaGreatDoorVfX
import Derived.Test.YtapnhdpgogfceaaGreatDoorPfM
import Derived.Test.YtapnhdpgogfceaaGreatDoorPfC
import Derived.Test.YtapnhdpgogfceaaGreatDoorRef07b
import Derived.Test.YtapnhdpgogfceaaGreatDoorClQ
import Derived.Test.YtapnhdpgogfceaaGreatDoorTrB
import Derived.Test.YtapnhdpgogfceaaGreatDoorPfK
set_option maxRecDepth 100000
/- (ClB)
  Contracts of the landed package clash: firstUnlike.
-/
namespace Go.Proofs.YtapnhdpgogfceaaGreatDoor
open Go.RowKit Go.Shelf
set_option linter.unusedVariables false
set_option linter.unusedSimpArgs false
attribute [local go_sem] Oper.semAt_some

theorem firstI_cons (x y : List UInt8) (l m : List (List UInt8)) : firstI (x :: l) (y :: m) = if x = y ∧ l ≠ [] ∧ m ≠ [] then firstI l m else (x, y) := rfl
/-- If all that stands ahead is the same, the first that is not is found. -/
theorem firstI_at : ∀ (qs : List (List UInt8 × List UInt8)) (ls ms : List (List UInt8)) (j : Nat) (z : List UInt8 × List UInt8), (ls.zip ms).take j = qs ++ [z] → (∀ q ∈ qs, q.1 = q.2) → z.1 ≠ z.2 → firstI ls ms = z
  | [], ls, ms, j, z, h, hq, hz => by
    rcases j with _ | j
    · simp at h
    rcases ls with _ | ⟨x, l⟩
    · simp at h
    rcases ms with _ | ⟨y, m⟩
    · simp at h
    rw [List.zip_cons_cons, List.take_succ_cons, List.nil_append] at h
    injection h with h1 h2
    subst h1
    rw [firstI_cons, if_neg (fun q => hz q.1)]
  | q :: qs, ls, ms, j, z, h, hq, hz => by
    rcases j with _ | j
    · simp at h
    rcases ls with _ | ⟨x, l⟩
    · simp at h
    rcases ms with _ | ⟨y, m⟩
    · simp at h
    rw [List.zip_cons_cons, List.take_succ_cons, List.cons_append] at h
    injection h with h1 h2
    have hxy : x = y := by have := hq q (by simp); rw [← h1] at this; exact this
    have hl : l ≠ [] := by rintro rfl; simp at h2
    have hm : m ≠ [] := by rintro rfl; simp at h2
    rw [firstI_cons, if_pos ⟨hxy, hl, hm⟩]
    exact firstI_at qs l m j z h2 (fun q hq' => hq q (by simp [hq'])) hz
/-- If all pairs are the same, what is found is the same. -/
theorem firstI_all : ∀ (ls ms : List (List UInt8)), (∀ z ∈ ls.zip ms, z.1 = z.2) → (firstI ls ms).1 = (firstI ls ms).2
  | [], ms, h => rfl
  | x :: l, [], h => rfl
  | x :: l, y :: m, h => by
    have hxy : x = y := h (x, y) (by simp)
    rw [firstI_cons]
    split
    · exact firstI_all l m fun z hz => h z (by simp [hz])
    · exact hxy

/-- A slice's cell turns: no bytes do. -/
theorem rd_setSlice {W : World} {A : Option Addr} {l : List UInt8} {p : Addr} {A0 : Option Addr} {n c : Nat} (h : Rd W A l) (hp : W.cell? p = some (.slice A0 n c)) (v : Value) : Rd (W.setCell p v) A l := fun hn => by
  obtain ⟨b, o, rfl, hc⟩ := h hn
  refine ⟨b, o, rfl, fun j x hx => ?_⟩
  have hj := hc j x hx
  rw [World.cell?_setCell_other _ _ _ _ (fun e => by rw [e, hj] at hp; cases hp)]
  exact hj
/-- What the loop holds between two rounds. -/
def LoopC (w : World) {w0 : World} (pre : List (ItsC w0)) (W : World) : Prop :=
  (∀ x ∈ pre, x.1.l = x.1.m) ∧ Boxed W (w.heap.size + 1 + 1) 27 (.slice none 0 0) ∧ Boxed W (w.heap.size + 1 + 1 + 1) 27 (.slice none 0 0) ∧ Below w.heap.size w W ∧ Below w0.heap.size w0 W
/-- What holds where a round has left. -/
def LeftC (w : World) {w0 : World} (cd : Code) (pre : List (ItsC w0)) (W : World) : Prop :=
  cd = .ret ∧ ∃ q x, pre = q ++ [x] ∧ (∀ y ∈ q, y.1.l = y.1.m) ∧ x.1.l ≠ x.1.m ∧ Boxed W (w.heap.size + 1 + 1) 27 (.slice x.1.A x.1.l.length x.1.c) ∧ Boxed W (w.heap.size + 1 + 1 + 1) 27 (.slice x.1.D x.1.m.length x.1.d) ∧ Below w.heap.size w W ∧ (Rd W x.1.A x.1.l ∧ Rd W x.1.D x.1.m)
theorem loopC_from (w w0 : World) (hB : w.heap.size ≤ w0.heap.size) : OwnFrom w0.heap.size (LoopC w (w0 := w0)) := by
  rintro pre X Y row ⟨h1, h2, h3, h4, h5⟩ hg hr
  have hr2 := fun r e => (hr r e).2
  exact ⟨h1, h2.kept hg (apart_cells h2 hr2), h3.kept hg (apart_cells h3 hr2), h4.grown hg h4.size (fun k e => Nat.le_trans hB (hr k e).1), h5.grown hg h5.size (fun k e => (hr k e).1)⟩
theorem rd_other {W W' : World} {A : Option Addr} {l : List UInt8} {row : Option Nat} (h : Rd W A l) (hg : W.grownBy W' row) (hr : ∀ r, row = some r → ∃ o : Obj, W.heap[r]? = some o ∧ o.isCells = false) : Rd W' A l := by
  rcases Nat.eq_zero_or_pos l.length with h0 | h0
  · obtain rfl : l = [] := List.eq_nil_of_length_eq_zero h0
    exact Rd.nil _ _
  obtain ⟨b, o, rfl, hc⟩ := h h0
  refine fun _ => ⟨b, o, rfl, fun j x hx => ?_⟩
  have hj := hc j x hx
  have hlt := World.block_lt_of_cell? _ _ hj
  rw [← hj]
  refine World.cell?_of_block (hg.block b hlt fun e => ?_)
  obtain ⟨ob, ho, hn⟩ := hr b e.symm
  simp only [World.cell?, ho] at hj
  cases ob <;> simp_all [Obj.isCells]
theorem leftC_from (w w0 : World) (hB : w.heap.size ≤ w0.heap.size) (cd : Code) : OwnFrom w0.heap.size (LeftC w (w0 := w0) cd) := by
  rintro pre X Y row ⟨h1, q, x, h2, h3, h4, h5, h6, h7, h8, h9⟩ hg hr
  have hr2 := fun r e => (hr r e).2
  exact ⟨h1, q, x, h2, h3, h4, h5.kept hg (apart_cells h5 hr2), h6.kept hg (apart_cells h6 hr2), h7.grown hg h7.size (fun k e => Nat.le_trans hB (hr k e).1), rd_other h8 hg hr2, rd_other h9 hg hr2⟩
theorem resC {W : World} {s : Nat} {v e : Value} {tmps : Array Value} (h1 : Boxed W (s + 1 + 1) 27 v) (h2 : Boxed W (s + 1 + 1 + 1) 27 e)
    (e1 : tmps.getD 4 undef = .pointer (some ⟨s + 1 + 1, 0, none⟩)) (e2 : tmps.getD 5 undef = .pointer (some ⟨s + 1 + 1 + 1, 0, none⟩)) : (results Tryz.f18 tmps).run Tryz.prog W = .ok (.tuple #[v, e]) W :=
  results_cells2 rfl tmps _ W _ _ _ _ e1 e2 (loadVar_boxed Tryz.isAgg27 h1) (loadVar_boxed Tryz.isAgg27 h2)

set_option maxRecDepth 100000 in
set_option maxHeartbeats 4000000 in
theorem ClFirst_any (x y : Pf) (A A2 : Option Addr) (c c2 : Nat) (D D2 : Option Addr) (d d2 : Nat) (F G : Nat → Prop) (ls ms : List (List UInt8)) (w : World) (m1 : mayF x = true) (m2 : mayF y = true) (hx : inP x = ls) (hy : inP y = ms) (hne : (firstI ls ms).1 ≠ (firstI ls ms).2)
    (hr : Rd w A x.v) (h1 : x.v.length ≤ c) (h2 : c ≤ maxLen) (hs : Row F w D x.ss) (hr2 : Rd w A2 y.v) (h3 : y.v.length ≤ c2) (h4 : c2 ≤ maxLen) (hs2 : Row G w D2 y.ss) (hT : Tab w) :
    Calls Tryz.prog 18 #[.agg (pfC x A c D d).toArray, .agg (pfC y A2 c2 D2 d2).toArray] w fun e w' => ∃ A5 c5 A6 c6, e = .returned (.tuple #[.slice A5 (firstI ls ms).1.length c5, .slice A6 (firstI ls ms).2.length c6]) ∧
      (Rd w' A5 (firstI ls ms).1 ∧ (firstI ls ms).1.length ≤ c5 ∧ c5 ≤ maxLen) ∧ (Rd w' A6 (firstI ls ms).2 ∧ (firstI ls ms).2.length ≤ c6 ∧ c6 ≤ maxLen) ∧ Below w.heap.size w w' := by
  have hl1 : ls.length ≤ 1000000 := by rw [← hx]; have := (may_small m1).2; unfold inP; rw [inL_length]; omega
  have hl2 : ms.length ≤ 1000000 := by rw [← hy]; have := (may_small m2).2; unfold inP; rw [inL_length]; omega
  have I1 := fun W hW hS hTW => VfInputsE_any x A c D d F true W m1 hW h1 h2 hS hTW
  have I2 := fun W hW hS hTW => VfInputsE_any y A2 c2 D2 d2 G true W m2 hW h3 h4 hS hTW
  simp only [↓reduceIte, hx] at I1
  simp only [↓reduceIte, hy] at I2
  replace I1 := hid I1
  replace I2 := hid I2
  have si1 : Hid ((Tryz.prog.info? 30).map (·.size) = some (pfC x A c D d).toArray.size) := hid (by rw [List.size_toArray]; exact sizePfC x A c D d)
  have si2 : Hid ((Tryz.prog.info? 30).map (·.size) = some (pfC y A2 c2 D2 d2).toArray.size) := hid (by rw [List.size_toArray]; exact sizePfC y A2 c2 D2 d2)
  have fl : Hid (∀ W, Below w.heap.size w W → Rd W A x.v ∧ Row F W D x.ss ∧ Rd W A2 y.v ∧ Row G W D2 y.ss ∧ Tab W) := hid fun W hb => ⟨hr.bel hb, hs.bel hb, hr2.bel hb, hs2.bel hb, hT.bel hb hT.low⟩
  have hup := Tryz.underlying30
  clear hr hs hr2 hs2 hT hx hy
  generalize (pfC x A c D d).toArray = P1 at *
  generalize (pfC y A2 c2 D2 d2).toArray = P2 at *
  have up : ∀ {W : World} {k : Nat} {o o' : Obj}, W.heap[k]? = some o → (W.alloc o').heap[k]? = some o := fun h => (Below.heap_alloc _ _ _ (block_lt h)).trans h
  have k1 := heap_alloc_new w (.cells P1 30)
  have k2 := heap_alloc_new (w.alloc (.cells P1 30)) (.cells P2 30)
  rw [World.size_alloc] at k2
  have d1 := hid (up (o' := .cells #[.slice none 0 0] 27) (up (o' := .cells #[.slice none 0 0] 27) (up (o' := .cells P2 30) k1)))
  have d2 := hid (up (o' := .cells #[.slice none 0 0] 27) (up (o' := .cells #[.slice none 0 0] 27) k2))
  have bx := (Boxed.new ((w.alloc (.cells P1 30)).alloc (.cells P2 30)) 27 (.slice none 0 0)).alloc (.cells #[.slice none 0 0] 27)
  have bY := Boxed.new (((w.alloc (.cells P1 30)).alloc (.cells P2 30)).alloc (.cells #[.slice none 0 0] 27)) 27 (.slice none 0 0)
  simp only [World.size_alloc] at bx bY
  replace bx := hid bx
  replace bY := hid bY
  have X4 : Hid (Below w.heap.size w ((((w.alloc (.cells P1 30)).alloc (.cells P2 30)).alloc (.cells #[.slice none 0 0] 27)).alloc (.cells #[.slice none 0 0] 27))) := hid (by (repeat (first | exact Below.refl _ _ | assumption | refine ext_trans ?_ (by assumption) | refine ext_trans ?_ (ext_alloc _ _))))
  clear k1 k2 up
  refine (callsIn_wide (n := 4)).1 ?_
  refine callsIn_of_wp_marks Tryz.func18 rfl trivial ?_ rfl
  simp only [Tryz.ntmps18, List.size_toArray, List.length_cons, List.length_nil, Nat.reduceAdd, Nat.reduceSub, Array.replicate_succ, Array.replicate_zero, List.push_toArray, List.append_toArray, List.nil_append, List.cons_append]
  gi_wp2_with (first
    | ((with_reducible refine wpListIn_load_row rfl 30 (.tmp 2) rfl w.heap.size rfl 30 P1 (0, 0) _ ?_ hup rfl ?_ ?_); exact d1.out; exact si1.out))
  refine ⟨trivial, callsIn_wide.2 ((I1.out _ (fl.out _ X4.out).1 (fl.out _ X4.out).2.1 (fl.out _ X4.out).2.2.2.2).mono ?_)⟩
  rintro e w5 ⟨A5, c5, rfl, ho5, hb5⟩
  have d25 := hid ((hb5.block _ (block_lt d2.out)).trans d2.out)
  have bx5 := hid (boxed_bel bx.out hb5 bx.out.lt)
  have bY5 := hid (boxed_bel bY.out hb5 bY.out.lt)
  have X5 := hid (X4.out.trans (hb5.mono X4.out.size))
  replace ho5 := hid ho5.row.rds
  clear hb5 d1 d2 bx bY X4
  gi_wp2_with (first
    | ((with_reducible refine wpListIn_load_row rfl 30 (.tmp 3) rfl (w.heap.size + 1) rfl 30 P2 (0, 0) _ ?_ hup rfl ?_ ?_); exact d25.out; exact si2.out))
  refine ⟨trivial, callsIn_wide.2 ((I2.out _ (fl.out _ X5.out).2.2.1 (fl.out _ X5.out).2.2.2.1 (fl.out _ X5.out).2.2.2.2).mono ?_)⟩
  rintro e w6 ⟨A6, c6, rfl, ho6, hb6⟩
  have bx6 := hid (boxed_bel bx5.out hb6 bx5.out.lt)
  have bY6 := hid (boxed_bel bY5.out hb6 bY5.out.lt)
  have X6 := hid (X5.out.trans (hb6.mono X5.out.size))
  replace ho5 := hid (ho5.out.bel hb6)
  replace ho6 := hid ho6.row.rds
  clear hb6 bx5 bY5 X5 d25
  gi_wp2
  refine ⟨trivial, callsIn_wide.2 ((together_any A5 A6 ls.length c5 ms.length c6 w6).mono ?_)⟩
  rintro e W0 ⟨rfl, hW0⟩
  have hs0 : W0.heap.size = w6.heap.size + 1 + 1 := by rw [hW0]; simp
  have Y0 : Below w6.heap.size w6 W0 := by rw [hW0]; exact (ext_alloc _ _).alloc (by simp) _
  have q1 : W0.cell? ⟨w6.heap.size, 0, none⟩ = some (.slice A5 ls.length c5) := by
    rw [hW0]
    exact (((Boxed.new w6 65 (.slice A5 ls.length c5)).alloc _).cell)
  have q2 : W0.cell? ⟨w6.heap.size + 1, 0, none⟩ = some (.slice A6 ms.length c6) := by
    rw [hW0]
    have := (Boxed.new (w6.alloc (.cells #[.slice A5 ls.length c5] 65)) 65 (.slice A6 ms.length c6)).cell
    rw [World.size_alloc] at this
    exact this
  have X0 : Below w.heap.size w W0 := X6.out.trans (Y0.mono X6.out.size)
  have hws : w.heap.size + 1 + 1 + 1 < w6.heap.size := bY6.out.lt
  have bx0 := boxed_bel bx6.out Y0 bx6.out.lt
  have bY0 := boxed_bel bY6.out Y0 bY6.out.lt
  have r5 := ho5.out.bel Y0
  have r6 := ho6.out.bel Y0
  clear hW0 Y0 bx6 bY6 ho5 ho6
  gi_wp2
  refine wpIn_rangeFunc_ownG (F := Fence.wide) rfl (by omega) (gf := 58) (lb := #[.pointer (some ⟨w6.heap.size, 0, none⟩), .pointer (some ⟨w6.heap.size + 1, 0, none⟩)]) rfl trivial (enters_of Tryz.func58 (by kernel_rfl) rfl)
    (encs := fun x : ItsC W0 => ItC.encs x.1) (Kp := Keep2 W0.heap.size w6.heap.size (w6.heap.size + 1)) (S := fun xs => xs.map (fun x => x.1.two) = ls.zip ms) (Sp := fun pre => ∃ j, pre.map (fun x => x.1.two) = (ls.zip ms).take j) (N := min ls.length ms.length) (w0 := W0)
    (fun lp J Jx W hW hJ hJx hY h0 => together1_in 3 (by omega) w6.heap.size (w6.heap.size + 1) W0.heap.size lp A5 A6 c5 c6 ls ms W0 W rfl hW r5 r6 hl1 hl2 ((hW.cell (p := ⟨w6.heap.size, 0, none⟩) (by rw [hs0]; show w6.heap.size < _; omega)).trans q1) ((hW.cell (p := ⟨w6.heap.size + 1, 0, none⟩) (by rw [hs0]; show w6.heap.size + 1 < _; omega)).trans q2) J Jx hJ hY h0)
    (fun h k => h.trans k) (fun W lp ob ob' hlp h1 h2 h3 => ⟨belowK_b (w := W0) (Nat.le_refl _) W lp ob ob' hlp h1 h2 h3, World.putObj_heap_other (by omega), World.putObj_heap_other (by omega)⟩) (Below.refl _ _) (fun _ => rfl)
    (LoopC w) (LeftC w) (loopC_from w W0 (by omega)) (fun cd => leftC_from w W0 (by omega) cd)
    ⟨by simp, bx0, bY0, X0, Below.refl _ _⟩
    (fun x => { tmps := #[.agg P1, .agg P2, .pointer (some ⟨w.heap.size, 0, none⟩), .pointer (some ⟨w.heap.size + 1, 0, none⟩), .pointer (some ⟨w.heap.size + 1 + 1, 0, none⟩), .pointer (some ⟨w.heap.size + 1 + 1 + 1, 0, none⟩), .slice A5 ls.length c5, .int .i64 0, .slice A6 ms.length c6, .int .i64 0, .slice x.1.A x.1.l.length x.1.c, .slice x.1.D x.1.m.length x.1.d,
      .tuple #[.slice A5 ls.length c5, .int .i64 0], .agg P1, .tuple #[.slice A5 ls.length c5, .int .i64 0], .slice A5 ls.length c5, .int .i64 0, .tuple #[.slice A6 ms.length c6, .int .i64 0], .agg P2, .tuple #[.slice A6 ms.length c6, .int .i64 0], .slice A6 ms.length c6, .int .i64 0, .slice A5 ls.length c5, .slice A6 ms.length c6,
      .func (.func 58) #[] #[.pointer (some ⟨w6.heap.size, 0, none⟩), .pointer (some ⟨w6.heap.size + 1, 0, none⟩)], .slice x.1.A x.1.l.length x.1.c, .slice x.1.D x.1.m.length x.1.d, undef, undef, undef, undef, undef, undef], defers := [] }) ?assign ?body ?done ?stop
  case assign =>
    rintro lp ⟨⟨B1, e1, l1, B2, e2, l2⟩, hg⟩ W K hK
    dsimp only [ItC.encs]
    gi_wp2
    exact hK
  case body =>
    rintro lp pre ⟨⟨B1, e1, l1, B2, e2, l2⟩, ⟨g1, g2, g3⟩, g4, g5, g6⟩ W ⟨he, hN, hA, hB, hB0⟩ hlt
    have hcN := hN.cell
    have hfN := hN.frozen
    have hcA := hA.cell
    have hfA := hA.frozen
    have t1 := g1.bel hB0
    have t2 := g4.bel hB0
    simp only
    by_cases h : l1 = l2
    · have hE := hid (BEqual2_is B1 B2 e1 e2 l1 l2 true W t1 t2 (decide_eq_true h))
      replace h := hid h
      gi_wp2
      refine ⟨trivial, callsIn_wide.2 (hE.out.mono ?_)⟩
      rintro e W7 ⟨rfl, rfl⟩
      gi_wp2
      refine ⟨KeepsFrom.refl _ _, Keep2.refl _ _ _ _, ?_, hN, hA, hB, hB0⟩
      intro z hz
      rcases List.mem_append.1 hz with hz | hz
      · exact he z hz
      · rw [List.mem_singleton.1 hz]; exact h.out
    · have hE := hid (BEqual2_is B1 B2 e1 e2 l1 l2 false W t1 t2 (decide_eq_false h))
      gi_wp2
      refine ⟨trivial, callsIn_wide.2 (hE.out.mono ?_)⟩
      rintro e W7 ⟨rfl, rfl⟩
      gi_wp2
      exact ⟨((KeepsOthers.setCell _ _ _).trans (KeepsOthers.setCell _ _ _)).from _, rfl, pre, _, rfl, he, h, (hN.set _).other (by omega) _, (hA.other (by omega) _).set _,
        (hB.setCell (p := ⟨w.heap.size + 1 + 1, 0, none⟩) (by show _ ≤ w.heap.size + 1 + 1; omega) _).setCell (p := ⟨w.heap.size + 1 + 1 + 1, 0, none⟩) (by show _ ≤ w.heap.size + 1 + 1 + 1; omega) _,
        rd_setSlice (rd_setSlice t1 hcN _) (hA.other (by omega) _).cell _, rd_setSlice (rd_setSlice t2 hcN _) (hA.other (by omega) _).cell _⟩
  case done =>
    rintro D3 xs W hD hS ⟨he, hN, hA, hB, hB0⟩ hK
    exact absurd (firstI_all ls ms fun z hz => by
      rw [← hS] at hz
      obtain ⟨y, hy, rfl⟩ := List.mem_map.1 hz
      exact he y hy) hne
  case stop =>
    rintro D3 cd pre W hD ⟨j, hj⟩ ⟨rfl, q, z, rfl, he, hz, hN, hA, hB, hr1, hr2⟩ hK
    have hf : firstI ls ms = z.1.two := firstI_at (q.map fun x => x.1.two) ls ms j z.1.two (by rw [← hj]; simp) (fun u hu => by
      obtain ⟨y, hy, rfl⟩ := List.mem_map.1 hu
      exact he y hy) hz
    have hD2 := fun (r : Nat) (e : some D3 = some r) => (⟨_, by cases e; exact hK, rfl⟩ : ∃ o : Obj, W.heap[r]? = some o ∧ o.isCells = false)
    gi_wp2
    refine ⟨by simp, .inl ⟨_, _, rfl, run_takeDeferred hK, ?_⟩⟩
    rw [hf]
    refine ⟨_, resC (hN.kept (grownBy_putObj' W D3 _) (apart_cells hN hD2)) (hA.kept (grownBy_putObj' W D3 _) (apart_cells hA hD2)) rfl rfl, z.1.A, z.1.c, z.1.D, z.1.d, rfl, ⟨rd_other hr1 (grownBy_putObj' W D3 _) hD2, z.2.1.2⟩, ⟨rd_other hr2 (grownBy_putObj' W D3 _) hD2, z.2.2.2⟩, hB.trans (belowK_b (w := w) (Nat.le_refl _) W D3 _ _ (by omega) hK rfl rfl)⟩
end Go.Proofs.YtapnhdpgogfceaaGreatDoor

/- (ClC)
  Contracts of the landed package clash: tellUnlike.
-/
namespace Go.Proofs.YtapnhdpgogfceaaGreatDoor
open Go.RowKit
set_option linter.unusedVariables false
set_option linter.unusedSimpArgs false
set_option maxRecDepth 100000

set_option maxHeartbeats 2000000 in
theorem ClTell_is (F G : Nat → Prop) (x y : Pf) (A A2 : Option Addr) (c c2 : Nat) (D D2 : Option Addr) (d d2 : Nat) (b : Bool) (w : World) (hr : Rd w A x.v) (h1 : x.v.length ≤ c) (h2 : c ≤ maxLen) (hl : x.v.length ≤ 1000000) (hr2 : Rd w A2 y.v) (h3 : y.v.length ≤ c2) (h4 : c2 ≤ maxLen) (hl2 : y.v.length ≤ 1000000) (hb : unlikeF x y = b) :
    Calls Tryz.prog 17 #[.agg (pfC x A c D d).toArray, .agg (pfC y A2 c2 D2 d2).toArray] w fun e w' => e = .returned (.bool b) ∧ Below w.heap.size w w' := by
  obtain ⟨B1, B2, W0⟩ := boxesPPr w x y A A2 c c2 D D2 d d2 30
  have hu := Tryz.underlying26
  have hup := Tryz.underlying30
  have p1 := hid B1.all
  have p2 := hid B2.all
  have k1 := hid B1.key
  have k2 := hid B2.key
  have i1 := hid (sizeDg x.k)
  have i2 := hid (sizeDg y.k)
  have j1 := hid (sizePfC x A c D d)
  have j2 := hid (sizePfC y A2 c2 D2 d2)
  obtain ⟨kb, hkb⟩ : ∃ kb, decide (x.k = y.k) = kb := ⟨_, rfl⟩
  obtain ⟨t1, ht1⟩ : ∃ t1, toldF x = t1 := ⟨_, rfl⟩
  obtain ⟨t2, ht2⟩ : ∃ t2, toldF y = t2 := ⟨_, rfl⟩
  have T1 := fun W (h : Rd W A x.v) => PfTold_is x A c D d t1 W h h1 h2 hl ht1
  have T2 := fun W (h : Rd W A2 y.v) => PfTold_is y A2 c2 D2 d2 t2 W h h3 h4 hl2 ht2
  have hE : ∀ W, (Op.equalIn 10000 26 (.agg (x.k.1.map bv).toArray) (.agg (y.k.1.map bv).toArray)).run Tryz.prog W = .ok kb W := fun W => eqd_is x.k y.k kb hkb W
  obtain ⟨lx, hlx⟩ : ∃ lx, (if t1 = true then x.v else []) = lx := ⟨_, rfl⟩
  obtain ⟨ly, hly⟩ : ∃ ly, (if t2 = true then y.v else []) = ly := ⟨_, rfl⟩
  obtain ⟨vb, hvb⟩ : ∃ vb, decide (lx = ly) = vb := ⟨_, rfl⟩
  have hB : b = (kb && (t1 != t2 || !vb)) := by
    rw [← hb, ← hkb, ← hvb, ← hlx, ← hly, ← ht1, ← ht2]
    unfold unlikeF tellV
    cases toldF x <;> cases toldF y <;> simp
  simp only [hlx] at T1
  simp only [hly] at T2
  have hfl := hid (fun (W : World) (hb : Below w.heap.size w W) => (show Rd W A x.v ∧ Rd W A2 y.v from ⟨hr.bel hb, hr2.bel hb⟩))
  have hV := hid (fun A c A2 c2 W (h1 : Rd W A lx) (h2 : Rd W A2 ly) => BEqual2_is A A2 c c2 lx ly vb W h1 h2 hvb)
  replace T1 := hid T1
  replace T2 := hid T2
  clear hb hkb ht1 ht2 hlx hly hvb B1 B2 hr hr2
  generalize x.k.1.map bv = dk1 at *
  generalize y.k.1.map bv = dk2 at *
  generalize pfC x A c D d = cs1 at *
  generalize pfC y A2 c2 D2 d2 = cs2 at *
  replace hB := hid hB
  have fin : ∀ a : Bool, a = (kb && (t1 != t2 || !vb)) → Ending.returned (.bool a) = .returned (.bool b) := fun a h => by rw [h, hB.out]
  replace fin := hid fin
  clear hB
  go_enter Tryz.func17, Tryz.ntmps17
  go_wp2_with (first
    | ((with_reducible refine wpList_load_rng rfl 30 (.tmp 2) rfl w.heap.size 0 rfl cs1 _ ?_ hup rfl j1.out ?_); exact p1.out))
  refine (T1.out _ (hfl.out _ W0).1).mono ?_
  rintro e w5 ⟨A5, c5, rfl, o5, hb5⟩
  have W5 := hid (W0.trans (hb5.mono W0.size))
  have p25 := hid (rangeBel2 hb5 p2.out)
  have k15 := hid (rangeBel2 hb5 k1.out)
  have k25 := hid (rangeBel2 hb5 k2.out)
  replace o5 := hid o5.rd
  clear hb5 p1 p2 k1 k2
  go_wp2_with (first
    | ((with_reducible refine wpList_load_rng rfl 30 (.tmp 3) rfl (w.heap.size + 1) 0 rfl cs2 _ ?_ hup rfl j2.out ?_); exact p25.out))
  refine (T2.out _ (hfl.out _ W5.out).2).mono ?_
  rintro e w6 ⟨A6, c6, rfl, o6, hb6⟩
  have W6 := hid (W5.out.trans (hb6.mono W5.out.size))
  have k5 := hid (rangeBel2 hb6 k15.out)
  have k6 := hid (rangeBel2 hb6 k25.out)
  replace o5 := hid (o5.out.bel hb6)
  replace o6 := hid o6.rd
  clear hb6 k15 k25 p25 W5
  cases kb
  · go_wp2_with (first
      | ((with_reducible refine wpList_load_rng ?_ 26 (.tmp 19) rfl w.heap.size 0 rfl dk1 _ ?_ hu rfl i1.out ?_); rfl; exact k5.out)
      | ((with_reducible refine wpList_load_rng ?_ 26 (.tmp 21) rfl (w.heap.size + 1) 0 rfl dk2 _ ?_ hu rfl i2.out ?_); rfl; exact k6.out))
    go_ret
    exact ⟨fin.out _ rfl, W6.out⟩
  · rcases t1 with _ | _ <;> rcases t2 with _ | _
    · go_wp2_with (first
        | ((with_reducible refine wpList_load_rng ?_ 26 (.tmp 19) rfl w.heap.size 0 rfl dk1 _ ?_ hu rfl i1.out ?_); rfl; exact k5.out)
        | ((with_reducible refine wpList_load_rng ?_ 26 (.tmp 21) rfl (w.heap.size + 1) 0 rfl dk2 _ ?_ hu rfl i2.out ?_); rfl; exact k6.out)
        | (go_at_call 33; refine (hV.out _ _ _ _ _ o5.out o6.out).mono ?_; rintro e w7 ⟨rfl, rfl⟩))
      go_ret
      exact ⟨fin.out _ rfl, W6.out⟩
    · go_wp2_with (first
        | ((with_reducible refine wpList_load_rng ?_ 26 (.tmp 19) rfl w.heap.size 0 rfl dk1 _ ?_ hu rfl i1.out ?_); rfl; exact k5.out)
        | ((with_reducible refine wpList_load_rng ?_ 26 (.tmp 21) rfl (w.heap.size + 1) 0 rfl dk2 _ ?_ hu rfl i2.out ?_); rfl; exact k6.out))
      go_ret
      exact ⟨fin.out _ rfl, W6.out⟩
    · go_wp2_with (first
        | ((with_reducible refine wpList_load_rng ?_ 26 (.tmp 19) rfl w.heap.size 0 rfl dk1 _ ?_ hu rfl i1.out ?_); rfl; exact k5.out)
        | ((with_reducible refine wpList_load_rng ?_ 26 (.tmp 21) rfl (w.heap.size + 1) 0 rfl dk2 _ ?_ hu rfl i2.out ?_); rfl; exact k6.out))
      go_ret
      exact ⟨fin.out _ rfl, W6.out⟩
    · go_wp2_with (first
        | ((with_reducible refine wpList_load_rng ?_ 26 (.tmp 19) rfl w.heap.size 0 rfl dk1 _ ?_ hu rfl i1.out ?_); rfl; exact k5.out)
        | ((with_reducible refine wpList_load_rng ?_ 26 (.tmp 21) rfl (w.heap.size + 1) 0 rfl dk2 _ ?_ hu rfl i2.out ?_); rfl; exact k6.out)
        | (go_at_call 33; refine (hV.out _ _ _ _ _ o5.out o6.out).mono ?_; rintro e w7 ⟨rfl, rfl⟩))
      go_ret
      exact ⟨fin.out _ rfl, W6.out⟩
end Go.Proofs.YtapnhdpgogfceaaGreatDoor

/- (ClD)
  Contracts of the landed package clash: Seek.
-/
namespace Go.Proofs.YtapnhdpgogfceaaGreatDoor
open Go.RowKit
set_option linter.unusedVariables false
set_option linter.unusedSimpArgs false
set_option maxRecDepth 100000

set_option maxHeartbeats 2000000 in
theorem ClSeek_any (F G : Nat → Prop) (x y : Pf) (A A2 : Option Addr) (c c2 : Nat) (D D2 : Option Addr) (d d2 : Nat) (w : World) (hr : Rd w A x.v) (h1 : x.v.length ≤ c) (h2 : c ≤ maxLen) (hs : Row F w D x.ss) (hr2 : Rd w A2 y.v) (h3 : y.v.length ≤ c2) (h4 : c2 ≤ maxLen) (hs2 : Row G w D2 y.ss) (hT : Tab w) :
    Calls Tryz.prog 8 #[.agg (pfC x A c D d).toArray, .agg (pfC y A2 c2 D2 d2).toArray] w fun e w' => ∃ A5 c5 A6 c6, e = .returned (.tuple #[.slice A5 (seekP x y).1.length c5, .slice A6 (seekP x y).2.length c6, .int .i64 (seekE x y)]) ∧ Txt w' A5 c5 (seekP x y).1 ∧ Txt w' A6 c6 (seekP x y).2 ∧ Below w.heap.size w w' := by
  obtain ⟨B1, B2, W0⟩ := boxesPPr w x y A A2 c c2 D D2 d d2 30
  have hup := Tryz.underlying30
  have p0 := hid B1.all
  have q0 := hid B2.all
  have j1 := hid (sizePfC x A c D d)
  have j2 := hid (sizePfC y A2 c2 D2 d2)
  obtain ⟨m1, hm1⟩ : ∃ m, mayF x = m := ⟨_, rfl⟩
  obtain ⟨m2, hm2⟩ : ∃ m, mayF y = m := ⟨_, rfl⟩
  obtain ⟨u, hu⟩ : ∃ u, unlikeF x y = u := ⟨_, rfl⟩
  obtain ⟨P, hP⟩ : ∃ P, seekP x y = P := ⟨_, rfl⟩
  obtain ⟨E, hE⟩ : ∃ E, seekE x y = E := ⟨_, rfl⟩
  rw [hP, hE]
  unfold seekP at hP
  unfold seekE at hE
  rw [hm1, hm2, hu] at hP hE
  have C1 := hid (fun W (h : Rd W A x.v) => PfCheck_is x A c D d m1 W h h1 h2 hm1)
  have C2 := hid (fun W (h : Rd W A2 y.v) => PfCheck_is y A2 c2 D2 d2 m2 W h h3 h4 hm2)
  have U := fun (k1 : x.v.length ≤ 1000000) (k2 : y.v.length ≤ 1000000) W (h : Rd W A x.v) (h' : Rd W A2 y.v) => ClTell_is F G x y A A2 c c2 D D2 d d2 u W h h1 h2 k1 h' h3 h4 k2 hu
  have V := fun (k1 : mayF x = true) (k2 : mayF y = true) (hne : (firstI (inP x) (inP y)).1 ≠ (firstI (inP x) (inP y)).2) W (h : Rd W A x.v) (hs : Row F W D x.ss) (h' : Rd W A2 y.v) (hs2 : Row G W D2 y.ss) (hT : Tab W) => ClFirst_any x y A A2 c c2 D D2 d d2 F G _ _ W k1 k2 rfl rfl hne h h1 h2 hs h' h3 h4 hs2 hT
  have fl : Hid (∀ W, Below w.heap.size w W → Rd W A x.v ∧ Row F W D x.ss ∧ Rd W A2 y.v ∧ Row G W D2 y.ss ∧ Tab W) := hid fun W hb => ⟨hr.bel hb, hs.bel hb, hr2.bel hb, hs2.bel hb, hT.bel hb hT.low⟩
  have sm1 := fun h => Nat.le_trans (may_small (x := x) h).1 (show 1000 ≤ 1000000 by omega)
  have sm2 := fun h => Nat.le_trans (may_small (x := y) h).1 (show 1000 ≤ 1000000 by omega)
  have cf := fun h k l => (clash_found (a := x) (b := y) h k l).1
  replace W0 := hid W0
  clear hr hr2 hs hs2 B1 B2 hT
  generalize pfC x A c D d = cs1 at *
  generalize pfC y A2 c2 D2 d2 = cs2 at *
  cases m1 with
  | false =>
    clear V U sm1 sm2 cf
    simp only [Bool.false_and, Bool.and_false, Bool.true_and, Bool.and_true, Bool.false_eq_true, ↓reduceIte] at hP hE
    replace hP := hid hP
    replace hE := hid hE
    try simp only [Bool.false_eq_true, ↓reduceIte] at C1
    go_enter Tryz.func8, Tryz.ntmps8
    go_wp2_with (first
      | ((with_reducible refine wpList_load_rng ?_ 30 (.tmp 2) rfl w.heap.size 0 rfl cs1 _ ?_ hup rfl j1.out ?_); rfl; exact p0.out)
      | ((with_reducible refine wpList_load_rng ?_ 30 (.tmp 3) rfl (w.heap.size + 1) 0 rfl cs2 _ ?_ hup rfl j2.out ?_); rfl; exact q0.out))
    refine (C1.out _ (fl.out _ W0.out).1).mono ?_
    rintro e w1 ⟨rfl, hb1⟩
    have W1 := hid (W0.out.trans (hb1.mono W0.out.size))
    have p1 := hid (rangeBel2 hb1 p0.out)
    have q1 := hid (rangeBel2 hb1 q0.out)
    clear hb1
    go_wp2
    replace hP := hP.out
    replace hE := hE.out
    go_ret3
    refine ⟨none, 0, none, 0, ?_, ?_, ?_, W1.out⟩
    · rw [← hP, ← hE]; rfl
    · rw [← hP]; exact ⟨Rd.nil _ _, Nat.le_refl _, Nat.zero_le _⟩
    · rw [← hP]; exact ⟨Rd.nil _ _, Nat.le_refl _, Nat.zero_le _⟩
  | true =>
    try simp only [↓reduceIte] at C1
    cases m2 with
    | false =>
      clear V U sm1 sm2 cf
      simp only [Bool.false_and, Bool.and_false, Bool.true_and, Bool.and_true, Bool.false_eq_true, ↓reduceIte] at hP hE
      replace hP := hid hP
      replace hE := hid hE
      try simp only [Bool.false_eq_true, ↓reduceIte] at C2
      go_enter Tryz.func8, Tryz.ntmps8
      go_wp2_with (first
        | ((with_reducible refine wpList_load_rng ?_ 30 (.tmp 2) rfl w.heap.size 0 rfl cs1 _ ?_ hup rfl j1.out ?_); rfl; exact p0.out)
        | ((with_reducible refine wpList_load_rng ?_ 30 (.tmp 3) rfl (w.heap.size + 1) 0 rfl cs2 _ ?_ hup rfl j2.out ?_); rfl; exact q0.out))
      refine (C1.out _ (fl.out _ W0.out).1).mono ?_
      rintro e w1 ⟨rfl, hb1⟩
      have W1 := hid (W0.out.trans (hb1.mono W0.out.size))
      have p1 := hid (rangeBel2 hb1 p0.out)
      have q1 := hid (rangeBel2 hb1 q0.out)
      clear hb1
      go_wp2_with (first
        | ((with_reducible refine wpList_load_rng ?_ 30 (.tmp 2) rfl w.heap.size 0 rfl cs1 _ ?_ hup rfl j1.out ?_); rfl; exact p1.out)
        | ((with_reducible refine wpList_load_rng ?_ 30 (.tmp 3) rfl (w.heap.size + 1) 0 rfl cs2 _ ?_ hup rfl j2.out ?_); rfl; exact q1.out))
      refine (C2.out _ (fl.out _ W1.out).2.2.1).mono ?_
      rintro e w2 ⟨rfl, hb2⟩
      have W2 := hid (W1.out.trans (hb2.mono W1.out.size))
      have p2 := hid (rangeBel2 hb2 p1.out)
      have q2 := hid (rangeBel2 hb2 q1.out)
      clear hb2
      go_wp2
      replace hP := hP.out
      replace hE := hE.out
      go_ret3
      refine ⟨none, 0, none, 0, ?_, ?_, ?_, W2.out⟩
      · rw [← hP, ← hE]; rfl
      · rw [← hP]; exact ⟨Rd.nil _ _, Nat.le_refl _, Nat.zero_le _⟩
      · rw [← hP]; exact ⟨Rd.nil _ _, Nat.le_refl _, Nat.zero_le _⟩
    | true =>
      try simp only [↓reduceIte] at C2
      replace U := hid (U (sm1 hm1) (sm2 hm2))
      cases u with
      | false =>
        clear V sm1 sm2 cf
        simp only [Bool.false_and, Bool.and_false, Bool.true_and, Bool.and_true, Bool.false_eq_true, ↓reduceIte] at hP hE
        replace hP := hid hP
        replace hE := hid hE
        go_enter Tryz.func8, Tryz.ntmps8
        go_wp2_with (first
          | ((with_reducible refine wpList_load_rng ?_ 30 (.tmp 2) rfl w.heap.size 0 rfl cs1 _ ?_ hup rfl j1.out ?_); rfl; exact p0.out)
          | ((with_reducible refine wpList_load_rng ?_ 30 (.tmp 3) rfl (w.heap.size + 1) 0 rfl cs2 _ ?_ hup rfl j2.out ?_); rfl; exact q0.out))
        refine (C1.out _ (fl.out _ W0.out).1).mono ?_
        rintro e w1 ⟨rfl, hb1⟩
        have W1 := hid (W0.out.trans (hb1.mono W0.out.size))
        have p1 := hid (rangeBel2 hb1 p0.out)
        have q1 := hid (rangeBel2 hb1 q0.out)
        clear hb1
        go_wp2_with (first
          | ((with_reducible refine wpList_load_rng ?_ 30 (.tmp 2) rfl w.heap.size 0 rfl cs1 _ ?_ hup rfl j1.out ?_); rfl; exact p1.out)
          | ((with_reducible refine wpList_load_rng ?_ 30 (.tmp 3) rfl (w.heap.size + 1) 0 rfl cs2 _ ?_ hup rfl j2.out ?_); rfl; exact q1.out))
        refine (C2.out _ (fl.out _ W1.out).2.2.1).mono ?_
        rintro e w2 ⟨rfl, hb2⟩
        have W2 := hid (W1.out.trans (hb2.mono W1.out.size))
        have p2 := hid (rangeBel2 hb2 p1.out)
        have q2 := hid (rangeBel2 hb2 q1.out)
        clear hb2
        go_wp2_with (first
          | ((with_reducible refine wpList_load_rng ?_ 30 (.tmp 2) rfl w.heap.size 0 rfl cs1 _ ?_ hup rfl j1.out ?_); rfl; exact p2.out)
          | ((with_reducible refine wpList_load_rng ?_ 30 (.tmp 3) rfl (w.heap.size + 1) 0 rfl cs2 _ ?_ hup rfl j2.out ?_); rfl; exact q2.out))
        refine (U.out _ (fl.out _ W2.out).1 (fl.out _ W2.out).2.2.1).mono ?_
        rintro e w3 ⟨rfl, hb3⟩
        have W3 := hid (W2.out.trans (hb3.mono W2.out.size))
        have p3 := hid (rangeBel2 hb3 p2.out)
        have q3 := hid (rangeBel2 hb3 q2.out)
        clear hb3
        go_wp2
        replace hP := hP.out
        replace hE := hE.out
        go_ret3
        refine ⟨none, 0, none, 0, ?_, ?_, ?_, W3.out⟩
        · rw [← hP, ← hE]; rfl
        · rw [← hP]; exact ⟨Rd.nil _ _, Nat.le_refl _, Nat.zero_le _⟩
        · rw [← hP]; exact ⟨Rd.nil _ _, Nat.le_refl _, Nat.zero_le _⟩
      | true =>
        simp only [Bool.false_and, Bool.and_false, Bool.true_and, Bool.and_true, Bool.false_eq_true, ↓reduceIte] at hP hE
        rw [hP] at V cf
        replace V := hid (V hm1 hm2 (cf hm1 hm2 hu))
        clear sm1 sm2 cf hP
        replace hE := hid hE
        go_enter Tryz.func8, Tryz.ntmps8
        go_wp2_with (first
          | ((with_reducible refine wpList_load_rng ?_ 30 (.tmp 2) rfl w.heap.size 0 rfl cs1 _ ?_ hup rfl j1.out ?_); rfl; exact p0.out)
          | ((with_reducible refine wpList_load_rng ?_ 30 (.tmp 3) rfl (w.heap.size + 1) 0 rfl cs2 _ ?_ hup rfl j2.out ?_); rfl; exact q0.out))
        refine (C1.out _ (fl.out _ W0.out).1).mono ?_
        rintro e w1 ⟨rfl, hb1⟩
        have W1 := hid (W0.out.trans (hb1.mono W0.out.size))
        have p1 := hid (rangeBel2 hb1 p0.out)
        have q1 := hid (rangeBel2 hb1 q0.out)
        clear hb1
        go_wp2_with (first
          | ((with_reducible refine wpList_load_rng ?_ 30 (.tmp 2) rfl w.heap.size 0 rfl cs1 _ ?_ hup rfl j1.out ?_); rfl; exact p1.out)
          | ((with_reducible refine wpList_load_rng ?_ 30 (.tmp 3) rfl (w.heap.size + 1) 0 rfl cs2 _ ?_ hup rfl j2.out ?_); rfl; exact q1.out))
        refine (C2.out _ (fl.out _ W1.out).2.2.1).mono ?_
        rintro e w2 ⟨rfl, hb2⟩
        have W2 := hid (W1.out.trans (hb2.mono W1.out.size))
        have p2 := hid (rangeBel2 hb2 p1.out)
        have q2 := hid (rangeBel2 hb2 q1.out)
        clear hb2
        go_wp2_with (first
          | ((with_reducible refine wpList_load_rng ?_ 30 (.tmp 2) rfl w.heap.size 0 rfl cs1 _ ?_ hup rfl j1.out ?_); rfl; exact p2.out)
          | ((with_reducible refine wpList_load_rng ?_ 30 (.tmp 3) rfl (w.heap.size + 1) 0 rfl cs2 _ ?_ hup rfl j2.out ?_); rfl; exact q2.out))
        refine (U.out _ (fl.out _ W2.out).1 (fl.out _ W2.out).2.2.1).mono ?_
        rintro e w3 ⟨rfl, hb3⟩
        have W3 := hid (W2.out.trans (hb3.mono W2.out.size))
        have p3 := hid (rangeBel2 hb3 p2.out)
        have q3 := hid (rangeBel2 hb3 q2.out)
        clear hb3
        go_wp2_with (first
          | ((with_reducible refine wpList_load_rng ?_ 30 (.tmp 2) rfl w.heap.size 0 rfl cs1 _ ?_ hup rfl j1.out ?_); rfl; exact p3.out)
          | ((with_reducible refine wpList_load_rng ?_ 30 (.tmp 3) rfl (w.heap.size + 1) 0 rfl cs2 _ ?_ hup rfl j2.out ?_); rfl; exact q3.out))
        refine (V.out _ (fl.out _ W3.out).1 (fl.out _ W3.out).2.1 (fl.out _ W3.out).2.2.1 (fl.out _ W3.out).2.2.2.1 (fl.out _ W3.out).2.2.2.2).mono ?_
        rintro e w4 ⟨A5, c5, A6, c6, rfl, t5, t6, hb4⟩
        replace t5 := hid t5
        replace t6 := hid t6
        have W4 := hid (W3.out.trans (hb4.mono W3.out.size))
        have p4 := hid (rangeBel2 hb4 p3.out)
        have q4 := hid (rangeBel2 hb4 q3.out)
        clear hb4
        go_wp2
        go_ret3
        exact ⟨A5, c5, A6, c6, by rw [← hE.out]; rfl, t5.out, t6.out, W4.out⟩
end Go.Proofs.YtapnhdpgogfceaaGreatDoor

/- (ClE)
  Contracts of the landed package clash: Of.
-/
namespace Go.Proofs.YtapnhdpgogfceaaGreatDoor
open Go.RowKit
set_option linter.unusedVariables false
set_option linter.unusedSimpArgs false
set_option maxRecDepth 100000

theorem boxesTP (w : World) (A : Option Addr) (n c : Nat) (root : Int) (y : Pf) (A2 : Option Addr) (c2 : Nat) (D2 : Option Addr) (d2 : Nat) (t u : TypeId) :
    BoxT ((w.alloc (.cells #[.slice A n c, .int .i64 root] t)).alloc (.cells (pfC y A2 c2 D2 d2).toArray u)) w.heap.size A n c root ∧ BoxP ((w.alloc (.cells #[.slice A n c, .int .i64 root] t)).alloc (.cells (pfC y A2 c2 D2 d2).toArray u)) (w.heap.size + 1) y A2 c2 D2 d2 ∧
    Below w.heap.size w ((w.alloc (.cells #[.slice A n c, .int .i64 root] t)).alloc (.cells (pfC y A2 c2 D2 d2).toArray u)) := by
  have h2 := BoxP.new (w.alloc (.cells #[.slice A n c, .int .i64 root] t)) y A2 c2 D2 d2 u
  rw [World.size_alloc] at h2
  exact ⟨(BoxT.new w A n c root t).bel (ext_alloc _ _), h2, ext_trans (ext_alloc _ _) (ext_alloc _ _)⟩
set_option maxHeartbeats 4000000 in
theorem ClOf_any (F G : Nat → Prop) (A : Option Addr) (c : Nat) (ns : List Nd) (root : Int) (y : Pf) (A2 : Option Addr) (c2 : Nat) (D2 : Option Addr) (d2 : Nat) (w : World) (hr : Row F w A ns) (hc : ns.length ≤ 1000000) (hr2 : Rd w A2 y.v) (h3 : y.v.length ≤ c2) (h4 : c2 ≤ maxLen) (hs2 : Row G w D2 y.ss) (hT : Tab w) :
    Calls Tryz.prog 10 #[.agg #[.slice A ns.length c, .int .i64 root], .agg (pfC y A2 c2 D2 d2).toArray] w fun e w' => ∃ A5 c5 A6 c6, e = .returned (.tuple #[.slice A5 (ofP ⟨ns, root⟩ y).1.length c5, .slice A6 (ofP ⟨ns, root⟩ y).2.length c6, .int .i64 (ofE ⟨ns, root⟩ y)]) ∧ Txt w' A5 c5 (ofP ⟨ns, root⟩ y).1 ∧ Txt w' A6 c6 (ofP ⟨ns, root⟩ y).2 ∧ Below w.heap.size w w' := by
  obtain ⟨B1, B2, W0⟩ := boxesTP w A ns.length c root y A2 c2 D2 d2 24 30
  have hup := Tryz.underlying30
  have hut := Tryz.underlying24
  have hu := Tryz.underlying26
  have T0 := hid B1.all
  have Q0 := hid B2.all
  have K0 := hid B2.key
  have jT := hid (show (Tryz.prog.info? 24).map (·.size) = some ([Value.slice A ns.length c, .int .i64 root]).length from sizeTr)
  have jP := hid (sizePfC y A2 c2 D2 d2)
  have jK := hid (sizeDg y.k)
  obtain ⟨r0, hr0⟩ : ∃ r0, sumM ⟨ns, root⟩ = r0 := ⟨_, rfl⟩
  have jS := hid (sizeDg r0)
  have zd : (r0.1.map bv).toArray.size = 32 := by simp [r0.2]
  have zo := bvs_all r0.1
  obtain ⟨m1, hm1⟩ : ∃ m, mayT ⟨ns, root⟩ = m := ⟨_, rfl⟩
  obtain ⟨m2, hm2⟩ : ∃ m, mayF y = m := ⟨_, rfl⟩
  obtain ⟨fb, hfb⟩ : ∃ fb, decide (rootV y = rootT ⟨ns, root⟩) = fb := ⟨_, rfl⟩
  obtain ⟨o, ho⟩ : ∃ o, makeF ⟨ns, root⟩ y.k = o := ⟨_, rfl⟩
  obtain ⟨u, hu'⟩ : ∃ u, unlikeF o y = u := ⟨_, rfl⟩
  obtain ⟨P, hP⟩ : ∃ P, ofP ⟨ns, root⟩ y = P := ⟨_, rfl⟩
  obtain ⟨E, hE⟩ : ∃ E, ofE ⟨ns, root⟩ y = E := ⟨_, rfl⟩
  rw [hP, hE]
  unfold ofP at hP
  unfold ofE at hE
  rw [hm1, hm2, hfb, ho, hu'] at hP hE
  have CS := fun W (h : Row F W A ns) (h' : Tab W) => PTSum_any F A c ns root W h hc h'
  rw [hr0, hm1] at CS
  have C2 := hid (fun W (h : Rd W A2 y.v) => PfCheck_is y A2 c2 D2 d2 m2 W h h3 h4 hm2)
  have CF := fun (hb : fitsF y r0 = fb) W (h : Rd W A2 y.v) (hs : Row G W D2 y.ss) (h' : Tab W) => VfFits_is y A2 c2 D2 d2 r0 G fb W hb h h3 h4 hs h'
  have CM := fun W (h : Row F W A ns) (h' : Tab W) => PfMake_any F A c ns root y.k W h hc h'
  rw [ho, hm1] at CM
  have fit : m1 = true → m2 = true → fitsF y r0 = fb := fun k1 k2 => by
    have : sumM ⟨ns, root⟩ = rootT ⟨ns, root⟩ := by unfold sumM; rw [hm1, k1]; rfl
    unfold fitsF
    rw [hm2, k2, Bool.true_and, ← hfb, ← hr0, this]
  have om : m1 = true → mayF o = true := fun k1 => by rw [← ho]; exact makeF_may y.k (hm1.trans k1)
  have U := fun (k1 : o.v.length ≤ 1000000) (k2 : y.v.length ≤ 1000000) A c D d W (h : Rd W A o.v) (h1 : o.v.length ≤ c) (h2 : c ≤ maxLen) (h' : Rd W A2 y.v) => ClTell_is (fun _ => True) (fun _ => True) o y A A2 c c2 D D2 d d2 u W h h1 h2 k1 h' h3 h4 k2 hu'
  have V := fun (k1 : mayF o = true) (k2 : mayF y = true) (hne : (firstI (inP o) (inP y)).1 ≠ (firstI (inP o) (inP y)).2) F A c D d W (h : Rd W A o.v) (h1 : o.v.length ≤ c) (h2 : c ≤ maxLen) (hs : Row F W D o.ss) (h' : Rd W A2 y.v) (hs2 : Row G W D2 y.ss) (hT : Tab W) => ClFirst_any o y A A2 c c2 D D2 d d2 F G _ _ W k1 k2 rfl rfl hne h h1 h2 hs h' h3 h4 hs2 hT
  have fl : Hid (∀ W, Below w.heap.size w W → Row F W A ns ∧ Rd W A2 y.v ∧ Row G W D2 y.ss ∧ Tab W) := hid fun W hb => ⟨hr.bel hb, hr2.bel hb, hs2.bel hb, hT.bel hb hT.low⟩
  have sm := fun (x : Pf) h => Nat.le_trans (may_small (x := x) h).1 (show 1000 ≤ 1000000 by omega)
  have cf := fun h k l => (clash_found (a := o) (b := y) h k l).1
  have jN := fun A c D d => hid (sizePfC o A c D d)
  have jN2 := fun A c D d => hid (sizePfS o A c D d)
  have jN3 := fun A c D d => hid (show zPfC.size = (pfC o A c D d).toArray.size from Eq.trans (show zPfC.size = 67 from rfl) (by rw [List.size_toArray, len_pf]))
  have jN1 := fun A c D d => hid (one_pf o A c D d)
  replace W0 := hid W0
  clear hr hr2 hs2 B1 B2 hT hr0 hfb ho
  generalize pfC y A2 c2 D2 d2 = cs2 at *
  generalize y.k.1.map bv = dk at *
  generalize r0.1.map bv = dS at *
  obtain ⟨csT, hcsT⟩ : ∃ cs, [Value.slice A ns.length c, .int .i64 root] = cs := ⟨_, rfl⟩
  have hcsA : #[Value.slice A ns.length c, .int .i64 root] = csT.toArray := by rw [← hcsT]
  rw [hcsA] at W0 T0 Q0 K0 CS CM ⊢
  rw [hcsT] at T0 jT
  clear hcsA hcsT
  generalize pfC o = fN at *
  cases m1 with
  | false =>
    simp only [Bool.false_eq_true, ↓reduceIte] at CS
    replace CS := hid CS
    clear CF CM U V fit om sm cf jN jN2 jN3 jN1
    simp only [Bool.false_and, Bool.and_false, Bool.true_and, Bool.and_true, Bool.false_eq_true, ↓reduceIte] at hP hE
    replace hP := hid hP
    replace hE := hid hE
    go_enter Tryz.func10, Tryz.ntmps10
    go_wp2_with (first
      | ((with_reducible refine wpList_load_rng ?_ 24 (.tmp 2) rfl w.heap.size 0 rfl csT _ ?_ hut rfl jT.out ?_); rfl; exact T0.out))
    refine (CS.out _ (fl.out _ W0.out).1 (fl.out _ W0.out).2.2.2).mono ?_
    rintro e w1 ⟨rfl, hb1⟩
    have W1 := hid (W0.out.trans (hb1.mono W0.out.size))
    have T1 := hid (rangeBel2 hb1 T0.out)
    have Q1 := hid (rangeBel2 hb1 Q0.out)
    have K1 := hid (rangeBel2 hb1 K0.out)
    clear hb1
    have e1 := hid (heap_alloc_new w1 (.cells z32 26))
    go_wp2_with (first
      | (with_reducible refine wpList_alloc_row rfl 26 rfl z32 info32 ?_)
      | ((with_reducible refine wpList_store_row rfl 26 (.tmp 7) (.tmp 13) rfl _ _ rfl rfl 26 z32 ?_ ?_ ?_ ?_ ?_); exact e1.out; (rw [zd]; exact size32); (rw [zd]; exact z32_size); exact zo; intro w2 hg2 hb2 hs2; have X2 := hid (xnewP rfl hb2); have W2 := hid (W1.out.trans (X2.out.mono W1.out.size)); have T2 := hid (rangeBel2 X2.out T1.out); have Q2 := hid (rangeBel2 X2.out Q1.out); have K2 := hid (rangeBel2 X2.out K1.out); have S2 := hid (rangeOf hg2); clear hg2 hb2 hs2))
    replace hP := hP.out
    replace hE := hE.out
    go_ret3
    refine ⟨none, 0, none, 0, ?_, ?_, ?_, W2.out⟩
    · rw [← hP, ← hE]; rfl
    · rw [← hP]; exact ⟨Rd.nil _ _, Nat.le_refl _, Nat.zero_le _⟩
    · rw [← hP]; exact ⟨Rd.nil _ _, Nat.le_refl _, Nat.zero_le _⟩
  | true =>
    simp only [↓reduceIte] at CS CM
    replace CS := hid CS
    replace CM := hid CM
    replace fit := fit rfl
    replace om := om rfl
    cases m2 with
    | false =>
      clear CF CM U V fit om sm cf jN jN2 jN3 jN1
      simp only [Bool.false_and, Bool.and_false, Bool.true_and, Bool.and_true, Bool.false_eq_true, ↓reduceIte] at hP hE
      replace hP := hid hP
      replace hE := hid hE
      simp only [Bool.false_eq_true, ↓reduceIte] at C2
      go_enter Tryz.func10, Tryz.ntmps10
      go_wp2_with (first
        | ((with_reducible refine wpList_load_rng ?_ 24 (.tmp 2) rfl w.heap.size 0 rfl csT _ ?_ hut rfl jT.out ?_); rfl; exact T0.out))
      refine (CS.out _ (fl.out _ W0.out).1 (fl.out _ W0.out).2.2.2).mono ?_
      rintro e w1 ⟨rfl, hb1⟩
      have W1 := hid (W0.out.trans (hb1.mono W0.out.size))
      have T1 := hid (rangeBel2 hb1 T0.out)
      have Q1 := hid (rangeBel2 hb1 Q0.out)
      have K1 := hid (rangeBel2 hb1 K0.out)
      clear hb1
      have e1 := hid (heap_alloc_new w1 (.cells z32 26))
      go_wp2_with (first
        | (with_reducible refine wpList_alloc_row rfl 26 rfl z32 info32 ?_)
        | ((with_reducible refine wpList_store_row rfl 26 (.tmp 7) (.tmp 13) rfl _ _ rfl rfl 26 z32 ?_ ?_ ?_ ?_ ?_); exact e1.out; (rw [zd]; exact size32); (rw [zd]; exact z32_size); exact zo; intro w2 hg2 hb2 hs2; have X2 := hid (xnewP rfl hb2); have W2 := hid (W1.out.trans (X2.out.mono W1.out.size)); have T2 := hid (rangeBel2 X2.out T1.out); have Q2 := hid (rangeBel2 X2.out Q1.out); have K2 := hid (rangeBel2 X2.out K1.out); have S2 := hid (rangeOf hg2); clear hg2 hb2 hs2)
        | ((with_reducible refine wpList_load_rng ?_ 30 (.tmp 3) rfl (w.heap.size + 1) 0 rfl cs2 _ ?_ hup rfl jP.out ?_); rfl; exact Q2.out))
      refine (C2.out _ (fl.out _ W2.out).2.1).mono ?_
      rintro e w3 ⟨rfl, hb3⟩
      have W3 := hid (W2.out.trans (hb3.mono W2.out.size))
      have T3 := hid (rangeBel2 hb3 T2.out)
      have Q3 := hid (rangeBel2 hb3 Q2.out)
      have K3 := hid (rangeBel2 hb3 K2.out)
      have S3 := hid (rangeBel2 hb3 S2.out)
      clear hb3
      go_wp2
      replace hP := hP.out
      replace hE := hE.out
      go_ret3
      refine ⟨none, 0, none, 0, ?_, ?_, ?_, W3.out⟩
      · rw [← hP, ← hE]; rfl
      · rw [← hP]; exact ⟨Rd.nil _ _, Nat.le_refl _, Nat.zero_le _⟩
      · rw [← hP]; exact ⟨Rd.nil _ _, Nat.le_refl _, Nat.zero_le _⟩
    | true =>
      simp only [↓reduceIte] at C2
      replace CF := hid (CF (fit rfl))
      cases fb with
      | false =>
        clear CM U V om sm cf jN jN2 jN3 jN1
        simp only [Bool.false_and, Bool.and_false, Bool.true_and, Bool.and_true, Bool.false_eq_true, ↓reduceIte] at hP hE
        replace hP := hid hP
        replace hE := hid hE
        go_enter Tryz.func10, Tryz.ntmps10
        go_wp2_with (first
          | ((with_reducible refine wpList_load_rng ?_ 24 (.tmp 2) rfl w.heap.size 0 rfl csT _ ?_ hut rfl jT.out ?_); rfl; exact T0.out))
        refine (CS.out _ (fl.out _ W0.out).1 (fl.out _ W0.out).2.2.2).mono ?_
        rintro e w1 ⟨rfl, hb1⟩
        have W1 := hid (W0.out.trans (hb1.mono W0.out.size))
        have T1 := hid (rangeBel2 hb1 T0.out)
        have Q1 := hid (rangeBel2 hb1 Q0.out)
        have K1 := hid (rangeBel2 hb1 K0.out)
        clear hb1
        have e1 := hid (heap_alloc_new w1 (.cells z32 26))
        go_wp2_with (first
          | (with_reducible refine wpList_alloc_row rfl 26 rfl z32 info32 ?_)
          | ((with_reducible refine wpList_store_row rfl 26 (.tmp 7) (.tmp 13) rfl _ _ rfl rfl 26 z32 ?_ ?_ ?_ ?_ ?_); exact e1.out; (rw [zd]; exact size32); (rw [zd]; exact z32_size); exact zo; intro w2 hg2 hb2 hs2; have X2 := hid (xnewP rfl hb2); have W2 := hid (W1.out.trans (X2.out.mono W1.out.size)); have T2 := hid (rangeBel2 X2.out T1.out); have Q2 := hid (rangeBel2 X2.out Q1.out); have K2 := hid (rangeBel2 X2.out K1.out); have S2 := hid (rangeOf hg2); clear hg2 hb2 hs2)
          | ((with_reducible refine wpList_load_rng ?_ 30 (.tmp 3) rfl (w.heap.size + 1) 0 rfl cs2 _ ?_ hup rfl jP.out ?_); rfl; exact Q2.out))
        refine (C2.out _ (fl.out _ W2.out).2.1).mono ?_
        rintro e w3 ⟨rfl, hb3⟩
        have W3 := hid (W2.out.trans (hb3.mono W2.out.size))
        have T3 := hid (rangeBel2 hb3 T2.out)
        have Q3 := hid (rangeBel2 hb3 Q2.out)
        have K3 := hid (rangeBel2 hb3 K2.out)
        have S3 := hid (rangeBel2 hb3 S2.out)
        clear hb3
        go_wp2_with (first
          | ((with_reducible refine wpList_load_rng ?_ 30 (.tmp 3) rfl (w.heap.size + 1) 0 rfl cs2 _ ?_ hup rfl jP.out ?_); rfl; exact Q3.out)
          | ((with_reducible refine wpList_load_rng ?_ 26 (.tmp 7) rfl w1.heap.size 0 rfl dS _ ?_ hu rfl jS.out ?_); rfl; exact S3.out))
        refine (CF.out _ (fl.out _ W3.out).2.1 (fl.out _ W3.out).2.2.1 (fl.out _ W3.out).2.2.2).mono ?_
        rintro e w4 ⟨rfl, hb4⟩
        have W4 := hid (W3.out.trans (hb4.mono W3.out.size))
        have T4 := hid (rangeBel2 hb4 T3.out)
        have Q4 := hid (rangeBel2 hb4 Q3.out)
        have K4 := hid (rangeBel2 hb4 K3.out)
        clear hb4
        go_wp2
        replace hP := hP.out
        replace hE := hE.out
        go_ret3
        refine ⟨none, 0, none, 0, ?_, ?_, ?_, W4.out⟩
        · rw [← hP, ← hE]; rfl
        · rw [← hP]; exact ⟨Rd.nil _ _, Nat.le_refl _, Nat.zero_le _⟩
        · rw [← hP]; exact ⟨Rd.nil _ _, Nat.le_refl _, Nat.zero_le _⟩
      | true =>
        replace U := hid (U (sm o om) (sm y hm2))
        cases u with
        | false =>
          clear V om sm cf
          simp only [Bool.false_and, Bool.and_false, Bool.true_and, Bool.and_true, Bool.false_eq_true, ↓reduceIte] at hP hE
          replace hP := hid hP
          replace hE := hid hE
          go_enter Tryz.func10, Tryz.ntmps10
          go_wp2_with (first
            | ((with_reducible refine wpList_load_rng ?_ 24 (.tmp 2) rfl w.heap.size 0 rfl csT _ ?_ hut rfl jT.out ?_); rfl; exact T0.out))
          refine (CS.out _ (fl.out _ W0.out).1 (fl.out _ W0.out).2.2.2).mono ?_
          rintro e w1 ⟨rfl, hb1⟩
          have W1 := hid (W0.out.trans (hb1.mono W0.out.size))
          have T1 := hid (rangeBel2 hb1 T0.out)
          have Q1 := hid (rangeBel2 hb1 Q0.out)
          have K1 := hid (rangeBel2 hb1 K0.out)
          clear hb1
          have e1 := hid (heap_alloc_new w1 (.cells z32 26))
          go_wp2_with (first
            | (with_reducible refine wpList_alloc_row rfl 26 rfl z32 info32 ?_)
            | ((with_reducible refine wpList_store_row rfl 26 (.tmp 7) (.tmp 13) rfl _ _ rfl rfl 26 z32 ?_ ?_ ?_ ?_ ?_); exact e1.out; (rw [zd]; exact size32); (rw [zd]; exact z32_size); exact zo; intro w2 hg2 hb2 hs2; have X2 := hid (xnewP rfl hb2); have W2 := hid (W1.out.trans (X2.out.mono W1.out.size)); have T2 := hid (rangeBel2 X2.out T1.out); have Q2 := hid (rangeBel2 X2.out Q1.out); have K2 := hid (rangeBel2 X2.out K1.out); have S2 := hid (rangeOf hg2); clear hg2 hb2 hs2)
            | ((with_reducible refine wpList_load_rng ?_ 30 (.tmp 3) rfl (w.heap.size + 1) 0 rfl cs2 _ ?_ hup rfl jP.out ?_); rfl; exact Q2.out))
          refine (C2.out _ (fl.out _ W2.out).2.1).mono ?_
          rintro e w3 ⟨rfl, hb3⟩
          have W3 := hid (W2.out.trans (hb3.mono W2.out.size))
          have T3 := hid (rangeBel2 hb3 T2.out)
          have Q3 := hid (rangeBel2 hb3 Q2.out)
          have K3 := hid (rangeBel2 hb3 K2.out)
          have S3 := hid (rangeBel2 hb3 S2.out)
          clear hb3
          go_wp2_with (first
            | ((with_reducible refine wpList_load_rng ?_ 30 (.tmp 3) rfl (w.heap.size + 1) 0 rfl cs2 _ ?_ hup rfl jP.out ?_); rfl; exact Q3.out)
            | ((with_reducible refine wpList_load_rng ?_ 26 (.tmp 7) rfl w1.heap.size 0 rfl dS _ ?_ hu rfl jS.out ?_); rfl; exact S3.out))
          refine (CF.out _ (fl.out _ W3.out).2.1 (fl.out _ W3.out).2.2.1 (fl.out _ W3.out).2.2.2).mono ?_
          rintro e w4 ⟨rfl, hb4⟩
          have W4 := hid (W3.out.trans (hb4.mono W3.out.size))
          have T4 := hid (rangeBel2 hb4 T3.out)
          have Q4 := hid (rangeBel2 hb4 Q3.out)
          have K4 := hid (rangeBel2 hb4 K3.out)
          clear hb4
          go_wp2_with (first
            | ((with_reducible refine wpList_load_rng ?_ 24 (.tmp 2) rfl w.heap.size 0 rfl csT _ ?_ hut rfl jT.out ?_); rfl; exact T4.out)
            | ((with_reducible refine wpList_load_rng ?_ 26 (.tmp 28) rfl (w.heap.size + 1) 0 rfl dk _ ?_ hu rfl jK.out ?_); rfl; exact K4.out))
          refine (CM.out _ (fl.out _ W4.out).1 (fl.out _ W4.out).2.2.2).mono ?_
          rintro e w5 ⟨A3, c3, D3, d3, rfl, o5, s5, hb5⟩
          have o5c := o5.cap
          replace o5 := hid o5.rd
          replace s5 := hid s5
          have W5 := hid (W4.out.trans (hb5.mono W4.out.size))
          have T5 := hid (rangeBel2 hb5 T4.out)
          have Q5 := hid (rangeBel2 hb5 Q4.out)
          clear hb5
          have e5 := hid (heap_alloc_new w5 (.cells zPfC 30))
          replace jN := jN A3 c3 D3 d3
          replace jN2 := jN2 A3 c3 D3 d3
          replace jN3 := jN3 A3 c3 D3 d3
          replace jN1 := jN1 A3 c3 D3 d3
          replace U := hid (U.out A3 c3 D3 d3)
          generalize fN A3 c3 D3 d3 = csN at *
          go_wp2_with (first
            | (with_reducible refine wpList_alloc_row rfl 30 rfl zPfC zInfoPf ?_)
            | ((with_reducible refine wpList_store_row rfl 30 (.tmp 8) (.tmp 31) rfl _ _ rfl rfl 30 zPfC ?_ ?_ ?_ ?_ ?_); exact e5.out; exact jN2.out; exact jN3.out; exact jN1.out; intro w6 hg6 hb6 hs6; have X6 := hid (xnewP rfl hb6); have W6 := hid (W5.out.trans (X6.out.mono W5.out.size)); have T6 := hid (rangeBel2 X6.out T5.out); have Q6 := hid (rangeBel2 X6.out Q5.out); have N6 := hid (rangeOf hg6); have o6 := hid (o5.out.bel X6.out); have s6 := hid (s5.out.bel X6.out); clear hg6 hb6 hs6)
            | ((with_reducible refine wpList_load_rng ?_ 30 (.tmp 8) rfl w5.heap.size 0 rfl csN _ ?_ hup rfl jN.out ?_); rfl; exact N6.out)
            | ((with_reducible refine wpList_load_rng ?_ 30 (.tmp 3) rfl (w.heap.size + 1) 0 rfl cs2 _ ?_ hup rfl jP.out ?_); rfl; exact Q6.out))
          refine (U.out _ o6.out o5c.1 o5c.2 (fl.out _ W6.out).2.1).mono ?_
          rintro e w7 ⟨rfl, hb7⟩
          have o7 := hid (o6.out.bel hb7)
          have s7 := hid (s6.out.bel hb7)
          have W7 := hid (W6.out.trans (hb7.mono W6.out.size))
          have T7 := hid (rangeBel2 hb7 T6.out)
          have Q7 := hid (rangeBel2 hb7 Q6.out)
          have N7 := hid (rangeBel2 hb7 N6.out)
          clear hb7
          go_wp2
          replace hP := hP.out
          replace hE := hE.out
          go_ret3
          refine ⟨none, 0, none, 0, ?_, ?_, ?_, W7.out⟩
          · rw [← hP, ← hE]; rfl
          · rw [← hP]; exact ⟨Rd.nil _ _, Nat.le_refl _, Nat.zero_le _⟩
          · rw [← hP]; exact ⟨Rd.nil _ _, Nat.le_refl _, Nat.zero_le _⟩
        | true =>
          simp only [Bool.false_and, Bool.and_false, Bool.true_and, Bool.and_true, Bool.false_eq_true, ↓reduceIte] at hP hE
          rw [hP] at V cf
          replace V := hid (V om hm2 (cf om hm2 hu'))
          clear om sm cf hP
          replace hE := hid hE
          go_enter Tryz.func10, Tryz.ntmps10
          go_wp2_with (first
            | ((with_reducible refine wpList_load_rng ?_ 24 (.tmp 2) rfl w.heap.size 0 rfl csT _ ?_ hut rfl jT.out ?_); rfl; exact T0.out))
          refine (CS.out _ (fl.out _ W0.out).1 (fl.out _ W0.out).2.2.2).mono ?_
          rintro e w1 ⟨rfl, hb1⟩
          have W1 := hid (W0.out.trans (hb1.mono W0.out.size))
          have T1 := hid (rangeBel2 hb1 T0.out)
          have Q1 := hid (rangeBel2 hb1 Q0.out)
          have K1 := hid (rangeBel2 hb1 K0.out)
          clear hb1
          have e1 := hid (heap_alloc_new w1 (.cells z32 26))
          go_wp2_with (first
            | (with_reducible refine wpList_alloc_row rfl 26 rfl z32 info32 ?_)
            | ((with_reducible refine wpList_store_row rfl 26 (.tmp 7) (.tmp 13) rfl _ _ rfl rfl 26 z32 ?_ ?_ ?_ ?_ ?_); exact e1.out; (rw [zd]; exact size32); (rw [zd]; exact z32_size); exact zo; intro w2 hg2 hb2 hs2; have X2 := hid (xnewP rfl hb2); have W2 := hid (W1.out.trans (X2.out.mono W1.out.size)); have T2 := hid (rangeBel2 X2.out T1.out); have Q2 := hid (rangeBel2 X2.out Q1.out); have K2 := hid (rangeBel2 X2.out K1.out); have S2 := hid (rangeOf hg2); clear hg2 hb2 hs2)
            | ((with_reducible refine wpList_load_rng ?_ 30 (.tmp 3) rfl (w.heap.size + 1) 0 rfl cs2 _ ?_ hup rfl jP.out ?_); rfl; exact Q2.out))
          refine (C2.out _ (fl.out _ W2.out).2.1).mono ?_
          rintro e w3 ⟨rfl, hb3⟩
          have W3 := hid (W2.out.trans (hb3.mono W2.out.size))
          have T3 := hid (rangeBel2 hb3 T2.out)
          have Q3 := hid (rangeBel2 hb3 Q2.out)
          have K3 := hid (rangeBel2 hb3 K2.out)
          have S3 := hid (rangeBel2 hb3 S2.out)
          clear hb3
          go_wp2_with (first
            | ((with_reducible refine wpList_load_rng ?_ 30 (.tmp 3) rfl (w.heap.size + 1) 0 rfl cs2 _ ?_ hup rfl jP.out ?_); rfl; exact Q3.out)
            | ((with_reducible refine wpList_load_rng ?_ 26 (.tmp 7) rfl w1.heap.size 0 rfl dS _ ?_ hu rfl jS.out ?_); rfl; exact S3.out))
          refine (CF.out _ (fl.out _ W3.out).2.1 (fl.out _ W3.out).2.2.1 (fl.out _ W3.out).2.2.2).mono ?_
          rintro e w4 ⟨rfl, hb4⟩
          have W4 := hid (W3.out.trans (hb4.mono W3.out.size))
          have T4 := hid (rangeBel2 hb4 T3.out)
          have Q4 := hid (rangeBel2 hb4 Q3.out)
          have K4 := hid (rangeBel2 hb4 K3.out)
          clear hb4
          go_wp2_with (first
            | ((with_reducible refine wpList_load_rng ?_ 24 (.tmp 2) rfl w.heap.size 0 rfl csT _ ?_ hut rfl jT.out ?_); rfl; exact T4.out)
            | ((with_reducible refine wpList_load_rng ?_ 26 (.tmp 28) rfl (w.heap.size + 1) 0 rfl dk _ ?_ hu rfl jK.out ?_); rfl; exact K4.out))
          refine (CM.out _ (fl.out _ W4.out).1 (fl.out _ W4.out).2.2.2).mono ?_
          rintro e w5 ⟨A3, c3, D3, d3, rfl, o5, s5, hb5⟩
          have o5c := o5.cap
          replace o5 := hid o5.rd
          replace s5 := hid s5
          have W5 := hid (W4.out.trans (hb5.mono W4.out.size))
          have T5 := hid (rangeBel2 hb5 T4.out)
          have Q5 := hid (rangeBel2 hb5 Q4.out)
          clear hb5
          have e5 := hid (heap_alloc_new w5 (.cells zPfC 30))
          replace jN := jN A3 c3 D3 d3
          replace jN2 := jN2 A3 c3 D3 d3
          replace jN3 := jN3 A3 c3 D3 d3
          replace jN1 := jN1 A3 c3 D3 d3
          replace U := hid (U.out A3 c3 D3 d3)
          replace V := hid (fun F => V.out F A3 c3 D3 d3)
          generalize fN A3 c3 D3 d3 = csN at *
          go_wp2_with (first
            | (with_reducible refine wpList_alloc_row rfl 30 rfl zPfC zInfoPf ?_)
            | ((with_reducible refine wpList_store_row rfl 30 (.tmp 8) (.tmp 31) rfl _ _ rfl rfl 30 zPfC ?_ ?_ ?_ ?_ ?_); exact e5.out; exact jN2.out; exact jN3.out; exact jN1.out; intro w6 hg6 hb6 hs6; have X6 := hid (xnewP rfl hb6); have W6 := hid (W5.out.trans (X6.out.mono W5.out.size)); have T6 := hid (rangeBel2 X6.out T5.out); have Q6 := hid (rangeBel2 X6.out Q5.out); have N6 := hid (rangeOf hg6); have o6 := hid (o5.out.bel X6.out); have s6 := hid (s5.out.bel X6.out); clear hg6 hb6 hs6)
            | ((with_reducible refine wpList_load_rng ?_ 30 (.tmp 8) rfl w5.heap.size 0 rfl csN _ ?_ hup rfl jN.out ?_); rfl; exact N6.out)
            | ((with_reducible refine wpList_load_rng ?_ 30 (.tmp 3) rfl (w.heap.size + 1) 0 rfl cs2 _ ?_ hup rfl jP.out ?_); rfl; exact Q6.out))
          refine (U.out _ o6.out o5c.1 o5c.2 (fl.out _ W6.out).2.1).mono ?_
          rintro e w7 ⟨rfl, hb7⟩
          have o7 := hid (o6.out.bel hb7)
          have s7 := hid (s6.out.bel hb7)
          have W7 := hid (W6.out.trans (hb7.mono W6.out.size))
          have T7 := hid (rangeBel2 hb7 T6.out)
          have Q7 := hid (rangeBel2 hb7 Q6.out)
          have N7 := hid (rangeBel2 hb7 N6.out)
          clear hb7
          go_wp2_with (first
            | ((with_reducible refine wpList_load_rng ?_ 30 (.tmp 8) rfl w5.heap.size 0 rfl csN _ ?_ hup rfl jN.out ?_); rfl; exact N7.out)
            | ((with_reducible refine wpList_load_rng ?_ 30 (.tmp 3) rfl (w.heap.size + 1) 0 rfl cs2 _ ?_ hup rfl jP.out ?_); rfl; exact Q7.out))
          refine (V.out _ _ o7.out o5c.1 o5c.2 s7.out (fl.out _ W7.out).2.1 (fl.out _ W7.out).2.2.1 (fl.out _ W7.out).2.2.2).mono ?_
          rintro e w8 ⟨A7, c7, A8, c8, rfl, t7, t8, hb8⟩
          replace t7 := hid t7
          replace t8 := hid t8
          have W8 := hid (W7.out.trans (hb8.mono W7.out.size))
          clear hb8
          go_wp2
          go_ret3
          exact ⟨A7, c7, A8, c8, by rw [← hE.out]; rfl, t7.out, t8.out, W8.out⟩
end Go.Proofs.YtapnhdpgogfceaaGreatDoor
