/-
  Contracts of the landed package tx: the reader's cut, digest, number, end.
-/
import Derived.Test.YtaegdiggmgifiaaDoorTxA
import Derived.Test.YtaegdiggmgifiaaDoorNumTake
import Derived.Test.YtaegdiggmgifiaaDoorNumEnd
import Derived.Test.YtaegdiggmgifiaaDoorCutsB
import Derived.Test.YtaegdiggmgifiaaDoorStoreB
import Derived.Test.YtaegdiggmgifiaaDoorRef10a
import Derived.Laws.CopyOwn
namespace Go.Proofs.YtaegdiggmgifiaaDoor
open Go.RowKit
set_option linter.unusedVariables false
set_option linter.unusedSimpArgs false
set_option maxRecDepth 100000

/-! ### plain -/
def eI (b : Bool) : Int := if b then 10 else 0
def cutE (n : Nat) (l : List UInt8) (b : Bool) : Bool := b || decide (l.length < n)
def cutL (n : Nat) (l : List UInt8) (b : Bool) : List UInt8 := if cutE n l b then [] else l.take n
def cutR (n : Nat) (l : List UInt8) (b : Bool) : List UInt8 := if cutE n l b then l else l.drop n
def dgS (l : List UInt8) (b : Bool) : Dg := if cutE 32 l b then ⟨List.replicate 32 0, rfl⟩ else dgAt l 0
def nuS (l : List UInt8) (b : Bool) : Nat := if cutE 8 l b then 0 else num (l.take 8)
theorem cutE_yes {n : Nat} {l : List UInt8} {b : Bool} (h : b = true ∨ l.length < n) : cutE n l b = true := by
  unfold cutE
  rcases h with h | h
  · rw [h]; rfl
  · rw [decide_eq_true h, Bool.or_true]
theorem cutE_no {n : Nat} {l : List UInt8} (h : n ≤ l.length) : cutE n l false = false := by
  unfold cutE
  rw [decide_eq_false (by omega)]; rfl
theorem cutL_len (n : Nat) (l : List UInt8) (b : Bool) : (cutL n l b).length = if cutE n l b then 0 else n := by
  unfold cutL
  cases h : cutE n l b
  · unfold cutE at h
    simp at h
    simp
    omega
  · rfl
/-- The reader in its box g: what is left, and whether it ended too early; the bytes lie below B. -/
def RdrAt (B : Nat) (w : World) (g : Nat) (l : List UInt8) (b : Bool) : Prop :=
  B ≤ w.heap.size ∧ g < B ∧ ∃ A c, w.heap[g]? = some (.cells #[.slice A l.length c, .int .i64 (eI b)] 49 (0, 0)) ∧ l.length ≤ c ∧ c ≤ maxLen ∧ Row (fun x => x ≠ g ∧ x < B) w A l
theorem RdrAt.bel {B : Nat} {w w' : World} {g : Nat} {l : List UInt8} {b : Bool} (h : RdrAt B w g l b) (hb : Below B w w') : RdrAt B w' g l b := by
  obtain ⟨h1, h2, A, c, h3, h4, h5, h6⟩ := h
  exact ⟨Nat.le_trans h1 hb.size, h2, A, c, (hb.block g h2).trans h3, h4, h5, h6.kept (fun x hx _ => hb.block x hx.2) hb.size⟩
theorem RdrAt.chg {B : Nat} {w w' : World} {g : Nat} {l' : List UInt8} {b' : Bool} {A : Option Addr} {c : Nat} (h1 : B ≤ w.heap.size) (h2 : g < B) (hr : Row (fun x => x ≠ g ∧ x < B) w A l') (h4 : l'.length ≤ c) (h5 : c ≤ maxLen) (hc : Chg (fun x => x = g) w w')
    (h3 : w'.heap[g]? = some (.cells #[.slice A l'.length c, .int .i64 (eI b')] 49 (0, 0))) : RdrAt B w' g l' b' :=
  ⟨Nat.le_trans h1 hc.size, h2, A, c, h3, h4, h5, hr.chg hc fun x hx _ e => hx.1 e⟩
set_option maxHeartbeats 1000000 in
theorem PTxCut_any (B g n : Nat) (l : List UInt8) (b : Bool) (w : World) (h : RdrAt B w g l b) (hn : n ≤ 1000) :
    Calls Tryd.prog 50 #[.pointer (some ⟨g, 0, none⟩), .int .i64 (n : Int)] w fun e w' => ∃ A c, e = .returned (.slice A (cutL n l b).length c) ∧ Row (fun x => x ≠ g ∧ x < B) w' A (cutL n l b) ∧ (cutL n l b).length ≤ c ∧ c ≤ maxLen ∧ RdrAt B w' g (cutR n l b) (cutE n l b) ∧ Chg (fun x => x = g) w w' := by
  obtain ⟨h1, h2, A, c, h3, h4, h5, h6⟩ := h
  have c0 : w.cell? ⟨g, 0, none⟩ = some (.slice A l.length c) := by rw [block_cell h3]; rfl
  have c1 : w.cell? ⟨g, 1, none⟩ = some (.int .i64 (eI b)) := by rw [block_cell h3]; rfl
  have hil := hid (show (Tryd.prog.info? 30).map (·.size) = some 1 by kernel_rfl)
  have hie := hid (show (Tryd.prog.info? 27).map (·.size) = some 1 by kernel_rfl)
  have g0 := hid h3
  by_cases hs : l.length < n
  · have e1 : cutE n l b = true := cutE_yes (.inr hs)
    have e2 : cutL n l b = [] := by unfold cutL; rw [e1]; rfl
    have e3 : cutR n l b = l := by unfold cutR; rw [e1]; rfl
    rw [e1, e2, e3]
    have hlt : (l.length : Int) < (n : Int) := by omega
    have hfz := block_frozen h3 1
    have hS := hid (block_set h3 1 (.int .i64 10))
    have hC := hid (chg_cells g 1 [.int .i64 10] w)
    clear e1 e2 e3 h3
    go_enter Tryd.func50, Tryd.ntmps50
    go_wp2
    go_ret
    exact ⟨none, 0, rfl, Row.nil _ _ _, Nat.le_refl _, Nat.zero_le _, RdrAt.chg h1 h2 h6 h4 h5 hC.out hS.out, hC.out⟩
  · have hlt : ¬ (l.length : Int) < (n : Int) := by omega
    cases b with
    | true =>
      have e1 : cutE n l true = true := cutE_yes (.inl rfl)
      have e2 : cutL n l true = [] := by unfold cutL; rw [e1]; rfl
      have e3 : cutR n l true = l := by unfold cutR; rw [e1]; rfl
      rw [e1, e2, e3]
      have c1' : w.cell? ⟨g, 1, none⟩ = some (.int .i64 10) := c1
      clear e1 e2 e3 h3 c1
      go_enter Tryd.func50, Tryd.ntmps50
      go_wp2
      go_ret
      first
        | exact ⟨none, 0, rfl, Row.nil _ _ _, Nat.le_refl _, Nat.zero_le _, ⟨h1, h2, A, c, g0.out, h4, h5, h6⟩, Chg.refl _ _⟩
        | exact ⟨none, 0, rfl, Row.nil _ _ _, Nat.zero_le _, ⟨h1, h2, A, c, g0.out, h4, h5, h6⟩, Chg.refl _ _⟩
    | false =>
      have e1 : cutE n l false = false := cutE_no (by omega)
      have e2 : cutL n l false = l.take n := by unfold cutL; rw [e1]; rfl
      have e3 : cutR n l false = l.drop n := by unfold cutR; rw [e1]; rfl
      rw [e1, e2, e3]
      have c1' : w.cell? ⟨g, 1, none⟩ = some (.int .i64 0) := c1
      have hfz := block_frozen h3 0
      have hS := hid (block_set h3 0 (.slice (cutA A c n 1) (l.length - n) (c - n)))
      have hC := hid (chg_cells g 0 [.slice (cutA A c n 1) (l.length - n) (c - n)] w)
      have hu1 := fun W => run_upto slotU8k A l.length c n (by omega) W
      have hu2 := fun W => run_from slotU8k A l.length c n (by omega) W
      have l1 := hid (show (l.take n).length = n by rw [List.length_take]; omega)
      have l2 := hid (show (l.drop n).length = l.length - n from List.length_drop ..)
      have R1 := hid (show Row (fun x => x ≠ g ∧ x < B) w A (l.take n) from h6.take n)
      have R2 := hid (show Row (fun x => x ≠ g ∧ x < B) w (cutA A c n 1) (l.drop n) from h6.cutA n c (by omega) h4)
      clear e1 e2 e3 h3 c1
      generalize l.take n = p at *
      generalize l.drop n = q at *
      go_enter Tryd.func50, Tryd.ntmps50
      go_wp2
      go_ret
      refine ⟨A, c, by rw [l1.out]; rfl, R1.out.chg hC.out (fun x hx _ e => hx.1 e), by rw [l1.out]; omega, h5, RdrAt.chg (A := cutA A c n 1) (c := c - n) h1 h2 R2.out (by rw [l2.out]; omega) (by omega) hC.out (by rw [l2.out]; exact hS.out), hC.out⟩
theorem endsE_any (B g : Nat) (l : List UInt8) (b : Bool) (w : World) (h : RdrAt B w g l b) :
    Calls Tryd.prog 27 #[.pointer (some ⟨g, 0, none⟩)] w fun e w' => e = .returned (.int .i64 (if b = true then 10 else endE l)) ∧ w' = w := by
  obtain ⟨h1, h2, A, c, h3, h4, h5, h6⟩ := h
  have c0 : w.cell? ⟨g, 0, none⟩ = some (.slice A l.length c) := by rw [block_cell h3]; rfl
  have c1 : w.cell? ⟨g, 1, none⟩ = some (.int .i64 (eI b)) := by rw [block_cell h3]; rfl
  have hE := hid (End_is A l.length c l (endE l) w rfl rfl)
  generalize endE l = ee at *
  clear h3 h6
  cases b with
  | true =>
    have c1' : w.cell? ⟨g, 1, none⟩ = some (.int .i64 10) := c1
    clear c1
    go_enter Tryd.func27, Tryd.ntmps27
    go_wp2
    go_ret
    first | exact ⟨rfl, rfl⟩ | rfl
  | false =>
    have c1' : w.cell? ⟨g, 1, none⟩ = some (.int .i64 0) := c1
    clear c1
    go_enter Tryd.func27, Tryd.ntmps27
    go_wp2_with fail
    refine hE.out.mono ?_
    rintro e w' ⟨rfl, rfl⟩
    go_wp2
    go_ret
    first | exact ⟨rfl, rfl⟩ | rfl
theorem takeN_8 (l : List UInt8) (b : Bool) : takeN (cutL 8 l b) 8 = nuS l b := by
  have hl := cutL_len 8 l b
  cases h : cutE 8 l b
  · rw [h] at hl
    simp only [Bool.false_eq_true, if_false] at hl
    have e0 : nuS l b = num (l.take 8) := by unfold nuS; rw [h]; rfl
    have e1 : (cutL 8 l b).take (8 : Int).toNat = l.take 8 := by
      have : cutL 8 l b = l.take 8 := by unfold cutL; rw [h]; rfl
      rw [this]
      exact List.take_of_length_le (by rw [List.length_take]; show _ ≤ 8; omega)
    have e2 : takeE (cutL 8 l b) 8 = 0 := by unfold takeE; rw [if_pos (by decide), if_neg (by omega)]
    unfold takeN
    rw [if_pos e2, e1, e0]
  · rw [h] at hl
    simp only [if_true] at hl
    have e0 : nuS l b = 0 := by unfold nuS; rw [h]; rfl
    have e2 : takeE (cutL 8 l b) 8 = 10 := by unfold takeE; rw [if_pos (by decide), if_pos (by omega)]
    unfold takeN
    rw [if_neg (by rw [e2]; decide), e0]
set_option maxHeartbeats 1000000 in
theorem PTxRdNum_any (B g : Nat) (l : List UInt8) (b : Bool) (w : World) (h : RdrAt B w g l b) :
    Calls Tryd.prog 41 #[.pointer (some ⟨g, 0, none⟩)] w fun e w' => e = .returned (.int .u64 (nuS l b : Int)) ∧ RdrAt B w' g (cutR 8 l b) (cutE 8 l b) ∧ Chg (fun x => x = g) w w' := by
  have hC := hid (PTxCut_any B g 8 l b w h (by decide))
  have hl := cutL_len 8 l b
  have hm : (cutL 8 l b).length ≤ 8 := by rw [hl]; split <;> omega
  have hT := hid (fun (A : Option Addr) (c : Nat) (W : World) (hr : Row (fun x => x ≠ g ∧ x < B) W A (cutL 8 l b)) (h1 : (cutL 8 l b).length ≤ c) (h2 : c ≤ maxLen) => Take_any A (cutL 8 l b).length c (cutL 8 l b) 8 W hr.rd rfl h1 (by unfold maxLen at h2; omega) (by omega))
  rw [takeN_8] at hT
  generalize nuS l b = nn at *
  generalize cutR 8 l b = lr at *
  generalize cutE 8 l b = br at *
  generalize cutL 8 l b = p at *
  generalize takeR p 8 = tr at *
  generalize takeE p 8 = te at *
  clear hl h
  replace hm := hid hm
  go_enter Tryd.func41, Tryd.ntmps41
  go_wp2_with fail
  refine hC.out.mono ?_
  rintro e w1 ⟨A1, c1, rfl, R1, k1, k2, D1, X1⟩
  have T1 := hid (hT.out A1 c1 w1 R1 k1 k2)
  replace D1 := hid D1
  replace X1 := hid X1
  clear R1 k1 k2
  go_wp2_with fail
  refine T1.out.mono ?_
  rintro e w2 ⟨A2, c2, rfl, -, hb⟩
  have D2 := hid (D1.out.bel (hb.mono D1.out.1))
  have X2 := hid (X1.out.trans (Chg.of_bel hb))
  clear hb D1 X1
  go_wp2
  go_ret
  exact ⟨rfl, D2.out, X2.out⟩
theorem dgS_splice (l : List UInt8) (b : Bool) : splice z32.toList 0 ((cutL 32 l b).map bv) = (dgS l b).1.map bv := by
  have hl := cutL_len 32 l b
  have hz : z32.toList = (List.replicate 32 (0 : UInt8)).map bv := rfl
  have hzl : z32.toList.length = 32 := rfl
  unfold splice dgS
  cases h : cutE 32 l b
  · rw [h] at hl
    simp only [Bool.false_eq_true, if_false] at hl ⊢
    have e1 : cutL 32 l b = l.take 32 := by unfold cutL; rw [h]; rfl
    have e2 : 32 ≤ l.length := by rw [e1, List.length_take] at hl; omega
    rw [List.take_zero, List.nil_append, List.drop_of_length_le (by rw [hzl, List.length_map, hl]; exact Nat.le_refl _), List.append_nil, e1, dgAt_val (by omega), List.drop_zero]
  · rw [h] at hl
    simp only [if_true] at hl ⊢
    rw [List.eq_nil_of_length_eq_zero hl]
    simp only [List.map_nil, List.take_zero, List.nil_append, List.length_nil, Nat.add_zero, List.drop_zero]
    exact hz
set_option maxHeartbeats 1000000 in
theorem PTxRdDig_any (B g : Nat) (l : List UInt8) (b : Bool) (w : World) (h : RdrAt B w g l b) :
    Calls Tryd.prog 40 #[.pointer (some ⟨g, 0, none⟩)] w fun e w' => e = .returned (.agg ((dgS l b).1.map bv).toArray) ∧ RdrAt B w' g (cutR 32 l b) (cutE 32 l b) ∧ Chg (fun x => x = g) w w' := by
  have hu := Tryd.underlying23
  have h0 := heap_alloc_new w (.cells z32 23)
  have b0 := ext_alloc w (.cells z32 23)
  have h1 := heap_alloc_new (w.alloc (.cells z32 23)) (.cells z32 23)
  have b1 := ext_alloc (w.alloc (.cells z32 23)) (.cells z32 23)
  rw [World.size_alloc] at h1
  replace h0 := hid ((b1.block _ (block_lt h0)).trans h0)
  have W1 := hid (b0.trans (b1.mono b0.size))
  replace h1 := hid h1
  have hg := hid (show g < w.heap.size from Nat.lt_of_lt_of_le h.2.1 h.1)
  have hC := hid (fun W (hb : Below (w.heap.size + 1 + 1) ((w.alloc (.cells z32 23)).alloc (.cells z32 23)) W) => PTxCut_any B g 32 l b W ((h.bel (W1.out.mono h.1)).bel (hb.mono (Nat.le_trans h.1 (by omega)))) (by decide))
  have sz1 := hid (show ((w.alloc (.cells z32 23)).alloc (.cells z32 23)).heap.size = w.heap.size + 1 + 1 by rw [World.size_alloc, World.size_alloc])
  have hBs := hid h.1
  have hcl := hid (show ((cutL 32 l b).map bv).length = Nat.min (cutL 32 l b).length 32 from by rw [List.length_map, cutL_len]; split <;> rfl)
  have hcl2 := hid (show 0 + ((cutL 32 l b).map bv).length ≤ z32.toList.length from by rw [List.length_map, cutL_len]; split <;> decide)
  have hone := hid (bvs_one (cutL 32 l b))
  have hsp := hid (dgS_splice l b)
  have hsz : (Tryd.prog.info? 5).map (·.size) = some 1 := by kernel_rfl
  have hsl := run_all32P
  have js := hid (sizeDxL (dgS l b))
  have jz := hid (sizeDx (dgS l b))
  have ez := hid (zDx (dgS l b))
  have oz := hid (oneDx (dgS l b))
  clear h b0 b1
  generalize (dgS l b).1.map bv = cd at *
  generalize cutR 32 l b = lr at *
  generalize cutE 32 l b = br at *
  generalize cutL 32 l b = p at *
  go_enter Tryd.func40, Tryd.ntmps40
  go_wp2_with (first
    | (with_reducible refine wpList_alloc_row rfl 23 rfl z32 info32 ?_))
  simp only [World.size_alloc]
  generalize (w.alloc (.cells z32 23)).alloc (.cells z32 23) = w2 at *
  have W2 := hid (below_drewN (Below.refl (w.heap.size + 1 + 1) w2) 1)
  refine wp_region_noPanic ?_
  refine wp_region_held_drew (S := fun _ => True) (by kernel_rfl) ?_ (fun hHeld => ?_)
  · exact trivial
  refine' wpAnyH_take (i := 0) (oi := _) (v := ?_) rfl (by kernel_rfl) (by kernel_rfl) (by kernel_rfl) (fun _ _ _ h => h) (Or.inl ⟨by rfl, ?_⟩) (by assumption) ?_
  rotate_left
  · intro W hSw
    go_simp
    first | done | (with_reducible rfl)
  try simp only [Act.put, sQa, sQb, sQc, gQa, gQb, gQc]
  refine' wpAnyH_take (i := 1) (oi := _) (v := ?_) rfl (by kernel_rfl) (by kernel_rfl) (by kernel_rfl) (fun _ _ _ h => h) (Or.inl ⟨by rfl, ?_⟩) (by assumption) ?_
  rotate_left
  · intro W hSw
    go_simp
    first | done | (with_reducible rfl)
  try simp only [Act.put, sQa, sQb, sQc, gQa, gQb, gQc]
  refine wpAnyH_ready (rs := [2]) (by kernel_rfl) (by simp) ?_
  refine AllReadyH.cons (o := _) rfl (fun K hK => ?_) AllReadyH.nil
  go_simp
  refine (hC.out _ W2.out).mono ?_
  rintro e v1 ⟨A1, c1, rfl, R1, k1, k2, D1, X1⟩
  have h0' := hid ((X1.block _ (by show w.heap.size < w2.heap.size; rw [sz1.out]; omega) (by have := hg.out; omega)).trans h0.out)
  have h1' := hid ((X1.block _ (by show w.heap.size + 1 < w2.heap.size; rw [sz1.out]; omega) (by have := hg.out; omega)).trans h1.out)
  go_wp2_with fail
  refine hK.out _ _ ?_ (fun hHeld => ?_)
  · exact trivial
  clear hK K
  try simp only [Act.put, sQa, sQb, sQc, gQa, gQb, gQc]
  refine wpAnyH_ready (rs := [3]) (by kernel_rfl) (by simp) ?_
  refine AllReadyH.cons (o := _) rfl (fun K hK => ?_) AllReadyH.nil
  refine step_copy_splice rfl (.tmp 4) (.tmp 6) 30 30 rfl 5 Tryd.underlying30 hsz _ _ _ _ _ _ rfl rfl (w.heap.size + 1) 0 z32.toList 23 h1'.out (p.map bv) hcl.out (fun hp => ⟨rfl, R1.rd.src hp⟩) hcl2.out hone.out (w.heap.size + 1) _ (Below.refl _ _) (Nat.le_refl _) ?_
  intro w4 hg4 hb4
  refine hK.out _ _ ?_ (fun hHeld => ?_)
  · exact trivial
  clear hK K
  try simp only [Act.put, sQa, sQb, sQc, gQa, gQb, gQc]
  refine wpAnyH_done (by kernel_rfl) ?_ _
  refine NoPanic.normal ?_
  rw [hsp.out] at hg4
  have h4 := hid ((hb4.block _ (Nat.lt_succ_self _)).trans h0'.out)
  have q4 := hid (rangeOf hg4.out)
  have D4 := hid (D1.bel (hb4.mono (by have := hBs.out; omega)))
  have B4 := hid (hb4.mono (Nat.le_succ _))
  have X0 := hid ((Chg.of_bel (F := fun x => x = g) W1.out).trans (Chg.of_bel (bel_drew w2)))
  have X4 : Hid (Chg (fun x => x = g ∨ w.heap.size ≤ x) w w4) := hid (((X0.out.trans X1).mono (fun _ _ h => .inl h)).trans ⟨hb4.os, hb4.tape, hb4.output, by have := hb4.size; exact this, fun x hx hn => hb4.block x (by omega)⟩)
  clear hg4 hb4 X1 D1 R1 k1 k2 h1' h0' X0 hHeld
  go_wp2_with (first
    | ((with_reducible refine wpList_load_rng rfl 23 (.tmp 3) rfl (w.heap.size + 1) 0 rfl cd _ ?_ hu rfl js.out ?_); exact q4.out)
    | ((with_reducible refine wpList_store_row rfl 23 (.tmp 2) (.tmp 8) rfl w.heap.size _ rfl rfl 23 z32 ?_ ?_ ?_ ?_ ?_); exact h4.out; exact jz.out; exact ez.out; exact oz.out; intro w6 hg6 hb6 hs6))
  refine bodyPost_ret (v := .agg cd.toArray) ?_ rfl ⟨rfl, ?_, ?_⟩
  · exact results_cell_row Tryd.results40 _ _ w.heap.size 23 _ (0, 0) _ rfl hg6 hu rfl jz.out
  · exact D4.out.bel ((Below.refl B w4).grown hb6 D4.out.1 (fun k e => by injection e with e; have := hBs.out; omega))
  · refine Chg.mono (F := fun x => x = g ∨ w.heap.size ≤ x) (X4.out.trans ⟨hb6.os, hb6.tape, hb6.output, hb6.size, fun x hx hn => hb6.block x hx (fun e => hn (.inr (by injection e with e; omega)))⟩) (fun x hx h => ?_)
    rcases h with h | h
    · exact h
    · omega
end Go.Proofs.YtaegdiggmgifiaaDoor
