/-
  The document's answers of layer 7: Great, Twin.
-/
import Derived.Test.YtapnhdpgogfceaaGreatDoorPfM
import Derived.Test.YtapnhdpgogfceaaGreatDoorRf6
import Derived.Test.YtapnhdpgogfceaaGreatDoorBits
namespace Go.Proofs.YtapnhdpgogfceaaGreatDoor
open Go.RowKit
set_option linter.unusedVariables false
set_option linter.unusedSimpArgs false
set_option maxRecDepth 100000

theorem RPfGreat_is (x : Pf) (A : Option Addr) (c : Nat) (D : Option Addr) (d : Nat) (b : Bool) (w : World) (hb : (decide (100 < x.v.length) || decide (300 < x.ss.length)) = b) :
    Calls Tryz.prog 5 #[.agg (pfC x A c D d).toArray] w fun e w' => e = .returned (.bool b) ∧ Below w.heap.size w w' := by
  have W0 := ext_alloc w (.cells (pfC x A c D d).toArray 30)
  have B0 := BoxP.new w x A c D d 30
  have hv := B0.val
  have hs := B0.sd
  generalize x.v.length = n at *
  generalize x.ss.length = m at *
  generalize pfC x A c D d = cs at *
  clear B0
  by_cases h1 : 100 < n
  · rw [decide_eq_true h1, Bool.true_or] at hb
    subst hb
    have q1 : decide ((100 : Int) < (n : Int)) = true := decide_eq_true (by omega)
    clear h1
    go_enter Tryz.func5, Tryz.ntmps5
    go_wp2
    go_ret
    exact ⟨rfl, W0⟩
  · have q1 : decide ((100 : Int) < (n : Int)) = false := decide_eq_false (by omega)
    rw [decide_eq_false h1, Bool.false_or] at hb
    have q2 : decide ((300 : Int) < (m : Int)) = b := by rw [← hb]; by_cases h : 300 < m <;> simp [h] <;> omega
    clear h1 hb
    replace q2 := hid q2
    obtain ⟨b2, hb2⟩ : ∃ b2, decide ((300 : Int) < (m : Int)) = b2 := ⟨_, rfl⟩
    rw [hb2] at q2
    go_enter Tryz.func5, Tryz.ntmps5
    go_wp2
    go_ret
    exact ⟨ret_b (by first | exact q2.out | (rw [← q2.out, ← hb2]; simp)), W0⟩
set_option maxHeartbeats 2000000 in
theorem RPfTwin_any (F : Nat → Prop) (x : Pf) (A : Option Addr) (c : Nat) (D : Option Addr) (d : Nat) (w : World) (hr : Rd w A x.v) (hl : x.v.length ≤ 1000000) (hs : Row F w D x.ss) (hn : x.ss.length ≤ 1000000) :
    Calls Tryz.prog 7 #[.agg (pfC x A c D d).toArray] w fun e w' => ∃ A' c' D' d' M, e = .returned (.agg (pfC x A' c' D' d').toArray) ∧ Own 5 w' w.heap.size A' c' x.v ∧ OwnR 26 w' M D' d' x.ss ∧ w.heap.size ≤ M ∧ (∀ a, A' = some a → a.block < M) ∧ Below w.heap.size w w' := by
  have W0 := ext_trans (ext_alloc w (.cells (pfC x A c D d).toArray 30)) (ext_alloc _ (.cells zPfC 30))
  have b0 := (BoxP.new w x A c D d 30).bel (ext_alloc _ (.cells zPfC 30))
  have h0 := ((ext_alloc (w.alloc (.cells (pfC x A c D d).toArray 30)) (.cells zPfC 30)).block w.heap.size (by simp)).trans (heap_alloc_new w (.cells (pfC x A c D d).toArray 30))
  have h1 := heap_alloc_new (w.alloc (.cells (pfC x A c D d).toArray 30)) (.cells zPfC 30)
  rw [World.size_alloc] at h1
  have hr0 := hid (hr.bel W0)
  have hs0 := hid ((hs.mono (G := fun b => b < w.heap.size) fun b _ h => h).bel W0)
  have hsz : ((w.alloc (.cells (pfC x A c D d).toArray 30)).alloc (.cells zPfC 30)).heap.size = w.heap.size + 2 := by simp
  replace hsz := hid hsz
  have hy := b0.val
  have hSV := hid (fun A2 c2 => pf_setV x A A2 c c2 D d)
  have hSS := hid (fun A2 c2 D2 d2 => pf_setS x A2 c2 D D2 d d2)
  have hun := Tryz.underlying30
  have hiN := fun A2 c2 D2 d2 => hid (sizePfC x A2 c2 D2 d2)
  have hiS := fun A2 c2 D2 d2 => hid (sizePfS x A2 c2 D2 d2)
  have hzs := fun A2 c2 D2 d2 => hid (show zPfC.size = (pfC x A2 c2 D2 d2).toArray.size by rw [zSizePf, List.size_toArray, len_pf])
  have hone := fun A2 c2 D2 d2 => hid (one_pf x A2 c2 D2 d2)
  have hB := fun (W : World) (A2 : Option Addr) (c2 : Nat) (D2 : Option Addr) (d2 : Nat) (h : W.heap[w.heap.size]? = some (.cells (pfC x A2 c2 D2 d2).toArray 30 (0, 0))) => BoxP.heap h
  replace hB := hid hB
  replace h0 := hid h0
  replace h1 := hid h1
  clear hr hs b0
  go_enter Tryz.func7, Tryz.ntmps7
  go_wp2_with (first
    | (with_reducible refine wpList_alloc_row rfl 30 rfl zPfC zInfoPf ?_))
  generalize (w.alloc (.cells (pfC x A c D d).toArray 30)).alloc (.cells zPfC 30) = w0 at *
  refine (Twin_any A x.v.length c x.v _ hr0.out rfl (by omega)).mono ?_
  rintro e w1 ⟨A2, c2, rfl, ho, hb⟩
  have g0 := (hb.block _ (block_lt h0.out)).trans h0.out
  have hf := block_frozen g0 65
  have hc1 := (hb.cell (World.block_lt_of_cell? _ _ hy)).trans hy
  have g2 := block_set g0 65 (.slice A2 x.v.length c2)
  rw [hSV.out] at g2
  have B2 := hB.out _ _ _ _ _ g2
  have y2 := B2.sd
  have G2 := hid g2
  have lt0 := hid (block_lt h0.out)
  have lt1 := hid (block_lt h1.out)
  have W1 := hid ((W0.trans (hb.mono W0.size)).setCell (p := ⟨w.heap.size, 65, none⟩) (Nat.le_refl _) (.slice A2 x.v.length c2))
  have z2 := hid ((Below.heap_setCell w1 ⟨w.heap.size, 65, none⟩ (.slice A2 x.v.length c2) (w.heap.size + 1) (by simp)).trans ((hb.block _ (block_lt h1.out)).trans h1.out))
  have o2 : Hid (Own 5 (w1.setCell ⟨w.heap.size, 65, none⟩ (.slice A2 x.v.length c2)) w0.heap.size A2 c2 x.v) := hid (ownsRow_setCell_below ho (by rw [hsz.out]; simp) _)
  have r2 := hid ((hs0.out.bel hb).kept (w' := w1.setCell ⟨w.heap.size, 65, none⟩ (.slice A2 x.v.length c2)) (fun b hf _ => Below.heap_setCell _ _ _ _ (by simp; omega)) (by simp))
  have b1 := hid (fun a (ha : A2 = some a) => (o2.out.blk a ha).2)
  have v1 := hid (fun a (ha : A2 = some a) => (o2.out.blk a ha).1)
  have lt2 := hid (show w0.heap.size ≤ (w1.setCell ⟨w.heap.size, 65, none⟩ (.slice A2 x.v.length c2)).heap.size by simp; exact hb.size)
  clear g0 g2 h0 h1 hs0 hr0 hB B2 ho hb hSV
  have sr2 := hid (Src.dg (G := fun _ => False) r2.out.src)
  go_wp2_with (first
    | (at_builtin; refine wpList_appOwn slotDgP rfl (.tmp 8) (.tmp 10) rfl (w1.setCell ⟨w.heap.size, 65, none⟩ (.slice A2 x.v.length c2)).heap.size (w1.setCell ⟨w.heap.size, 65, none⟩ (.slice A2 x.v.length c2)).heap.size none D 0 _ 0 d [] x.ss (fun _ => False) rfl rfl rfl rfl (OwnR.nil _ _) sr2.out (fun b hb => hb.elim) (by simp; omega) (Nat.le_refl _) ?_; intro D3 d3 w3 ho3 hb3; rw [List.nil_append] at ho3 ⊢; have g3 := (hb3.block _ (block_lt G2.out)).trans G2.out; have hf3 := block_frozen g3 66; have y3 := (hb3.cell (World.block_lt_of_cell? _ _ y2)).trans y2; have g4 := block_set g3 66 (.slice D3 x.ss.length d3); rw [hSS.out] at g4; have s4 := hid (rangeOf g4); have z4 := hid ((Below.heap_setCell w3 ⟨w.heap.size, 66, none⟩ (.slice D3 x.ss.length d3) (w.heap.size + 1) (by simp)).trans ((hb3.block _ (block_lt z2.out)).trans z2.out)); have W4 := hid ((W1.out.trans (hb3.mono W1.out.size)).setCell (p := ⟨w.heap.size, 66, none⟩) (Nat.le_refl _) (.slice D3 x.ss.length d3)); have o4 : Hid (Own 5 (w3.setCell ⟨w.heap.size, 66, none⟩ (.slice D3 x.ss.length d3)) w0.heap.size A2 c2 x.v) := hid (ownsRow_setCell_below (o2.out.below hb3 (Nat.le_refl _)) (by rw [hsz.out]; simp) _); have q4 : Hid (OwnR 26 (w3.setCell ⟨w.heap.size, 66, none⟩ (.slice D3 x.ss.length d3)) (w1.setCell ⟨w.heap.size, 65, none⟩ (.slice A2 x.v.length c2)).heap.size D3 d3 x.ss) := hid (OwnQ.keptG (g := w.heap.size) ho3 (fun b hl hne => Below.heap_setCell _ _ _ _ hne) (by have := lt2.out; have := hsz.out; omega) (by have := lt2.out; have := hsz.out; omega)); clear g3 g4 G2 y2 ho3 hb3 o2 r2 W1 z2)
    | ((with_reducible refine wpList_load_rng rfl 30 (.tmp 1) rfl w.heap.size 0 rfl (pfC x A2 c2 D3 d3) _ ?_ hun rfl (hiN A2 c2 D3 d3).out ?_); exact s4.out)
    | ((with_reducible refine wpList_store_row rfl 30 (.tmp 2) (.tmp 13) rfl (w.heap.size + 1) _ rfl rfl 30 zPfC ?_ ?_ ?_ ?_ ?_); exact z4.out; exact (hiS A2 c2 D3 d3).out; exact (hzs A2 c2 D3 d3).out; exact (hone A2 c2 D3 d3).out; intro w4 hg4 hb4 hs4))
  refine bodyPost_ret (results_cell_row Tryz.results7 _ _ (w.heap.size + 1) 30 _ (0, 0) _ rfl hg4 hun rfl (hiS A2 c2 D3 d3).out) rfl ⟨A2, c2, D3, d3, (w1.setCell ⟨w.heap.size, 65, none⟩ (.slice A2 x.v.length c2)).heap.size, rfl, ?_, ?_, by have := lt2.out; have := hsz.out; omega, b1.out, W4.out.grown hb4 W4.out.size (fun g e => by injection e with e; omega)⟩
  · exact (o4.out.kept hb4 fun a ha e => by have := v1.out a ha; injection e with e; have := hsz.out; omega).base (by have := hsz.out; omega)
  · exact OwnQ.keptG (g := w.heap.size + 1) q4.out (fun b hl hne => hb4.block b hl fun e => hne (by injection e)) (by have := lt2.out; have := hsz.out; omega) (by have := lt2.out; have := hsz.out; omega)
end Go.Proofs.YtapnhdpgogfceaaGreatDoor
