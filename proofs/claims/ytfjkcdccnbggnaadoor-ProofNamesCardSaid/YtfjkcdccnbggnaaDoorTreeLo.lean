/-
  Contracts of the landed package tree: Twin.
-/
import Derived.Test.YtfjkcdccnbggnaaDoorTrA
import Derived.Test.YtfjkcdccnbggnaaDoorRowSet
namespace Go.Proofs.YtfjkcdccnbggnaaDoor
open Go.RowKit
set_option linter.unusedVariables false
set_option linter.unusedSimpArgs false
set_option maxRecDepth 100000

theorem RowO.there {α : Type} [Enc α] {E : TypeId} {F : Nat → Prop} {w : World} {B c g : Nat} {xs : List α} (h : RowO E F w B (some ⟨g, 0, none⟩) c xs) {j : Nat} (hj : j < xs.length) : w.there g (j * Enc.size α) (Enc.size α) := by
  obtain ⟨css, h1, ⟨h0, h2⟩, h3, h4⟩ := h
  rcases h2 with ⟨hv, _⟩ | ⟨g', cap, cur, hv, hbg, hg, hnc, hcm, hcs, ht⟩
  · injection hv with e; cases e
  · injection hv with e1 e2 e3
    injection e1 with e1
    injection e1 with e1
    subst e1 e3
    intro i hi
    have hle : j * Enc.size α + Enc.size α ≤ c * Enc.size α := by
      rw [← Nat.succ_mul]
      exact Nat.mul_le_mul_right _ (Nat.lt_of_lt_of_le hj hnc)
    refine ⟨?_, block_frozen hg _⟩
    rw [block_cell hg, Array.getElem?_eq_getElem (by omega)]
    rfl
theorem rep_nd_ownP {E : TypeId} {w : World} {B : Nat} (x : Nd) {A : Option Addr} {c : Nat} (h : Own E w B A c x.v) (h4 : I64 x.l) (h5 : I64 x.r) : Enc.rep (fun b => ∃ a, A = some a ∧ b = a.block) w x (ndC x A c) :=
  rep_nd_mk x A c h.cap.1 h.cap.2 (h.rd.row fun a ha _ => ⟨a, ha, rfl⟩) h4 h5
theorem boxesTTP (w : World) (A : Option Addr) (n c : Nat) (root : Int) :
    BoxT ((w.alloc (.cells #[.slice A n c, .int .i64 root] 44)).alloc (.cells zTrC 44)) w.heap.size A n c root ∧
    ((w.alloc (.cells #[.slice A n c, .int .i64 root] 44)).alloc (.cells zTrC 44)).heap[w.heap.size + 1]? = some (.cells zTrC 44) ∧
    Below w.heap.size w ((w.alloc (.cells #[.slice A n c, .int .i64 root] 44)).alloc (.cells zTrC 44)) ∧
    ((w.alloc (.cells #[.slice A n c, .int .i64 root] 44)).alloc (.cells zTrC 44)).heap.size = w.heap.size + 2 := by
  have h2 := heap_alloc_new (w.alloc (.cells #[.slice A n c, .int .i64 root] 44)) (.cells zTrC 44)
  rw [World.size_alloc] at h2
  exact ⟨(BoxT.new w A n c root _).bel (ext_alloc _ _), h2, ext_trans (ext_alloc _ _) (ext_alloc _ _), by simp⟩
theorem one_trP (A : Option Addr) (n c : Nat) (root : Int) : (#[Value.slice A n c, .int .i64 root] : Array Value).all (·.oneCell') = true := all_oneCell_toArray (cs := [Value.slice A n c, .int .i64 root]) fun u hu => by
  simp at hu
  rcases hu with rfl | rfl <;> rfl
theorem built_trP (A : Option Addr) (n c : Nat) (root : Int) : Tryd.prog.built 44 [(0, .slice A n c), (1, .int .i64 root)] = some #[Value.slice A n c, .int .i64 root] := by kernel_rfl
theorem set_take {ns : List Nd} {j : Nat} (h : j < ns.length) : (ns.take j ++ List.replicate (ns.length - j) nd0).set j ns[j] = ns.take (j + 1) ++ List.replicate (ns.length - (j + 1)) nd0 := by
  have hl : (ns.take j).length = j := by rw [List.length_take]; omega
  rw [List.set_append_right _ _ (by omega), hl, Nat.sub_self, List.take_succ_eq_append_getElem h]
  obtain ⟨m, hm⟩ : ∃ m, ns.length - j = m + 1 := ⟨ns.length - j - 1, by omega⟩
  rw [hm, List.replicate_succ, List.set_cons_zero, show ns.length - (j + 1) = m by omega, List.append_assoc]
  rfl

theorem OwnQ.keptAtP {α : Type} [Enc α] {E : TypeId} {w w' : World} {B0 B g : Nat} {A : Option Addr} {c : Nat} {xs : List α} (h : OwnQ E w B0 B A c xs) (hg : w.grownBy w' (some g)) (h0 : g < B0) (h1 : g < B) : OwnQ E w' B0 B A c xs := by
  have hb := h.blk
  obtain ⟨F, k1, k2⟩ := h
  refine ⟨F, k1.kept (fun a ha hl => hg.block _ hl fun e => ?_) (fun b hf hl => hg.block b hl fun e => ?_), fun b hf => ⟨(k2 b hf).1, (k2 b hf).2.kept (hg.block b (k2 b hf).2.lt fun e => ?_)⟩⟩
  · have := (hb a ha).1; injection e with e; omega
  · have := (k2 b hf).1; injection e with e; omega
  · have := (k2 b hf).1; injection e with e; omega
theorem there_eq {w : World} {g o n : Nat} {l : List Value} (h : w.there g o n) (e : l.length = n) : w.there g o l.toArray.size := by
  subst e
  exact h
theorem below_none {w w1 : World} (h : w.grownBy w1 none) : Below w.heap.size w w1 := ⟨h.os, h.tape, h.output, h.size, fun b hb => h.block b hb (fun e => by cases e)⟩
set_option maxHeartbeats 2000000 in
theorem PTTwin_any (F : Nat → Prop) (A : Option Addr) (c : Nat) (ns : List Nd) (root : Int) (w : World) (hr : Row F w A ns) (hc : ns.length ≤ 1000000) (hv : ∀ x ∈ ns, x.v.length ≤ 1000000) :
    Calls Tryd.prog 51 #[.agg #[.slice A ns.length c, .int .i64 root]] w fun e w' => ∃ A' c', e = .returned (.agg #[.slice A' ns.length c', .int .i64 root]) ∧ OwnR 50 w' w.heap.size A' c' ns ∧ Below w.heap.size w w' := by
  obtain ⟨T0, h1, W0, hsz⟩ := boxesTTP w A ns.length c root
  have hr0 := (hr.mono (G := fun b => b < w.heap.size) fun b _ h => h).bel W0
  have hun := Tryd.underlying50
  have hut := Tryd.underlying44
  obtain ⟨iN, hiN, hzN, hsN, hbN⟩ := info_parts slotNd.info
  have hbu := fun A' c' => built_trP A' ns.length c' root
  have y0 := T0.ns
  replace hbu := hid hbu
  replace h1 := hid h1
  replace hsz := hid hsz
  replace hr0 := hid hr0
  replace hv := hid hv
  replace hiN := hid hiN
  replace hzN := hid hzN
  replace hsN := hid hsN
  replace hbN := hid hbN
  have hcs : IntKind.i64.wrap (ns.length : Int) = ns.length := by rw [IntKind.wrap_i64]; omega
  replace hcs := hid hcs
  go_enter Tryd.func51, Tryd.ntmps51
  go_wp2_with (first
    | (with_reducible refine wpList_alloc_row rfl 44 rfl zTrC zInfoTr ?_)
    | ((with_reducible refine wpList_make_full _ rfl (.tmp 8) (.tmp 8) 42 rfl (w.heap.size + 1 + 1) 50 iN zNd (Enc.size Nd) ?_ hiN.out hzN.out hsN.out .i64 .i64 _ _ ns.length rfl rfl rfl rfl ?_ ?_ ?_ ?_); exact slotNd.under; (rw [hbN.out]; omega); (unfold maxLen; omega); exact Nat.le_of_eq hsz.out.symm; intro w1 ho1 hg1; have B1 := below_none hg1; have T1 := T0.bel B1; have y1 := T1.ns; have r1 := hid (hr0.out.bel B1); have z1 := hid ((B1.block _ (block_lt h1.out)).trans h1.out); have W1 := hid (W0.trans (B1.mono W0.size)); have O1 := hid ho1; clear ho1 hg1 B1))
  simp only [World.size_alloc] at O1
  have M1 := hid (RowO.made (F := fun _ => False) (B := w.heap.size + 1 + 1) (x0 := nd0) (z := ndC nd0 none 0) (rep_nd_mk nd0 none 0 (Nat.le_refl _) (Nat.zero_le _) (Row.nil _ _ _) ⟨by decide, by decide⟩ ⟨by decide, by decide⟩) slotNd.pos O1.out (fun h => h))
  have lt1 := hid (show w.heap.size + 1 + 1 < w1.heap.size from (O1.out.lt _ rfl).2)
  clear O1 T0 y0 hr0 h1 hsz hiN hzN hsN hbN W0
  go_loopw [13] (fun i wr => ∃ j : Nat, j ≤ ns.length ∧ i = .int .i64 j ∧ (∃ F, RowO 50 F wr (w.heap.size + 1 + 1) (some ⟨w.heap.size + 1 + 1, 0, none⟩) ns.length (ns.take j ++ List.replicate (ns.length - j) nd0) ∧ ∀ b, F b → w.heap.size + 1 + 1 + 1 ≤ b ∧ Soft wr b) ∧ Below (w.heap.size + 1 + 1) w1 wr) (fun i _ => ns.length - (intOf i).toNat)
  case atStart => exact ⟨0, Nat.zero_le _, rfl, ⟨fun _ => False, by simpa using M1.out, fun b (h : False) => h.elim⟩, Below.refl _ _⟩
  case round =>
    obtain ⟨j, hj, rfl, ⟨F0, hown, hFs⟩, hbw⟩ := hrel
    have T2 := BoxT.of (rangeAt_kept T1.all (fun _ => hbw.block _ (by omega)))
    have r2 := r1.out.kept (fun b hb _ => hbw.block b (by omega)) hbw.size
    have y2 := T2.ns
    have y3 := T2.rt
    have hbs := hid hbw.size
    by_cases hlt : j < ns.length
    · have hv1 := hv.out _ (List.getElem_mem hlt)
      have E := hid (set_take hlt)
      obtain ⟨q, o, hAe, A', c', hR, hv2, hv3, hv4, hI1, hI2⟩ := row_nd r2 hlt
      subst hAe
      have hiN := fun A2 c2 => hid (show (Tryd.prog.info? 50).map (·.size) = some (ndC ns[j] A2 c2).length by rw [len_nd]; exact sizeNd)
      have hiS := fun A2 c2 => hid (show (Tryd.prog.info? 50).map (·.size) = some (ndC ns[j] A2 c2).toArray.size by rw [List.size_toArray, len_nd]; exact sizeNd)
      have hzs := fun A2 c2 => hid (show zNdC.size = (ndC ns[j] A2 c2).toArray.size by rw [zSizeNd, List.size_toArray, len_nd])
      have hone := fun A2 c2 => hid (one_nd ns[j] A2 c2)
      have hlen := fun A2 c2 => hid (len_nd ns[j] A2 c2)
      have hz9 := hid (heap_alloc_new wr (.cells zNdC 50))
      have hrd := hid hv4.rd
      have hrn := hid (fun (W : World) (A2 : Option Addr) (c2 B : Nat) (h : Own 5 W B A2 c2 ns[j].v) => rep_nd_ownP ns[j] h hI1 hI2)
      have hTw := hid (fun W (hW : Rd W A' ns[j].v) => PTwinNode_any ns[j] A' c' W hW hv1)
      have hjl : j < (ns.take j ++ List.replicate (ns.length - j) nd0).length := by simp; omega
      generalize hy : ns.take (j + 1) ++ List.replicate (ns.length - (j + 1)) nd0 = y at *
      generalize hx0 : ns.take j ++ List.replicate (ns.length - j) nd0 = x0 at *
      generalize hxx : ns[j] = x at *
      replace hy := hid hy
      replace hown := hid hown
      replace hFs := hid hFs
      replace hbw := hid hbw
      replace hR := hid hR
      replace hjl := hid hjl
      clear hx0 hxx hv4 hv2 hv3 r2 T2 hI1 hI2 hv1
      go_wp2_with (first
        | (with_reducible refine wpList_alloc_row rfl 50 rfl zNdC zInfoNd ?_)
        | ((with_reducible refine wpList_load_rng rfl 50 (.tmp 16) rfl q (o + j * 36) rfl (ndC x A' c') _ ?_ hun rfl (hiN A' c').out ?_); exact hR.out)
        | ((with_reducible refine wpList_store_row rfl 50 (.tmp 5) (.tmp 17) rfl _ _ rfl rfl 50 zNdC ?_ ?_ ?_ ?_ ?_); exact hz9.out; exact (hiS A' c').out; exact (hzs A' c').out; exact (hone A' c').out; intro w4 hg4 hb4 hs4; have X4 := hid (xnewP rfl hb4); have g4 := hid (rangeOf hg4); clear hg4 hb4 hs4)
        | ((with_reducible refine wpList_load_rng rfl 50 (.tmp 5) rfl wr.heap.size 0 rfl (ndC x A' c') _ ?_ hun rfl (hiN A' c').out ?_); exact g4.out))
      refine (hTw.out _ (hrd.out.bel X4.out)).mono ?_
      rintro e w5 ⟨A5, c5, rfl, ho5, hb5⟩
      have Wa := hid (X4.out.trans (hb5.mono X4.out.size))
      have own5 := hid (hown.out.bel Wa.out)
      have hbk := hid hown.out.blk
      have ap5 : ∀ a, A5 = some a → wr.heap.size ≤ a.block := fun a ha => Nat.le_trans X4.out.size (ho5.blk a ha).1
      have own6 := own5.out.mono (G := fun b => F0 b ∨ ∃ a, A5 = some a ∧ b = a.block) (fun b hb _ => .inl hb) (fun a ha hf => by
        rcases hf with hf | ⟨a5, h5, e5⟩
        · exact own5.out.apart a ha hf
        · have h7 := (hbk.out a ha).2
          have h8 := ap5 a5 h5
          omega)
      have th6 := hid (own6.there hjl.out)
      have rep6 := Enc.mono (G := fun b => F0 b ∨ ∃ a, A5 = some a ∧ b = a.block) (hrn.out _ A5 c5 _ ho5) (fun b hb _ => .inr hb)
      have own7 := hid (own6.set hjl.out rep6)
      have Fs7 := hid (fun b (hb : F0 b ∨ ∃ a, A5 = some a ∧ b = a.block) => (show w.heap.size + 1 + 1 + 1 ≤ b ∧ Soft (w5.setCells (w.heap.size + 1 + 1) (j * Enc.size Nd) (ndC x A5 c5)) b from by
        have hne : b ≠ w.heap.size + 1 + 1 := fun e => own6.apart _ rfl (by rw [← e]; exact hb)
        rcases hb with hb | ⟨a, ha, rfl⟩
        · exact ⟨(hFs.out b hb).1, ((hFs.out b hb).2.kept (Wa.out.block b (hFs.out b hb).2.lt)).kept (setCells_other hne _ _ _)⟩
        · exact ⟨by have := ap5 a ha; have := lt1.out; have := hbs.out; omega, ((ho5.soft a ha).2).kept (setCells_other hne _ _ _)⟩))
      have th7 := hid (there_eq (n := 36) th6.out ((hlen A5 c5).out))
      have W7 := hid (setCells_below (B := w.heap.size + 1 + 1) (Nat.le_refl _) (ndC x A5 c5) (j * Enc.size Nd) (hbw.out.trans (Wa.out.mono (by have := lt1.out; have := hbs.out; omega))))
      clear ho5 hb5 own5 own6 rep6 hown hTw hrd hR
      go_wp2_with (first
        | ((with_reducible refine wpList_store_mid rfl 50 (.tmp 22) (.tmp 21) rfl (w.heap.size + 1 + 1) (j * 36) (ndC x A5 c5).toArray rfl rfl ?_ ?_ ?_ ?_); exact th7.out; exact (hiS A5 c5).out; exact (hone A5 c5).out))
      go_roundw
      case rel => exact ⟨j + 1, by omega, by go_num, ⟨_, by rw [hy.out, ← E.out]; exact own7.out, Fs7.out⟩, W7.out⟩
      case measure => simp [intOf]; omega
    · obtain rfl : j = ns.length := by omega
      rw [List.take_length, Nat.sub_self, List.replicate_zero, List.append_nil] at hown
      have own8 := hid (show OwnQ 50 wr (w.heap.size + 1 + 1 + 1) (w.heap.size + 1 + 1) (some ⟨w.heap.size + 1 + 1, 0, none⟩) ns.length ns from ⟨F0, hown, hFs⟩)
      have z8 := hid ((hbw.block (w.heap.size + 1) (by omega)).trans z1.out)
      have W8 := hid (W1.out.trans (hbw.mono (by omega)))
      clear hown hFs
      go_wp2_with (first
        | ((with_reducible refine wpList_built rfl 44 _ rfl #[Value.slice (some ⟨w.heap.size + 1 + 1, 0, none⟩) ns.length ns.length, .int .i64 root] [(0, .slice (some ⟨w.heap.size + 1 + 1, 0, none⟩) ns.length ns.length), (1, .int .i64 root)] ?_ ?_ ?_); exact hbu.out _ _; rfl)
        | ((with_reducible refine wpList_store_row rfl 44 (.tmp 2) (.tmp 27) rfl (w.heap.size + 1) _ rfl rfl 44 zTrC ?_ ?_ ?_ ?_ ?_); exact z8.out; exact sizeTr; rfl; exact one_trP (some ⟨w.heap.size + 1 + 1, 0, none⟩) ns.length ns.length root; intro w9 hg9 hb9 hs9))
      refine bodyPost_ret (results_cell_row Tryd.results51 _ _ (w.heap.size + 1) 44 _ (0, 0) _ rfl hg9 hut rfl sizeTr) rfl ⟨some ⟨w.heap.size + 1 + 1, 0, none⟩, ns.length, rfl, ?_, W8.out.grown hb9 W8.out.size (fun g e => by injection e with e; omega)⟩
      exact OwnQ.base2 (OwnQ.keptAtP own8.out hb9 (by omega) (by omega)) (by omega) (by omega)
end Go.Proofs.YtfjkcdccnbggnaaDoor
