/-
  The document's answers of layer 13: made, Fits; how great a list is, its twin.
-/
import Derived.Test.YtgmlmkhiflnhdaaDoorRef13b
import Derived.Test.YtgmlmkhiflnhdaaDoorTagX
namespace Go.Proofs.YtgmlmkhiflnhdaaDoor
open Go.RowKit
set_option linter.unusedVariables false
set_option linter.unusedSimpArgs false
set_option maxRecDepth 100000

theorem row_last {F : Nat → Prop} {w : World} {D : Option Addr} {ss : List Dg} (h : Row F w D ss) (hn : 0 < ss.length) : ∃ b o s, D = some ⟨b, o, none⟩ ∧ ss = ss.dropLast ++ [s] ∧ w.rangeAt b (o + (ss.length - 1) * 32) (s.1.map bv) := by
  obtain ⟨b, o, rfl, -, -, hc⟩ := h hn
  have hl : ss.length - 1 < ss.length := by omega
  obtain ⟨vs, hv, hcell⟩ := hc (ss.length - 1) ss[ss.length - 1] (List.getElem?_eq_getElem hl)
  refine ⟨b, o, ss[ss.length - 1], rfl, ?_, ?_⟩
  · rw [← List.getLast_eq_getElem (by intro h; rw [h] at hn; simp at hn)]
    exact (List.dropLast_concat_getLast _).symm
  · have : vs = ss[ss.length - 1].1.map bv := hv
    subst this
    exact hcell
def madeB (o : Option Dg) : Bool := o.isSome
def madeK (o : Option Dg) (dd : Dg) : Prop := ∀ y, o = some y → dd = y
/-- What made answers: whether sides fit in number, and then the root that they make. -/
def MadePost (o : Option Dg) (w : World) (e : Ending) (w' : World) : Prop := ∃ dd : Dg, e = .returned (.tuple #[.agg (dd.1.map bv).toArray, .bool (madeB o)]) ∧ madeK o dd ∧ Below w.heap.size w w'
set_option maxHeartbeats 8000000 in
theorem RMade_step (n i : Nat) (A : Option Addr) (c : Nat) (x : List UInt8) (F : Nat → Prop) (D : Option Addr) (d : Nat) (ss : List Dg) (w : World) (hi : i < n) (hn : n ≤ 1000)
    (hc : x.length ≤ c) (hm : c ≤ maxLen) (hx : x.length ≤ 5000)
    (ih : ∀ (n2 i2 : Nat) (A : Option Addr) (c : Nat) (D : Option Addr) (d : Nat) (rest : List Dg) (w : World), n2 < n → i2 < n2 → x.length ≤ c ∧ c ≤ maxLen → Rd w A x → Row F w D rest → rest.length ≤ d → rest.length ≤ 1000000 →
      Calls Tryd.prog 34 #[.int .i64 (n2 : Int), .int .i64 (i2 : Int), .slice A x.length c, .slice D rest.length d] w (MadePost (madeR n2 i2 x rest) w))
    (hr : Rd w A x) (hs : Row F w D ss) (hd : ss.length ≤ d) (hl : ss.length ≤ 1000000) :
    Calls Tryd.prog 34 #[.int .i64 (n : Int), .int .i64 (i : Int), .slice A x.length c, .slice D ss.length d] w (MadePost (madeR n i x ss) w) := by
  have hu := Tryd.underlying29
  have h0 := hid (heap_alloc_new w (.cells z32 29))
  have W0 := hid (ext_alloc w (.cells z32 29))
  by_cases hn1 : n = 1
  · subst hn1
    have hO := ROneD_any 7 A c x _ (hr.bel W0.out) ⟨hc, hm⟩ hx
    rw [show sha256 (tagB 7 [x]) = (leafR x).1 from rfl] at hO
    obtain ⟨eb, heb⟩ : ∃ b, ((ss.length : Int) == 0) = b := ⟨_, rfl⟩
    have hres : madeR 1 i x ss = if eb = true then some (leafR x) else none := by
      rw [madeR_one]
      have : ss = [] ↔ eb = true := by
        rw [← heb, beq_iff_eq]
        constructor
        · rintro rfl; rfl
        · intro h; exact List.eq_nil_of_length_eq_zero (by omega)
      by_cases h : ss = []
      · rw [if_pos h, if_pos (this.1 h)]
      · rw [if_neg h, if_neg fun q => h (this.2 q)]
    obtain ⟨mo, hmo⟩ : ∃ m, madeR 1 i x ss = m := ⟨_, rfl⟩
    rw [hmo] at hres ⊢
    have hB : madeB mo = eb := by rw [hres]; cases eb <;> rfl
    have hK : madeK mo (leafR x) := by
      unfold madeK
      intro y hy
      rw [hres] at hy
      cases eb with
      | false => cases hy
      | true => injection hy
    replace hB := hid hB
    replace hK := hid hK
    have z1 : (((leafR x).1.map bv).toArray).size = 32 := by simp [(leafR x).2]
    have o1 := bvs_all (leafR x).1
    replace hO := hid hO
    clear ih hres hr hs hmo
    generalize leafR x = lf at *
    go_enter Tryd.func34, Tryd.ntmps34
    go_wp2_with (first
      | (with_reducible refine wpList_alloc_row rfl 29 rfl z32 info32 ?_))
    refine hO.out.mono ?_
    rintro e w1 ⟨rfl, hb⟩
    have R1 := hid ((hb.block _ (block_lt h0.out)).trans h0.out)
    have W1 := hid (W0.out.trans (hb.mono W0.out.size))
    clear hb
    go_wp2_with (first
      | ((with_reducible refine wpList_store_row rfl 29 (.tmp 8) (.tmp 20) rfl w.heap.size _ rfl rfl 29 z32 ?_ ?_ ?_ ?_ ?_); exact R1.out; (rw [z1]; exact size32); (rw [z1]; exact z32_size); exact o1; intro w4 hg4 hb4 hs4))
    exact bodyPost_ret (res_dg rfl _ _ w.heap.size lf rfl hg4) rfl ⟨lf, by rw [hB.out]; rfl, hK.out, W1.out.grown hb4 W1.out.size (fun g e => by injection e with e; omega)⟩
  have hn2 : 2 ≤ n := by omega
  have q1 : ((n : Int) == 1) = false := by rw [beq_eq_false_iff_ne]; omega
  rcases Nat.eq_zero_or_pos ss.length with hz | hz
  · obtain rfl : ss = [] := List.eq_nil_of_length_eq_zero hz
    rw [madeR_nil hn2]
    have hbz := hid built_dgz
    have oz : z32.all (·.oneCell') = true := bvs_all (List.replicate 32 0)
    clear ih
    go_enter Tryd.func34, Tryd.ntmps34
    go_wp2_with (first
      | (with_reducible refine wpList_alloc_row rfl 29 rfl z32 info32 ?_)
      | ((with_reducible refine wpList_built rfl 29 _ rfl z32 [] ?_ ?_ ?_); exact hbz.out; rfl)
      | ((with_reducible refine wpList_store_row rfl 29 (.tmp 8) (.tmp 27) rfl w.heap.size _ rfl rfl 29 z32 ?_ ?_ ?_ ?_ ?_); exact h0.out; (rw [z32_size]; exact size32); rfl; exact oz; intro w4 hg4 hb4 hs4))
    exact bodyPost_ret (res_dg rfl _ _ w.heap.size z0R rfl hg4) rfl ⟨z0R, rfl, (fun y hy => by cases hy), W0.out.grown hb4 W0.out.size (fun g e => by injection e with e; omega)⟩
  have q2 : ((ss.length : Int) == 0) = false := by rw [beq_eq_false_iff_ne]; omega
  have hw0 : IntKind.i64.wrap ((ss.length : Int) - 1) = ((ss.length - 1 : Nat) : Int) := by rw [IntWalk.i64_in _ (by omega)]; omega
  have f1 := firstN_pos n
  have f2 := firstN_lt hn2
  have hF := hid (fun W => RFirst13_any n W hn2 (by omega))
  have su := fun W => run_upto slotDg13 D ss.length d (ss.length - 1) (by omega) W
  have hrest := hid (fun W (h : Row F W D ss) => (show Row F W D ss.dropLast by rw [List.dropLast_eq_take]; exact h.take _))
  obtain ⟨b, o, s, rfl, hss, rs0⟩ := row_last hs hz
  have rs := rangeBel2 W0.out rs0
  have sS := hid (sizeDg s)
  have zS : ((s.1.map bv).toArray).size = 32 := by simp [s.2]
  have oS := bvs_all s.1
  have e0 := heap_alloc_new (w.alloc (.cells z32 29)) (.cells z32 29)
  rw [World.size_alloc] at e0
  replace e0 := hid e0
  have hlz : ss.length - 1 < ss.length := by omega
  by_cases hif : i < firstN n
  · skip
    have hI := fun W (h1 : Rd W A x) (h2 : Row F W (some ⟨b, o, none⟩) ss.dropLast) => ih (firstN n) (i) A c (some ⟨b, o, none⟩) d ss.dropLast W (by omega) (by omega) ⟨hc, hm⟩ h1 h2 (by rw [List.length_dropLast]; omega) (by rw [List.length_dropLast]; omega)
    rw [List.length_dropLast] at hI
    have q3 : decide ((i : Int) < (firstN n : Int)) = true := decide_eq_true (by omega)
    obtain ⟨mo, hmo⟩ : ∃ m, madeR (firstN n) (i) x ss.dropLast = m := ⟨_, rfl⟩
    have hres : madeR n i x ss = mo.map fun d => forkR d s := by
      rw [hss, madeR_left hn2 hif, hmo]
    rw [hmo] at hI
    rw [hres]
    clear ih hres hmo hss
    replace hI := hid hI
    replace rs := hid rs
    generalize hln : ss.length - 1 = ln at *
    generalize ss.dropLast = rest at *
    go_enter Tryd.func34, Tryd.ntmps34
    go_wp2_with (first
      | (with_reducible refine wpList_alloc_row rfl 29 rfl z32 info32 ?_)
      | ((with_reducible refine wpList_load_rng rfl 29 (.tmp 32) rfl b (o + ln * 32) rfl (s.1.map bv) _ ?_ hu rfl sS.out ?_); exact rs.out)
      | ((with_reducible refine wpList_store_row rfl 29 (.tmp 10) (.tmp 33) rfl _ _ rfl rfl 29 z32 ?_ ?_ ?_ ?_ ?_); (first | exact e0.out | (rw [World.size_alloc]; exact e0.out)); (rw [zS]; exact size32); (rw [zS]; exact z32_size); exact oS; intro w1 hgS hbS hsS))
    have X1 := hid (xnewP rfl hbS)
    rw [World.size_alloc] at hgS
    have kS1 := hid hgS
    have W1 := hid (W0.out.trans (X1.out.mono W0.out.size))
    have R1 := hid ((X1.out.block _ (block_lt h0.out)).trans h0.out)
    have r1 := hid (hr.bel W1.out)
    have s1 := hid ((hs.bel W1.out))
    clear hgS hbS hsS
    refine (hF.out _).mono ?_
    rintro e w2 ⟨rfl, rfl⟩
    go_wp2_with fail
    refine (hI.out _ r1.out (hrest.out _ s1.out)).mono ?_
    rintro e w3 ⟨dd, rfl, hdd, hb⟩
    have zD : ((dd.1.map bv).toArray).size = 32 := by simp [dd.2]
    have oD := bvs_all dd.1
    have kS3 := hid ((hb.block _ (block_lt kS1.out)).trans kS1.out)
    have W3 := hid (W1.out.trans (hb.mono W1.out.size))
    have R3 := hid ((hb.block _ (block_lt R1.out)).trans R1.out)
    have e3 := hid (heap_alloc_new w3 (.cells z32 29))
    replace hdd := hid hdd
    clear hb kS1 R1 W1 X1 r1 s1 hI
    go_wp2_with (first
      | (with_reducible refine wpList_alloc_row rfl 29 rfl z32 info32 ?_)
      | ((with_reducible refine wpList_store_row rfl 29 (.tmp 13) (.tmp 50) rfl w3.heap.size _ rfl rfl 29 z32 ?_ ?_ ?_ ?_ ?_); exact e3.out; (rw [zD]; exact size32); (rw [zD]; exact z32_size); exact oD; intro w4 hgS hbS hsS))
    have X4 := hid (xnewP rfl hbS)
    have kD := hid (rd_blockP (l := dd.1) hgS)
    have kS := hid (rd_blockP (l := s.1) ((X4.out.block _ (block_lt kS3.out)).trans kS3.out))
    have W4 := hid (W3.out.trans (X4.out.mono W3.out.size))
    have R4 := hid ((X4.out.block _ (block_lt R3.out)).trans R3.out)
    have hT := hid (RTwo_any 8 (some ⟨w3.heap.size, 0, none⟩) (some ⟨(w.heap.size + 1), 0, none⟩) 32 32 dd.1 s.1 w4.drew kD.out kS.out ⟨by rw [dd.2]; exact Nat.le_refl _, by decide⟩ ⟨by rw [s.2]; exact Nat.le_refl _, by decide⟩ (fork_len dd s))
    have hfk : sha256 (tagB 8 [dd.1, s.1]) = (forkR dd s).1 := rfl
    rw [hfk, dd.2, s.2] at hT
    have zF : (((forkR dd s).1.map bv).toArray).size = 32 := by simp [(forkR dd s).2]
    have oF := bvs_all (forkR dd s).1
    replace hT := hid hT
    clear hgS hbS hsS hfk
    generalize hff : forkR dd s = ff at *
    replace hff := hid hff
    refine wp_region_noPanic ?_
    refine wp_region_held_drew (S := fun W' => Below w.heap.size w W') (by kernel_rfl) ?_ (fun hHeld => ?_)
    · exact W4.out.trans ((bel_drew w4).mono W4.out.size)
    refine' wpAnyH_take (i := 0) (oi := _) (v := _) rfl (by kernel_rfl) (by kernel_rfl) (by kernel_rfl) (fun _ _ _ h => h) (yieldsIf_slice (by rfl) _ _ _ _ _ rfl _ _ _ _ _ (fun W => run_all32P _ W) rfl rfl rfl rfl) (by assumption) ?_
    try simp only [Act.put, sQa, sQb, sQc, gQa, gQb, gQc]
    refine' wpAnyH_take (i := 1) (oi := _) (v := _) rfl (by kernel_rfl) (by kernel_rfl) (by kernel_rfl) (fun _ _ _ h => h) (yieldsIf_slice (by rfl) _ _ _ _ _ rfl _ _ _ _ _ (fun W => run_all32P _ W) rfl rfl rfl rfl) (by assumption) ?_
    try simp only [Act.put, sQa, sQb, sQc, gQa, gQb, gQc]
    refine' wpAnyH_take (i := 3) (oi := _) (v := ?_) rfl (by kernel_rfl) (by kernel_rfl) (by kernel_rfl) (fun _ _ _ h => h) (Or.inl ⟨by rfl, ?_⟩) (by assumption) ?_
    rotate_left
    · intro W hSw
      go_simp
      first | done | (with_reducible rfl)
    try simp only [Act.put, sQa, sQb, sQc, gQa, gQb, gQc]
    refine wpAnyH_ready (rs := [2]) (by kernel_rfl) (by simp) ?_
    refine AllReadyH.cons (o := _) rfl (fun K hK => ?_) AllReadyH.nil
    go_simp
    refine hT.out.out.mono ?_
    rintro e v5 ⟨rfl, hB⟩
    have R5 := hid ((hB.block _ (block_lt (show w4.drew.heap[w.heap.size]? = _ from R4.out))).trans R4.out)
    go_wp2_with fail
    refine hK.out _ _ ?_ (fun hHeld => ?_)
    · exact hHeld.trans (hB.mono hHeld.size)
    clear hK K
    try simp only [Act.put, sQa, sQb, sQc, gQa, gQb, gQc]
    refine wpAnyH_ready (rs := [4]) (by kernel_rfl) (by simp) ?_
    refine AllReadyH.cons (o := _) rfl (fun K hK => ?_) AllReadyH.nil
    refine step_store_rowT rfl 29 (.tmp 8) (.tmp 54) rfl w.heap.size _ rfl rfl 29 z32 R5.out (by rw [zF]; exact size32) (by rw [zF]; exact z32_size) oF ?_
    intro w6 d6 hG
    refine hK.out _ _ ?_ (fun hHeld => ?_)
    · exact hHeld.grown hG hHeld.size (fun g e => by injection e with e; omega)
    clear hK K
    try simp only [Act.put, sQa, sQb, sQc, gQa, gQb, gQc]
    refine' wpAnyH_take (i := 5) (oi := _) (v := ?_) rfl (by kernel_rfl) (by kernel_rfl) (by kernel_rfl) (fun _ _ _ h => h) (Or.inl ⟨by rfl, ?_⟩) (by assumption) ?_
    rotate_left
    · intro W hSw
      go_simp
      first | done | (with_reducible rfl)
    try simp only [Act.put, sQa, sQb, sQc, gQa, gQb, gQc]
    refine wpAnyH_done (by kernel_rfl) ?_ _
    refine NoPanic.normal ?_
    go_wp2
    refine bodyPost_ret (res_dg rfl _ _ w.heap.size ff rfl d6) rfl ⟨ff, ?_, ?_, hHeld⟩
    · cases mo <;> rfl
    · unfold madeK
      intro y hy
      cases mo with
      | none => cases hy
      | some m0 =>
        injection hy with hy
        rw [← hy, ← hff.out, hdd.out m0 rfl]
  · skip
    have hI := fun W (h1 : Rd W A x) (h2 : Row F W (some ⟨b, o, none⟩) ss.dropLast) => ih (n - firstN n) (i - firstN n) A c (some ⟨b, o, none⟩) d ss.dropLast W (by omega) (by omega) ⟨hc, hm⟩ h1 h2 (by rw [List.length_dropLast]; omega) (by rw [List.length_dropLast]; omega)
    rw [List.length_dropLast] at hI
    have q3 : decide ((i : Int) < (firstN n : Int)) = false := decide_eq_false (by omega)
    have hw1 : IntKind.i64.wrap ((n : Int) - (firstN n : Int)) = ((n - firstN n : Nat) : Int) := by rw [IntWalk.i64_in _ (by omega)]; omega
    have hw2 : IntKind.i64.wrap ((i : Int) - (firstN n : Int)) = ((i - firstN n : Nat) : Int) := by rw [IntWalk.i64_in _ (by omega)]; omega
    obtain ⟨mo, hmo⟩ : ∃ m, madeR (n - firstN n) (i - firstN n) x ss.dropLast = m := ⟨_, rfl⟩
    have hres : madeR n i x ss = mo.map fun d => forkR s d := by
      rw [hss, madeR_right hn2 hif, hmo]
    rw [hmo] at hI
    rw [hres]
    clear ih hres hmo hss
    replace hI := hid hI
    replace rs := hid rs
    generalize hln : ss.length - 1 = ln at *
    generalize ss.dropLast = rest at *
    go_enter Tryd.func34, Tryd.ntmps34
    go_wp2_with (first
      | (with_reducible refine wpList_alloc_row rfl 29 rfl z32 info32 ?_)
      | ((with_reducible refine wpList_load_rng rfl 29 (.tmp 32) rfl b (o + ln * 32) rfl (s.1.map bv) _ ?_ hu rfl sS.out ?_); exact rs.out)
      | ((with_reducible refine wpList_store_row rfl 29 (.tmp 10) (.tmp 33) rfl _ _ rfl rfl 29 z32 ?_ ?_ ?_ ?_ ?_); (first | exact e0.out | (rw [World.size_alloc]; exact e0.out)); (rw [zS]; exact size32); (rw [zS]; exact z32_size); exact oS; intro w1 hgS hbS hsS))
    have X1 := hid (xnewP rfl hbS)
    rw [World.size_alloc] at hgS
    have kS1 := hid hgS
    have W1 := hid (W0.out.trans (X1.out.mono W0.out.size))
    have R1 := hid ((X1.out.block _ (block_lt h0.out)).trans h0.out)
    have r1 := hid (hr.bel W1.out)
    have s1 := hid ((hs.bel W1.out))
    clear hgS hbS hsS
    refine (hF.out _).mono ?_
    rintro e w2 ⟨rfl, rfl⟩
    go_wp2_with fail
    refine (hI.out _ r1.out (hrest.out _ s1.out)).mono ?_
    rintro e w3 ⟨dd, rfl, hdd, hb⟩
    have zD : ((dd.1.map bv).toArray).size = 32 := by simp [dd.2]
    have oD := bvs_all dd.1
    have kS3 := hid ((hb.block _ (block_lt kS1.out)).trans kS1.out)
    have W3 := hid (W1.out.trans (hb.mono W1.out.size))
    have R3 := hid ((hb.block _ (block_lt R1.out)).trans R1.out)
    have e3 := hid (heap_alloc_new w3 (.cells z32 29))
    replace hdd := hid hdd
    clear hb kS1 R1 W1 X1 r1 s1 hI
    go_wp2_with (first
      | (with_reducible refine wpList_alloc_row rfl 29 rfl z32 info32 ?_)
      | ((with_reducible refine wpList_store_row rfl 29 (.tmp 15) (.tmp 66) rfl w3.heap.size _ rfl rfl 29 z32 ?_ ?_ ?_ ?_ ?_); exact e3.out; (rw [zD]; exact size32); (rw [zD]; exact z32_size); exact oD; intro w4 hgS hbS hsS))
    have X4 := hid (xnewP rfl hbS)
    have kD := hid (rd_blockP (l := dd.1) hgS)
    have kS := hid (rd_blockP (l := s.1) ((X4.out.block _ (block_lt kS3.out)).trans kS3.out))
    have W4 := hid (W3.out.trans (X4.out.mono W3.out.size))
    have R4 := hid ((X4.out.block _ (block_lt R3.out)).trans R3.out)
    have hT := hid (RTwo_any 8 (some ⟨(w.heap.size + 1), 0, none⟩) (some ⟨w3.heap.size, 0, none⟩) 32 32 s.1 dd.1 w4.drew kS.out kD.out ⟨by rw [s.2]; exact Nat.le_refl _, by decide⟩ ⟨by rw [dd.2]; exact Nat.le_refl _, by decide⟩ (fork_len s dd))
    have hfk : sha256 (tagB 8 [s.1, dd.1]) = (forkR s dd).1 := rfl
    rw [hfk, s.2, dd.2] at hT
    have zF : (((forkR s dd).1.map bv).toArray).size = 32 := by simp [(forkR s dd).2]
    have oF := bvs_all (forkR s dd).1
    replace hT := hid hT
    clear hgS hbS hsS hfk
    generalize hff : forkR s dd = ff at *
    replace hff := hid hff
    refine wp_region_noPanic ?_
    refine wp_region_held_drew (S := fun W' => Below w.heap.size w W') (by kernel_rfl) ?_ (fun hHeld => ?_)
    · exact W4.out.trans ((bel_drew w4).mono W4.out.size)
    refine' wpAnyH_take (i := 0) (oi := _) (v := _) rfl (by kernel_rfl) (by kernel_rfl) (by kernel_rfl) (fun _ _ _ h => h) (yieldsIf_slice (by rfl) _ _ _ _ _ rfl _ _ _ _ _ (fun W => run_all32P _ W) rfl rfl rfl rfl) (by assumption) ?_
    try simp only [Act.put, sQa, sQb, sQc, gQa, gQb, gQc]
    refine' wpAnyH_take (i := 1) (oi := _) (v := _) rfl (by kernel_rfl) (by kernel_rfl) (by kernel_rfl) (fun _ _ _ h => h) (yieldsIf_slice (by rfl) _ _ _ _ _ rfl _ _ _ _ _ (fun W => run_all32P _ W) rfl rfl rfl rfl) (by assumption) ?_
    try simp only [Act.put, sQa, sQb, sQc, gQa, gQb, gQc]
    refine' wpAnyH_take (i := 3) (oi := _) (v := ?_) rfl (by kernel_rfl) (by kernel_rfl) (by kernel_rfl) (fun _ _ _ h => h) (Or.inl ⟨by rfl, ?_⟩) (by assumption) ?_
    rotate_left
    · intro W hSw
      go_simp
      first | done | (with_reducible rfl)
    try simp only [Act.put, sQa, sQb, sQc, gQa, gQb, gQc]
    refine wpAnyH_ready (rs := [2]) (by kernel_rfl) (by simp) ?_
    refine AllReadyH.cons (o := _) rfl (fun K hK => ?_) AllReadyH.nil
    go_simp
    refine hT.out.out.mono ?_
    rintro e v5 ⟨rfl, hB⟩
    have R5 := hid ((hB.block _ (block_lt (show w4.drew.heap[w.heap.size]? = _ from R4.out))).trans R4.out)
    go_wp2_with fail
    refine hK.out _ _ ?_ (fun hHeld => ?_)
    · exact hHeld.trans (hB.mono hHeld.size)
    clear hK K
    try simp only [Act.put, sQa, sQb, sQc, gQa, gQb, gQc]
    refine wpAnyH_ready (rs := [4]) (by kernel_rfl) (by simp) ?_
    refine AllReadyH.cons (o := _) rfl (fun K hK => ?_) AllReadyH.nil
    refine step_store_rowT rfl 29 (.tmp 8) (.tmp 70) rfl w.heap.size _ rfl rfl 29 z32 R5.out (by rw [zF]; exact size32) (by rw [zF]; exact z32_size) oF ?_
    intro w6 d6 hG
    refine hK.out _ _ ?_ (fun hHeld => ?_)
    · exact hHeld.grown hG hHeld.size (fun g e => by injection e with e; omega)
    clear hK K
    try simp only [Act.put, sQa, sQb, sQc, gQa, gQb, gQc]
    refine' wpAnyH_take (i := 5) (oi := _) (v := ?_) rfl (by kernel_rfl) (by kernel_rfl) (by kernel_rfl) (fun _ _ _ h => h) (Or.inl ⟨by rfl, ?_⟩) (by assumption) ?_
    rotate_left
    · intro W hSw
      go_simp
      first | done | (with_reducible rfl)
    try simp only [Act.put, sQa, sQb, sQc, gQa, gQb, gQc]
    refine wpAnyH_done (by kernel_rfl) ?_ _
    refine NoPanic.normal ?_
    go_wp2
    refine bodyPost_ret (res_dg rfl _ _ w.heap.size ff rfl d6) rfl ⟨ff, ?_, ?_, hHeld⟩
    · cases mo <;> rfl
    · unfold madeK
      intro y hy
      cases mo with
      | none => cases hy
      | some m0 =>
        injection hy with hy
        rw [← hy, ← hff.out, hdd.out m0 rfl]
end Go.Proofs.YtgmlmkhiflnhdaaDoor
