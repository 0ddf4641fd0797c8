/-
  Contracts of the landed package header over the table sha.k: Hash, Follows.
-/
import Derived.Test.YtpfglincdlmfhaaDoorHdF
import Derived.Test.YtpfglincdlmfhaaDoorHdQ
import Derived.Test.YtpfglincdlmfhaaDoorOfOne
import Derived.Test.YtpfglincdlmfhaaDoorBits
namespace Go.Proofs.YtpfglincdlmfhaaDoor
open Go.RowKit
set_option linter.unusedVariables false
set_option linter.unusedSimpArgs false
set_option maxRecDepth 100000

theorem sizeDxH (k : Dg) : (Tryd.prog.info? 23).map (·.size) = some (k.1.map bv).toArray.size := by rw [List.size_toArray, List.length_map, k.2]; exact size32
theorem sizeDxHL (k : Dg) : (Tryd.prog.info? 23).map (·.size) = some (k.1.map bv).length := by rw [List.length_map, k.2]; exact size32
theorem zDxH (k : Dg) : z32.size = (k.1.map bv).toArray.size := by rw [z32_size]; simp [k.2]
theorem oneDxH (k : Dg) : (k.1.map bv).toArray.all (·.oneCell') = true := all_oneCell_toArray fun u hu => by
  obtain ⟨x, -, rfl⟩ := List.mem_map.1 hu
  rfl
theorem res_digH {fn : Func} {p u : Tmp} (h : fn.results = #[.cell p 23, .tmp u]) (tmps : Array Value) (w : World) (g : Nat) (cs : Array Value) (e1 : tmps.getD p undef = .pointer (some ⟨g, 0, none⟩))
    (hg : w.heap[g]? = some (.cells cs 23 (0, 0))) (hs : (Tryd.prog.info? 23).map (·.size) = some cs.size) : (results fn tmps).run Tryd.prog w = .ok (.tuple #[.agg cs, tmps.getD u undef]) w := by
  have h2 := run_loadVar_row (P := Tryd.prog) w g 23 23 cs (0, 0) _ hg Tryd.underlying23 rfl hs
  rw [results_cell_tmp h, e1]
  simp only [asAddr, Sem.run_pure, Result.andThen_ok, h2]
set_option maxHeartbeats 2000000 in
theorem PHdHash_any (x : Hd) (hx : x.ok) (w : World) (hT : Tab w) : Calls Tryd.prog 7 #[.agg (hdC x).toArray] w fun e w' => e = .returned (.tuple #[.agg ((hashH x).1.map bv).toArray, .int .i64 (hdE x)]) ∧ Below w.heap.size w w' := by
  have hu := Tryd.underlying23
  have hux := Tryd.underlying25
  have B0 := BoxH.new w x 25
  have h1 := heap_alloc_new (w.alloc (.cells (hdC x).toArray 25)) (.cells z32 23)
  have b1 := ext_alloc (w.alloc (.cells (hdC x).toArray 25)) (.cells z32 23)
  rw [World.size_alloc] at h1
  have W1 := hid ((ext_alloc w (.cells (hdC x).toArray 25)).trans (b1.mono (ext_alloc w _).size))
  have X1 := hid (rangeBel2 b1 B0.all)
  have jx := hid (sizeHd x)
  have hz := hid (show Tryd.prog.built 23 [] = some (z0.1.map bv).toArray by kernel_rfl)
  replace h1 := hid h1
  have hlow := hid hT.low
  have T1 := hid (hT.bel W1.out hlow.out)
  have hB := hid (fun W => PHdBytes_any x hx W)
  obtain ⟨m, hm⟩ : ∃ m, mayH x = m := ⟨_, rfl⟩
  have hE : hdE x = if m = true then 0 else 8 := by unfold hdE; rw [hm]
  have hO : hashH x = if m = true then nameD x else z0 := by unfold hashH; rw [hm]; rfl
  have hY : hdO x = if m = true then hdB x else [] := by unfold hdO; rw [hm]
  have hlen := hdB_len x
  rw [hE, hY] at hB
  rw [hE, hO]
  cases m with
  | false =>
    simp only [Bool.false_eq_true, if_false] at hB ⊢
    have zs := hid (sizeDxH z0)
    have zz := hid (zDxH z0)
    have zo := hid (oneDxH z0)
    clear B0 hm hE hO b1 hY hx hlen
    generalize hdC x = cx at *
    generalize z0.1.map bv = dz at *
    go_enter Tryd.func7, Tryd.ntmps7
    go_wp2_with (first
      | (with_reducible refine wpList_alloc_row rfl 23 rfl z32 info32 ?_)
      | ((with_reducible refine wpList_load_rng rfl 25 (.tmp 1) rfl w.heap.size 0 rfl cx _ ?_ hux rfl jx.out ?_); exact X1.out))
    refine (hB.out _).mono ?_
    rintro e w2 ⟨A2, c2, rfl, -, hb⟩
    have R2 := hid ((hb.block _ (block_lt h1.out)).trans h1.out)
    have W2 := hid (W1.out.trans (hb.mono W1.out.size))
    clear hb
    go_wp2_with (first
      | ((with_reducible refine wpList_built rfl 23 _ rfl dz.toArray [] ?_ ?_ ?_); exact hz.out; rfl)
      | ((with_reducible refine wpList_store_row rfl 23 (.tmp 2) (.tmp 13) rfl (w.heap.size + 1) _ rfl rfl 23 z32 ?_ ?_ ?_ ?_ ?_); exact R2.out; exact zs.out; exact zz.out; exact zo.out; intro w3 hg3 hb3 hs3))
    exact bodyPost_ret (res_digH rfl _ _ (w.heap.size + 1) _ rfl hg3 zs.out) rfl ⟨rfl, W2.out.grown hb3 W2.out.size (fun g e => by injection e with e; omega)⟩
  | true =>
    simp only [if_true] at hB ⊢
    rw [hlen] at hB
    have hS := hid (fun g W (h : Rds W (some ⟨g, 0, none⟩) [hdB x]) hT => of_rds_any 6 g (hdB x) W h (by rw [hlen]; decide) hT)
    have hD : sha256 (tagB 6 [hdB x]) = (nameD x).1 := rfl
    rw [hD] at hS
    have zs := hid (sizeDxH (nameD x))
    have zz := hid (zDxH (nameD x))
    have zo := hid (oneDxH (nameD x))
    clear B0 hm hE hO b1 hz hY hx hD
    generalize hdC x = cx at *
    generalize (nameD x).1.map bv = dn at *
    generalize hdB x = zb at *
    go_enter Tryd.func7, Tryd.ntmps7
    go_wp2_with (first
      | (with_reducible refine wpList_alloc_row rfl 23 rfl z32 info32 ?_)
      | ((with_reducible refine wpList_load_rng rfl 25 (.tmp 1) rfl w.heap.size 0 rfl cx _ ?_ hux rfl jx.out ?_); exact X1.out))
    refine (hB.out _).mono ?_
    rintro e w2 ⟨A2, c2, rfl, o2, hb⟩
    have R2 := hid ((hb.block _ (block_lt h1.out)).trans h1.out)
    have W2 := hid (W1.out.trans (hb.mono W1.out.size))
    have ok2 : Hid (∀ p ∈ ([(A2, c2, zb)] : List PtX), PtOk w2 p) := hid (by
      intro p hp
      simp at hp
      subst hp
      exact ⟨o2.rd, o2.cap⟩)
    clear hb o2
    go_wp2_with (first
      | ((with_reducible refine wpList_buildSls rfl 1 _ rfl [(A2, c2, zb)] [.slice A2 108 c2] ?_ rfl (by decide) (by decide) ?_ ?_ ?_); (simp [slV, hlen]); rfl; exact ok2.out; intro g3 w3 e3 J3 E3; have X3 := hid E3; have Q3 := hid J3; clear E3 J3 e3))
    have W3 := hid (W2.out.trans (X3.out.mono W2.out.size))
    have R3 := hid ((X3.out.block _ (block_lt R2.out)).trans R2.out)
    have T3 := hid (hT.bel W3.out hlow.out)
    refine (hS.out _ _ Q3.out T3.out).mono ?_
    rintro e w4 ⟨rfl, hb⟩
    have W4 := hid (W3.out.trans (hb.mono W3.out.size))
    have R4 := hid ((hb.block _ (block_lt R3.out)).trans R3.out)
    clear hb
    go_wp2_with (first
      | ((with_reducible refine wpList_store_row rfl 23 (.tmp 2) (.tmp 17) rfl (w.heap.size + 1) _ rfl rfl 23 z32 ?_ ?_ ?_ ?_ ?_); exact R4.out; exact zs.out; exact zz.out; exact zo.out; intro w5 hg5 hb5 hs5))
    exact bodyPost_ret (res_digH rfl _ _ (w.heap.size + 1) _ rfl hg5 zs.out) rfl ⟨rfl, W4.out.grown hb5 W4.out.size (fun g e => by injection e with e; omega)⟩
theorem boxesHHl (w : World) (x y : Hd) (t u : TypeId) : BoxH ((w.alloc (.cells (hdC x).toArray t)).alloc (.cells (hdC y).toArray u)) w.heap.size x ∧ BoxH ((w.alloc (.cells (hdC x).toArray t)).alloc (.cells (hdC y).toArray u)) (w.heap.size + 1) y ∧
    Below w.heap.size w ((w.alloc (.cells (hdC x).toArray t)).alloc (.cells (hdC y).toArray u)) := by
  have h2 := BoxH.new (w.alloc (.cells (hdC x).toArray t)) y u
  rw [World.size_alloc] at h2
  exact ⟨(BoxH.new w x t).bel (ext_alloc _ _), h2, ext_trans (ext_alloc _ _) (ext_alloc _ _)⟩
set_option maxHeartbeats 2000000 in
theorem PHdFollows_any (x y : Hd) (hx : x.ok) (hy : y.ok) (w : World) (hT : Tab w) : Calls Tryd.prog 11 #[.agg (hdC x).toArray, .agg (hdC y).toArray] w fun e w' => e = .returned (.bool (follows x y)) ∧ Below w.heap.size w w' := by
  have hu := Tryd.underlying23
  have hux := Tryd.underlying25
  obtain ⟨B1, B2, W0⟩ := boxesHHl w x y 25 25
  replace W0 := hid W0
  have X0 := hid B1.all
  have Y0 := hid B2.all
  have K0 := hid B1.p
  have cx0 := hid B1.h
  have cy0 := hid B2.h
  have jx := hid (sizeHd x)
  have jy := hid (sizeHd y)
  have jk := hid (sizeDxHL x.p)
  have hlow := hid hT.low
  have T1 := hid (hT.bel W0.out hlow.out)
  have hC := hid (fun W => PHdCheck_any x hx W)
  have hH := hid (fun W hT => PHdHash_any y hy W hT)
  obtain ⟨m1, hm1⟩ : ∃ m, mayH x = m := ⟨_, rfl⟩
  obtain ⟨m2, hm2⟩ : ∃ m, mayH y = m := ⟨_, rfl⟩
  have hE1 : hdE x = if m1 = true then 0 else 8 := by unfold hdE; rw [hm1]
  have hE2 : hdE y = if m2 = true then 0 else 8 := by unfold hdE; rw [hm2]
  have hO : m2 = true → hashH y = nameD y := fun h => by unfold hashH; rw [hm2, h]; rfl
  have zs := hid (sizeDxH (hashH y))
  have zl := hid (sizeDxHL (hashH y))
  have zz := hid (zDxH (hashH y))
  have zo := hid (oneDxH (hashH y))
  obtain ⟨eb, heb⟩ : ∃ b, (x.h == y.h + 1) = b := ⟨_, rfl⟩
  obtain ⟨kb, hkb⟩ : ∃ b, decide (x.p = hashH y) = b := ⟨_, rfl⟩
  have hw : m2 = true → IntKind.i64.wrap (y.h + 1) = y.h + 1 := fun h => by
    obtain ⟨n1, n2, _, _⟩ := mayH_iff.1 (hm2.trans h)
    rw [IntKind.wrap_i64]
    omega
  have hE : ∀ W, (Op.equalIn 10000 23 (.agg (x.p.1.map bv).toArray) (.agg ((hashH y).1.map bv).toArray)).run Tryd.prog W = .ok kb W := fun W => eqd_is x.p (hashH y) kb hkb W
  have hF : follows x y = (m1 && (m2 && (eb && kb))) := by
    unfold follows
    rw [hm1, hm2, ← hkb, ← heb]
    cases m2 with
    | false => rfl
    | true => rw [hO rfl]; congr 3
  rw [hF]
  rw [hE1] at hC
  rw [hE2] at hH
  replace hw := hid hw
  clear hF B1 B2 hm1 hm2 hkb hO hE1 hE2 hx hy
  generalize hdC x = cx at *
  generalize hdC y = cy at *
  generalize x.p.1.map bv = dk at *
  generalize (hashH y).1.map bv = dn at *
  generalize x.h = hx at *
  generalize y.h = hy at *
  cases m2 with
  | false =>
    simp only [Bool.false_eq_true, if_false, Bool.false_and, Bool.and_false] at hH ⊢
    go_enter Tryd.func11, Tryd.ntmps11
    go_wp2_with (first
      | ((with_reducible refine wpList_load_rng rfl 25 (.tmp 3) rfl (w.heap.size + 1) 0 rfl cy _ ?_ hux rfl jy.out ?_); exact Y0.out))
    refine (hH.out _ T1.out).mono ?_
    rintro e w2 ⟨rfl, hb⟩
    have W2 := hid (W0.out.trans (hb.mono W0.out.size))
    have e2 := hid (heap_alloc_new w2 (.cells z32 23))
    clear hb
    go_wp2_with (first
      | (with_reducible refine wpList_alloc_row rfl 23 rfl z32 info32 ?_)
      | ((with_reducible refine wpList_store_row rfl 23 (.tmp 5) (.tmp 10) rfl w2.heap.size _ rfl rfl 23 z32 ?_ ?_ ?_ ?_ ?_); exact e2.out; exact zs.out; exact zz.out; exact zo.out; intro w3 hgS hbS hsS; have X3 := hid (xnewP rfl hbS); clear hgS hbS hsS))
    go_ret
    exact ⟨rfl, W2.out.trans (X3.out.mono W2.out.size)⟩
  | true =>
    simp only [if_true, Bool.true_and] at hH ⊢
    have hw1 := hw.out rfl
    cases m1 with
    | false =>
      simp only [Bool.false_eq_true, if_false, Bool.false_and] at hC ⊢
      go_enter Tryd.func11, Tryd.ntmps11
      go_wp2_with (first
        | ((with_reducible refine wpList_load_rng rfl 25 (.tmp 3) rfl (w.heap.size + 1) 0 rfl cy _ ?_ hux rfl jy.out ?_); exact Y0.out))
      refine (hH.out _ T1.out).mono ?_
      rintro e w2 ⟨rfl, hb⟩
      have W2 := hid (W0.out.trans (hb.mono W0.out.size))
      have e2 := hid (heap_alloc_new w2 (.cells z32 23))
      have X2 := hid (rangeBel2 hb X0.out)
      clear hb
      go_wp2_with (first
        | (with_reducible refine wpList_alloc_row rfl 23 rfl z32 info32 ?_)
        | ((with_reducible refine wpList_store_row rfl 23 (.tmp 5) (.tmp 10) rfl w2.heap.size _ rfl rfl 23 z32 ?_ ?_ ?_ ?_ ?_); exact e2.out; exact zs.out; exact zz.out; exact zo.out; intro w3 hgS hbS hsS; have X3 := hid (xnewP rfl hbS); have q3 := hid (rangeBel2 X3.out X2.out); clear hgS hbS hsS)
        | ((with_reducible refine wpList_load_rng ?_ 25 (.tmp 2) rfl w.heap.size 0 rfl cx _ ?_ hux rfl jx.out ?_); rfl; exact q3.out))
      refine (hC.out _).mono ?_
      rintro e w4 ⟨rfl, hb⟩
      have W4 := hid (W2.out.trans ((X3.out.trans (hb.mono X3.out.size)).mono W2.out.size))
      clear hb
      go_wp2
      go_ret
      exact ⟨rfl, W4.out⟩
    | true =>
      simp only [if_true, Bool.true_and] at hC ⊢
      cases eb
      all_goals
        go_enter Tryd.func11, Tryd.ntmps11
        go_wp2_with (first
          | ((with_reducible refine wpList_load_rng rfl 25 (.tmp 3) rfl (w.heap.size + 1) 0 rfl cy _ ?_ hux rfl jy.out ?_); exact Y0.out))
        refine (hH.out _ T1.out).mono ?_
        rintro e w2 ⟨rfl, hb⟩
        have W2 := hid (W0.out.trans (hb.mono W0.out.size))
        have e2 := hid (heap_alloc_new w2 (.cells z32 23))
        have X2 := hid (rangeBel2 hb X0.out)
        have K2 := hid (rangeBel2 hb K0.out)
        have u2 := hid ((hb.cell (World.block_lt_of_cell? _ _ cx0.out)).trans cx0.out)
        have v2 := hid ((hb.cell (World.block_lt_of_cell? _ _ cy0.out)).trans cy0.out)
        clear hb
        go_wp2_with (first
          | (with_reducible refine wpList_alloc_row rfl 23 rfl z32 info32 ?_)
          | ((with_reducible refine wpList_store_row rfl 23 (.tmp 5) (.tmp 10) rfl w2.heap.size _ rfl rfl 23 z32 ?_ ?_ ?_ ?_ ?_); exact e2.out; exact zs.out; exact zz.out; exact zo.out; intro w3 hgS hbS hsS; have X3 := hid (xnewP rfl hbS); have q3 := hid (rangeBel2 X3.out X2.out); have D3 := hid (rangeOf hgS); have K3 := hid (rangeBel2 X3.out K2.out); have u3 := hid ((X3.out.cell (World.block_lt_of_cell? _ _ u2.out)).trans u2.out); have v3 := hid ((X3.out.cell (World.block_lt_of_cell? _ _ v2.out)).trans v2.out); clear hgS hbS hsS)
          | ((with_reducible refine wpList_load_rng ?_ 25 (.tmp 2) rfl w.heap.size 0 rfl cx _ ?_ hux rfl jx.out ?_); rfl; exact q3.out))
        refine (hC.out _).mono ?_
        rintro e w4 ⟨rfl, hb⟩
        have W4 := hid (W2.out.trans ((X3.out.trans (hb.mono X3.out.size)).mono W2.out.size))
        have D4 := hid (rangeBel2 hb D3.out)
        have K4 := hid (rangeBel2 hb K3.out)
        have u4 := (hb.cell (World.block_lt_of_cell? _ _ u3.out)).trans u3.out
        have v4 := (hb.cell (World.block_lt_of_cell? _ _ v3.out)).trans v3.out
        clear hb
        go_wp2_with (first
          | ((with_reducible refine wpList_load_rng ?_ 23 (.tmp 26) rfl w.heap.size 1 rfl dk _ ?_ hu rfl jk.out ?_); rfl; exact K4.out)
          | ((with_reducible refine wpList_load_rng ?_ 23 (.tmp 5) rfl w2.heap.size 0 rfl dn _ ?_ hu rfl zl.out ?_); rfl; exact D4.out))
        go_ret
        exact ⟨rfl, W4.out⟩
end Go.Proofs.YtpfglincdlmfhaaDoor
