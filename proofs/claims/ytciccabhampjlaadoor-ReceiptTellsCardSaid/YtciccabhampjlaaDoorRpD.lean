/-
  Contracts of the landed package receipt over the table sha.k: Deposit.
-/
import Derived.Test.YtciccabhampjlaaDoorRpA
import Derived.Test.YtciccabhampjlaaDoorOfOne
namespace Go.Proofs.YtciccabhampjlaaDoor
open Go.RowKit
set_option linter.unusedVariables false
set_option linter.unusedSimpArgs false
set_option maxRecDepth 100000

theorem bodyD_cat (x : Dp) : bodyD x = [be 8 x.n, x.t.1, be 8 x.a].flatten := by simp [bodyD]
theorem sizeDxLR (k : Dg) : (Tryd.prog.info? 23).map (·.size) = some (k.1.map bv).length := by rw [List.length_map, k.2]; exact size32
theorem sizeDxR (k : Dg) : (Tryd.prog.info? 23).map (·.size) = some (k.1.map bv).toArray.size := by rw [List.size_toArray, List.length_map, k.2]; exact size32
theorem zDxR (k : Dg) : z32.size = (k.1.map bv).toArray.size := by rw [z32_size]; simp [k.2]
theorem oneDxR (k : Dg) : (k.1.map bv).toArray.all (·.oneCell') = true := all_oneCell_toArray fun u hu => by
  obtain ⟨x, -, rfl⟩ := List.mem_map.1 hu
  rfl
set_option maxHeartbeats 4000000 in
theorem PRpDeposit_any (x : Dp) (hx : x.ok) (w : World) (hT : Tab w) : Calls Tryd.prog 8 #[.agg (dpC x).toArray] w fun e w' => e = .returned (.agg ((idD x).1.map bv).toArray) ∧ Below w.heap.size w w' := by
  have hsl := run_all32P
  have hu := Tryd.underlying23
  have B0 := BoxD.new w x 35
  have b0 := ext_alloc w (.cells (dpC x).toArray 35)
  have b1 := ext_alloc (w.alloc (.cells (dpC x).toArray 35)) (.cells z32 23)
  have h1 := heap_alloc_new (w.alloc (.cells (dpC x).toArray 35)) (.cells z32 23)
  rw [World.size_alloc] at h1
  have W1 := hid (b0.trans (b1.mono b0.size))
  have B1 := B0.bel b1
  have r1 := hid (rd_keyP B1.t)
  have c1 := B1.n
  have c2 := hid B1.a
  have lt := x.t.2
  have m1 := be_length 8 x.n
  have m2 := be_length 8 x.a
  have hB := bodyD_cat x
  have p0 : ∀ n, n < 18446744073709551616 → putE n 8 = 0 := fun n hn => by unfold putE; rw [if_pos (by decide)]; exact if_pos hn
  have d1 := hid (fun W => Put_is x.n _ 8 (be 8 x.n) 0 W rfl hx.1 (by unfold putB; rw [if_pos (p0 _ hx.1)]; rfl) (p0 _ hx.1))
  have d2 := hid (fun W => Put_is x.a _ 8 (be 8 x.a) 0 W rfl hx.2 (by unfold putB; rw [if_pos (p0 _ hx.2)]; rfl) (p0 _ hx.2))
  have hlen : [be 8 x.n, x.t.1, be 8 x.a].flatten.length = 48 := by simp [be_length, lt]
  have hCt := hid (fun A c W (h : Rds W A [be 8 x.n, x.t.1, be 8 x.a]) => concatB_any A c [be 8 x.n, x.t.1, be 8 x.a] W h (by simp) (by rw [hlen]; decide))
  rw [hlen] at hCt
  have hO := hid (fun g W (h : Rds W (some ⟨g, 0, none⟩) [bodyD x]) hT => of_rds_any 9 g (bodyD x) W h (by rw [hB, hlen]; decide) hT)
  have hD : sha256 (tagB 9 [bodyD x]) = (idD x).1 := rfl
  rw [hD] at hO
  rw [← hB] at hCt hlen
  have js := hid (sizeDxR (idD x))
  have zs := hid (zDxR (idD x))
  have os := hid (oneDxR (idD x))
  have hlow := hid hT.low
  replace hT := hid hT
  replace h1 := hid h1
  clear B0 B1 b0 b1 hD hB p0
  rw [m1] at d1
  rw [m2] at d2
  generalize (idD x).1.map bv = dk at *
  generalize dpC x = cx at *
  generalize bodyD x = zb at *
  generalize be 8 x.n = y1 at *
  generalize be 8 x.a = y2 at *
  generalize x.t.1 = zt at *
  generalize x.n = vn at *
  generalize x.a = va at *
  go_enter Tryd.func8, Tryd.ntmps8
  go_wp2_with (first
    | (with_reducible refine wpList_alloc_row rfl 23 rfl z32 info32 ?_))
  refine (d1.out _).mono ?_
  rintro e w2 ⟨A2, k2, rfl, o2, hb⟩
  have W2 := hid (W1.out.trans (hb.mono W1.out.size))
  have c3 := (hb.cell (World.block_lt_of_cell? _ _ c2.out)).trans c2.out
  have R2 := hid (r1.out.bel hb)
  have H2 := hid ((hb.block _ (block_lt h1.out)).trans h1.out)
  have v2 := hid o2.cap
  have s2 := hid o2.rd
  rw [m1] at v2
  clear hb o2 c1
  go_wp2_with fail
  refine (d2.out _).mono ?_
  rintro e w3 ⟨A3, k3, rfl, o3, hb⟩
  have W3 := hid (W2.out.trans (hb.mono W2.out.size))
  have R3 := hid (R2.out.bel hb)
  have H3 := hid ((hb.block _ (block_lt H2.out)).trans H2.out)
  have v3 := hid o3.cap
  have s3 := hid (s2.out.bel hb)
  have t3 := hid o3.rd
  rw [m2] at v3
  clear hb o3 c3
  have ok3 : Hid (∀ p ∈ ([(A2, k2, y1), (some ⟨w.heap.size, 1, none⟩, 32, zt), (A3, k3, y2)] : List PtX), PtOk w3 p) := hid (by
    intro p hp
    simp at hp
    rcases hp with rfl | rfl | rfl
    · exact ⟨s3.out, by show y1.length ≤ k2; rw [m1]; exact v2.out.1, v2.out.2⟩
    · exact ⟨R3.out, Nat.le_of_eq lt, by show 32 ≤ maxLen; decide⟩
    · exact ⟨t3.out, by show y2.length ≤ k3; rw [m2]; exact v3.out.1, v3.out.2⟩)
  go_wp2_with (first
    | ((with_reducible refine wpList_buildSls rfl 3 _ rfl [(A2, k2, y1), (some ⟨w.heap.size, 1, none⟩, 32, zt), (A3, k3, y2)] [.slice A2 8 k2, .slice (some ⟨w.heap.size, 1, none⟩) 32 32, .slice A3 8 k3] ?_ rfl (by decide) (by decide) ?_ ?_ ?_); (simp [slV, m1, m2, lt]); rfl; exact ok3.out; intro g4 w4 e4 J4 E4; have X4 := hid E4; have Q4 := hid J4; clear E4 J4 e4))
  refine (hCt.out _ _ _ Q4.out).mono ?_
  rintro e w5 ⟨A5, k5, rfl, o5, hb⟩
  have X5 := hid (X4.out.trans (hb.mono X4.out.size))
  have W5 := hid (W3.out.trans (X5.out.mono W3.out.size))
  have H5 := hid ((X5.out.block _ (block_lt H3.out)).trans H3.out)
  have ok5 : Hid (∀ p ∈ ([(A5, k5, zb)] : List PtX), PtOk w5 p) := hid (by
    intro p hp
    simp at hp
    subst hp
    exact ⟨o5.rd, o5.cap⟩)
  clear hb o5
  go_wp2_with (first
    | ((with_reducible refine wpList_buildSls rfl 1 _ rfl [(A5, k5, zb)] [.slice A5 48 k5] ?_ rfl (by decide) (by decide) ?_ ?_ ?_); (simp [slV, hlen]); rfl; exact ok5.out; intro g6 w6 e6 J6 E6; have X6 := hid E6; have Q6 := hid J6; clear E6 J6 e6))
  have W6 := hid (W5.out.trans (X6.out.mono W5.out.size))
  have H6 := hid ((X6.out.block _ (block_lt H5.out)).trans H5.out)
  have T6 := hid (hT.out.bel W6.out hlow.out)
  refine (hO.out _ _ Q6.out T6.out).mono ?_
  rintro e w7 ⟨rfl, hb⟩
  have W7 := hid (W6.out.trans (hb.mono W6.out.size))
  have H7 := hid ((hb.block _ (block_lt H6.out)).trans H6.out)
  clear hb
  go_wp2_with (first
    | ((with_reducible refine wpList_store_row rfl 23 (.tmp 2) (.tmp 26) rfl (w.heap.size + 1) _ rfl rfl 23 z32 ?_ ?_ ?_ ?_ ?_); exact H7.out; exact js.out; exact zs.out; exact os.out; intro w8 hg8 hb8 hs8))
  refine bodyPost_ret (v := .agg dk.toArray) ?_ rfl ⟨rfl, ?_⟩
  · exact results_cell_row Tryd.results8 _ _ (w.heap.size + 1) 23 _ (0, 0) _ rfl hg8 hu rfl js.out
  · exact W7.out.grown hb8 W7.out.size (fun g e => by injection e with e; omega)
end Go.Proofs.YtciccabhampjlaaDoor
