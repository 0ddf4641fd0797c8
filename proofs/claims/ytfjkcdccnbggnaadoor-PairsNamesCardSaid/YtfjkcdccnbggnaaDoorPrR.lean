/-
  Texts laid together: PairsR, PairsS.
-/
import Derived.Test.YtfjkcdccnbggnaaDoorPrA
import Derived.Test.YtfjkcdccnbggnaaDoorTagX
import Derived.Test.YtfjkcdccnbggnaaDoorRoad
import Derived.Test.YtfjkcdccnbggnaaDoorPlain
import Derived.Test.YtfjkcdccnbggnaaDoorMem
import Derived.Test.YtfjkcdccnbggnaaDoorBits
import Derived.Test.YtfjkcdccnbggnaaDoorRefG
set_option maxRecDepth 100000
/- (PairsR)
  Contracts of the landed package pairs: rootAt.
-/
namespace Go.Proofs.YtfjkcdccnbggnaaDoor
open Go.RowKit
set_option linter.unusedVariables false
set_option linter.unusedSimpArgs false
set_option maxRecDepth 100000

theorem parts_one {d : Nat} {ps : List Pr} (h : Srt ps) (hs : Shr d ps) : Parts ps (oneP d) (zeros d ps).length := by
  obtain ⟨h1, h2⟩ := split_ones h hs
  refine ⟨List.length_filter_le _ _, fun i hi hlt => ?_, fun i hi hge => ?_⟩
  · have : ps[i] ∈ zeros d ps := by
      rw [h1, List.mem_take_iff_getElem]
      exact ⟨i, by omega, rfl⟩
    have := (List.mem_filter.1 this).2
    simpa using this
  · have : ps[i] ∈ ones d ps := by
      rw [h2, List.mem_drop_iff_getElem]
      exact ⟨i - (zeros d ps).length, by omega, by congr 1; omega⟩
    exact (List.mem_filter.1 this).2
theorem fidOne : ∀ (args : Array Value) (W : World), (callFunc 69 args).run Tryd.prog W = .ok (.enter 69 args) W := fun _ _ => by kernel_rfl

set_option maxHeartbeats 1600000 in
theorem POneC_any (d : Nat) (kq : Dg) (v : List UInt8) (V : Option Addr) (dd g : Nat) (w : World) (hd : d < 256) (hg : w.cell? ⟨g, 0, none⟩ = some (.int .i64 (d : Int))) :
    Calls Tryd.prog 69 #[.agg (kq.1.map bv ++ [Value.slice V v.length dd]).toArray, .pointer (some ⟨g, 0, none⟩)] w fun e w' => e = .returned (.bool (oneP d ⟨kq, v⟩)) ∧ Below w.heap.size w w' := by
  have hu := Tryd.underlying23
  have hi1 := hid (sizeDg kq)
  have d1 := heap_alloc_new w (.cells (kq.1.map bv ++ [Value.slice V v.length dd]).toArray 26)
  have B1 := ext_alloc w (.cells (kq.1.map bv ++ [Value.slice V v.length dd]).toArray 26)
  have r1 := hid (block_pr d1).2.1
  have c2 := (B1.cell (World.block_lt_of_cell? _ _ hg)).trans hg
  obtain ⟨ob, hob⟩ : ∃ ob, oneP d ⟨kq, v⟩ = ob := ⟨_, rfl⟩
  have hP : ∀ W, Calls Tryd.prog 70 #[.agg (kq.1.map bv).toArray, .int .i64 (d : Int)] W fun r w' => r = .returned (.tuple #[.int .u8 (if ob = true then 1 else 0), .int .i64 0]) ∧ Below W.heap.size W w' := fun W => by
    have h := PBit_any kq.1 d W kq.2
    have e1 : bitE (d : Int) = 0 := if_pos ⟨by omega, by omega⟩
    suffices e2 : (bitV kq.1 (d : Int) : Int) = if ob = true then 1 else 0 by rw [e1, e2] at h; exact h
    unfold bitV
    rw [if_pos ⟨by omega, by omega⟩, show ((d : Int).toNat) = d by omega]
    subst hob
    unfold oneP
    have := kb_lt kq.1 d
    by_cases h : kb kq.1 d = 1
    · simp [h]
    · have h0 : kb kq.1 d = 0 := by omega
      simp [h0]
  rw [hob]
  replace hob := hid hob
  replace hP := hid hP
  clear d1 hg
  generalize kq.1.map bv ++ [Value.slice V v.length dd] = ds at *
  obtain ⟨ks, hks⟩ : ∃ ks, ks = kq.1.map bv := ⟨_, rfl⟩
  rw [← hks] at r1 hi1 hP
  replace hks := hid hks
  go_enter Tryd.func69, Tryd.ntmps69
  go_wp2_with (first
    | ((with_reducible refine wpList_load_rng rfl 23 (.tmp 7) rfl w.heap.size 0 rfl ks _ ?_ hu rfl hi1.out ?_); exact r1.out))
  refine (hP.out _).mono ?_
  rintro e w3 ⟨rfl, hb3⟩
  cases ob
  · go_wp2
    go_ret
    exact ⟨rfl, B1.trans (hb3.mono B1.size)⟩
  · go_wp2
    go_ret
    exact ⟨rfl, B1.trans (hb3.mono B1.size)⟩

theorem run_all32P (a : Addr) (w : World) : (Instr.sliceAt 23 (.pointer (some a)) none none none).run Tryd.prog w = .ok (.slice (some a) 32 32) w := by
  have hu := Tryd.underlying23
  have h := run_sliceAt_array_all (P := Tryd.prog) w 23 a (by rw [hu]; rfl)
  rw [h]
  rfl
theorem rd_keyP {w : World} {b o : Nat} {k : Dg} (h : w.rangeAt b o (k.1.map bv)) : Rd w (some ⟨b, o, none⟩) k.1 := fun _ => ⟨b, o, rfl, fun j x hx => h j (bv x) (by rw [List.getElem?_map, hx]; rfl)⟩
theorem rd_blockP {w : World} {g : Nat} {l : List UInt8} {t : TypeId} (h : w.heap[g]? = some (.cells (l.map bv).toArray t (0, 0))) : Rd w (some ⟨g, 0, none⟩) l := fun _ => ⟨g, 0, rfl, fun j x hx => by
  rw [cell_of_row w g (0 + j) _ t (0, 0) h, Nat.zero_add, List.getElem?_toArray, List.getElem?_map, hx]; rfl⟩
theorem tag2_leP (k : UInt8) {l m : List UInt8} (hl : l.length ≤ 64) (hm : m.length ≤ 64) : (tagB k [l, m]).length ≤ 100000 := by
  have h := tagB_le k [l, m] 64 (by intro x hx; simp at hx; rcases hx with rfl | rfl <;> assumption)
  simp only [List.length_cons, List.length_nil] at h
  omega
theorem boxesR (w : World) (d : Nat) : (((w.alloc (.cells #[.int .i64 (d : Int)] 3)).alloc (.cells z32 23)).cell? ⟨w.heap.size, 0, none⟩ = some (.int .i64 (d : Int))) ∧
    ((w.alloc (.cells #[.int .i64 (d : Int)] 3)).alloc (.cells z32 23)).heap[w.heap.size + 1]? = some (.cells z32 23 (0, 0)) ∧
    Below w.heap.size w ((w.alloc (.cells #[.int .i64 (d : Int)] 3)).alloc (.cells z32 23)) := by
  have h1 : (w.alloc (.cells #[.int .i64 (d : Int)] 3)).cell? ⟨w.heap.size, 0, none⟩ = some (.int .i64 (d : Int)) := by
    rw [cell_of_row _ _ 0 _ 3 (0, 0) (heap_alloc_new w _)]; rfl
  have h2 := heap_alloc_new (w.alloc (.cells #[.int .i64 (d : Int)] 3)) (.cells z32 23)
  rw [World.size_alloc] at h2
  exact ⟨((ext_alloc _ _).cell (World.block_lt_of_cell? _ _ h1)).trans h1, h2, ext_trans (ext_alloc _ _) (ext_alloc _ _)⟩

set_option maxHeartbeats 1600000 in
theorem PRootAt_nil (d : Nat) (A : Option Addr) (c : Nat) (w : World) (hT : Tab w) :
    Calls Tryd.prog 45 #[.slice A 0 c, .int .i64 (d : Int)] w fun e w' => e = .returned (.agg ((sha256 (tagB 0 [])).map bv).toArray) ∧ Below w.heap.size w w' := by
  have hN := fun W hW => TNone_any W hW
  obtain ⟨dg, hdg⟩ : ∃ dg, dg = sha256 (tagB 0 []) := ⟨_, rfl⟩
  have hdg0 : sha256 [0] = dg := hdg.symm
  rw [hdg0] at hN
  rw [← hdg]
  have ld : dg.length = 32 := by rw [hdg]; exact S8.bytes_len _
  have z1 : ((dg.map bv).toArray).size = 32 := by simp [ld]
  have o1 := bvs_all dg
  clear hdg hdg0
  obtain ⟨-, hz, W1⟩ := boxesR w d
  have hT1 := hid (hT.bel W1 hT.low)
  replace hN := hid hN
  replace hz := hid hz
  replace W1 := hid W1
  clear hT
  go_enter Tryd.func45, Tryd.ntmps45
  go_wp2_with (first
    | (with_reducible refine wpList_alloc_row rfl 23 rfl z32 info32 ?_))
  refine (hN.out _ hT1.out).mono ?_
  rintro e w3 ⟨rfl, hb3⟩
  have R3 := hid ((hb3.block _ (block_lt hz.out)).trans hz.out)
  have W3 := hid (ext_trans W1.out hb3)
  clear hb3
  go_wp2_with (first
    | ((with_reducible refine wpList_store_row rfl 23 (.tmp 4) (.tmp 12) rfl _ _ rfl rfl 23 z32 ?_ ?_ ?_ ?_ ?_); exact R3.out; (rw [z1]; exact size32); (rw [z1]; exact z32_size); exact o1; intro w4 hg4 hb4 hs4))
  refine bodyPost_ret (v := .agg ((dg.map bv).toArray)) ?_ rfl ⟨rfl, ?_⟩
  · exact results_cell_row Tryd.results45 _ _ (w.heap.size + 1) 23 _ (0, 0) _ rfl hg4 Tryd.underlying23 rfl (by rw [z1]; exact size32)
  · exact W3.out.grown hb4 W3.out.size (by intro k hk; injection hk with hk; omega)

set_option maxHeartbeats 1600000 in
theorem PRootAt_one (d : Nat) (p : Pr) (F : Nat → Prop) (A : Option Addr) (c : Nat) (w : World) (hr : Row F w A [p]) (hv : p.v.length ≤ 64) (hT : Tab w) :
    Calls Tryd.prog 45 #[.slice A 1 c, .int .i64 (d : Int)] w fun e w' => e = .returned (.agg ((sha256 (tagB 1 [p.k.1, p.v])).map bv).toArray) ∧ Below w.heap.size w w' := by
  obtain ⟨b, o, rfl, r1, A', c', hcell, -, h1, h2, h3⟩ := row_pr hr (j := 0) (by simp)
  simp only [Nat.zero_mul, Nat.add_zero, List.getElem_cons_zero] at r1 hcell h1 h3
  obtain ⟨k, v⟩ := p
  simp only at *
  have hk := rd_keyP r1
  have hkl := k.2
  have hO := fun W A hW hTW => TOf_any 1 A 2 2 [k.1, v] W hW rfl (by simp) (tag2_leP 1 (by omega) hv) hTW
  have hR := fun W hW hV => rds_two W (some ⟨b, o, none⟩) A' 32 c' k.1 v 24 hW hV ⟨by omega, by unfold maxLen; omega⟩ ⟨h1, h2⟩
  rw [hkl] at hR
  obtain ⟨dg, hdg⟩ : ∃ dg, dg = sha256 (tagB 1 [k.1, v]) := ⟨_, rfl⟩
  rw [← hdg] at hO ⊢
  have ld : dg.length = 32 := by rw [hdg]; exact S8.bytes_len _
  have z1 : ((dg.map bv).toArray).size = 32 := by simp [ld]
  have o1 := bvs_all dg
  clear hdg
  obtain ⟨-, hz, W1⟩ := boxesR w d
  have hT1 := hid (hT.bel W1 hT.low)
  have hlow := hid (Nat.lt_of_lt_of_le hT.low W1.size)
  have hk1 := hid (hk.bel W1)
  have hv1 := hid (h3.rd.bel W1)
  have hc1 := (W1.cell (World.block_lt_of_cell? _ _ hcell)).trans hcell
  have hsl := run_all32P
  replace hz := hid hz
  replace W1 := hid W1
  replace hO := hid hO
  replace hR := hid hR
  clear hr hk h3 hcell r1 hT
  go_enter Tryd.func45, Tryd.ntmps45
  go_wp2_with (first
    | (with_reducible refine wpList_alloc_row rfl 23 rfl z32 info32 ?_))
  generalize hw1 : (w.alloc (.cells #[.int .i64 (d : Int)] 3)).alloc (.cells z32 23) = w1 at *
  go_still_tail 8, (by kernel_rfl)
  have B2 := (ext_alloc w1 (.cells #[.slice (some ⟨b, o, none⟩) 32 32, .slice A' v.length c'] 24)).trans ((bel_drew (w1.alloc (.cells #[.slice (some ⟨b, o, none⟩) 32 32, .slice A' v.length c'] 24))).mono (ext_alloc w1 _).size)
  have hR2 := hid ((hR.out w1 hk1.out hv1.out).bel (bel_drew _))
  have hT2 := hid (hT1.out.bel B2 hT1.out.low)
  replace hz := hid ((B2.block _ (block_lt hz.out)).trans hz.out)
  replace W1 := hid (ext_trans W1.out B2)
  clear B2 hk1 hv1 hT1 hR
  go_wp2_with fail
  refine (hO.out _ _ hR2.out hT2.out).mono ?_
  rintro e w3 ⟨rfl, hb3⟩
  have R3 := hid ((hb3.block _ (block_lt hz.out)).trans hz.out)
  have W3 := hid (ext_trans W1.out hb3)
  clear hb3
  go_wp2_with (first
    | ((with_reducible refine wpList_store_row rfl 23 (.tmp 4) (.tmp 24) rfl _ _ rfl rfl 23 z32 ?_ ?_ ?_ ?_ ?_); exact R3.out; (rw [z1]; exact size32); (rw [z1]; exact z32_size); exact o1; intro w4 hg4 hb4 hs4))
  refine bodyPost_ret (v := .agg ((dg.map bv).toArray)) ?_ rfl ⟨rfl, ?_⟩
  · exact results_cell_row Tryd.results45 _ _ (w.heap.size + 1) 23 _ (0, 0) _ rfl hg4 Tryd.underlying23 rfl (by rw [z1]; exact size32)
  · exact W3.out.grown hb4 W3.out.size (by intro k hk; injection hk with hk; omega)

section
variable {P : Program}
theorem step_store_row {ops : Array Oper} {o : Oper} {a : Act} {w : World} {K : Act → World → Prop} {Q : Exit → Act → World → Prop} {X : Prop} (hw : o.guard = none) (ty : TypeId) (x y : Operand) (ho : o.op = .store ty x y)
    (g : Nat) (cs : Array Value) (hx : a.eval x = .pointer (some ⟨g, 0, none⟩)) (hy : a.eval y = .agg cs) (t : TypeId) (old : Array Value) (hg : w.heap[g]? = some (.cells old t (0, 0)))
    (hi : (P.info? ty).map (·.size) = some cs.size) (hold : old.size = cs.size) (h1 : cs.all (·.oneCell') = true)
    (h : ∀ w', w'.heap[g]? = some (.cells cs t (0, 0)) → w.grownBy w' (some g) → K (a.put o.dst undef) w') : if Region.wanted o (yielded ops a.tmps) = true then Oper.wp P o a w K Q else X := by
  rw [if_pos (by simp [Region.wanted, hw])]
  exact wp_store_row ty x y ho g cs hx hy t old hg hi hold h1 fun w' h2 h3 _ => h w' h2 h3
theorem step_alloc_row {ops : Array Oper} {o : Oper} {a : Act} {w : World} {K : Act → World → Prop} {Q : Exit → Act → World → Prop} {X : Prop} (hw : o.guard = none) (ty : TypeId) (ho : o.op = .alloc ty)
    (zs : Array Value) (hz : (P.info? ty).map (fun i => (i.zero, i.size)) = some (some (.agg zs), zs.size))
    (h : ∀ g w', w.heap.size ≤ g → w'.heap[g]? = some (.cells zs ty (0, 0)) → Below w.heap.size w w' → K (a.put o.dst (.pointer (some ⟨g, 0, none⟩))) w') : if Region.wanted o (yielded ops a.tmps) = true then Oper.wp P o a w K Q else X := by
  rw [if_pos (by simp [Region.wanted, hw])]
  have hq : ∃ i, P.info? ty = some i ∧ i.zero = some (.agg zs) := by
    cases hq : P.info? ty with
    | none => simp [hq] at hz
    | some i => simp [hq] at hz; exact ⟨i, rfl, hz.1⟩
  obtain ⟨i, hi, hzz⟩ := hq
  unfold Oper.wp execOp
  simp only [ho]
  simp [Instr.alloc, zeroValue, typeInfo, hi, hzz, newVar, Value.cells]
  exact h _ _ (Nat.le_refl _) (heap_alloc_new w (.cells zs ty)) (ext_alloc w _)
end

set_option maxHeartbeats 8000000 in
theorem PRootAt_more (n d : Nat) (ps : List Pr) (F : Nat → Prop) (A : Option Addr) (c : Nat) (w : World) (hd : d < 256) (h2 : 2 ≤ ps.length) (hc : ps.length ≤ 512) (hcap : ps.length ≤ c) (hcm : c ≤ 9223372036854775807) (hS : Srt ps) (hH : Shr d ps) (hr : Row F w A ps) (hT : Tab w)
    (ih0 : ∀ (F : Nat → Prop) (A : Option Addr) (c : Nat) (w : World), Row F w A (zeros d ps) → (zeros d ps).length ≤ c → c ≤ 9223372036854775807 → Tab w → Calls Tryd.prog 45 #[.slice A (zeros d ps).length c, .int .i64 ((d : Int) + 1)] w fun e w' => e = .returned (.agg ((rootP n (zeros d ps) (d + 1)).map bv).toArray) ∧ Below w.heap.size w w')
    (ih1 : ∀ (F : Nat → Prop) (A : Option Addr) (c : Nat) (w : World), Row F w A (ones d ps) → (ones d ps).length ≤ c → c ≤ 9223372036854775807 → Tab w → Calls Tryd.prog 45 #[.slice A (ones d ps).length c, .int .i64 ((d : Int) + 1)] w fun e w' => e = .returned (.agg ((rootP n (ones d ps) (d + 1)).map bv).toArray) ∧ Below w.heap.size w w') :
    Calls Tryd.prog 45 #[.slice A ps.length c, .int .i64 (d : Int)] w fun e w' => e = .returned (.agg ((rootP (n + 1) ps d).map bv).toArray) ∧ Below w.heap.size w w' := by
  rw [rootP_more n d h2]
  have l0 := rootP_length n (d + 1) (zeros d ps)
  have l1 := rootP_length n (d + 1) (ones d ps)
  generalize rootP n (zeros d ps) (d + 1) = g0 at *
  generalize rootP n (ones d ps) (d + 1) = g1 at *
  have hO := fun W A hW hTW => TOf_any 2 A 2 2 [g0, g1] W hW rfl (by simp) (tag2_leP 2 (by omega) (by omega)) hTW
  have hR := fun W p q hW hV => rds_two W (some ⟨p, 0, none⟩) (some ⟨q, 0, none⟩) 32 32 g0 g1 24 hW hV ⟨by omega, by unfold maxLen; omega⟩ ⟨by omega, by unfold maxLen; omega⟩
  rw [l0, l1] at hR
  obtain ⟨dg, hdg⟩ : ∃ dg, dg = sha256 (tagB 2 [g0, g1]) := ⟨_, rfl⟩
  rw [← hdg] at hO ⊢
  have ld : dg.length = 32 := by rw [hdg]; exact S8.bytes_len _
  have z1 : ((dg.map bv).toArray).size = 32 := by simp [ld]
  have o1 := bvs_all dg
  have y0 : ((g0.map bv).toArray).size = 32 := by simp [l0]
  have p0 := bvs_all g0
  have y1 : ((g1.map bv).toArray).size = 32 := by simp [l1]
  have p1 := bvs_all g1
  clear hdg
  obtain ⟨s1, s2⟩ := split_ones hS hH
  have hp := parts_one hS hH
  obtain ⟨m, hm⟩ : ∃ m, (zeros d ps).length = m := ⟨_, rfl⟩
  have hml : m ≤ ps.length := by rw [← hm]; exact List.length_filter_le _ _
  have hol : (ones d ps).length = ps.length - m := by rw [s2, List.length_drop, hm]
  rw [hm] at s1 s2 hp ih0
  rw [hol] at ih1
  obtain ⟨hbx, hz, W1⟩ := boxesR w d
  have hr1 := hr.bel W1
  have hT1 := hT.bel W1 hT.low
  have hlow := Nat.lt_of_lt_of_le hT.low W1.size
  have hfst := fun W hW hx => PFirstOf_any F A c m ps 69 (.pointer (some ⟨w.heap.size, 0, none⟩)) (oneP d) W hW (by omega) (fun W' k v V dd hW' => POneC_any d k v V dd w.heap.size W' hd ((hW'.cell (World.block_lt_of_cell? _ _ hx)).trans hx)) fidOne hp
  have hsl := run_all32P
  have hi0 : ∀ W, Row F W A ps → Tab W → Calls Tryd.prog 45 #[.slice A m c, .int .i64 ((d : Int) + 1)] W fun e w' => e = .returned (.agg (g0.map bv).toArray) ∧ Below W.heap.size W w' := fun W hW hTW => ih0 F A c W (by rw [s1]; exact hW.take m) (by omega) hcm hTW
  have hi1 : ∀ W, Row F W A ps → Tab W → Calls Tryd.prog 45 #[.slice (cutA A c m 33) (ps.length - m) (c - m), .int .i64 ((d : Int) + 1)] W fun e w' => e = .returned (.agg (g1.map bv).toArray) ∧ Below W.heap.size W w' := fun W hW hTW => ih1 F _ (c - m) W (by rw [s2]; exact hW.cut m c hml hcap) (by omega) (by omega) hTW
  replace hi0 := hid hi0
  replace hi1 := hid hi1
  replace hfst := hid hfst
  replace hO := hid hO
  replace hR := hid hR
  replace hz := hid hz
  replace W1 := hid W1
  replace hT1 := hid hT1
  replace hlow := hid hlow
  have hn0 : ¬ ps.length = 0 := by omega
  have hn1 : ¬ ps.length = 1 := by omega
  clear hr hT ih0 ih1 s1 s2 hp hm hol hS hH
  go_enter Tryd.func45, Tryd.ntmps45
  go_wp2_with (first
    | (with_reducible refine wpList_alloc_row rfl 23 rfl z32 info32 ?_))
  generalize hw1 : (w.alloc (.cells #[.int .i64 (d : Int)] 3)).alloc (.cells z32 23) = w1 at *
  refine (hfst.out _ hr1 hbx).mono ?_
  rintro e w3 ⟨rfl, hb3⟩
  replace hbx := (hb3.cell (World.block_lt_of_cell? _ _ hbx)).trans hbx
  have hr3 := hid (hr1.bel hb3)
  replace hz := hid ((hb3.block _ (block_lt hz.out)).trans hz.out)
  replace W1 := hid (W1.out.trans (hb3.mono W1.out.size))
  have hT3 := hid (hT1.out.bel hb3 hT1.out.low)
  clear hb3 hr1 hT1 hlow hfst
  have hwr : IntKind.i64.wrap ((d : Int) + 1) = (d : Int) + 1 := IntWalk.i64_in _ (by omega)
  go_wp2
  refine wp_region_noPanic ?_
  refine wp_region_held_drew (S := fun w' => Below w3.heap.size w3 w') (by kernel_rfl) ?_ (fun hHeld => ?_)
  · exact bel_drew w3
  refine' wpAnyH_take (i := 0) (oi := _) (v := ?_) rfl (by kernel_rfl) (by kernel_rfl) (by kernel_rfl) (fun _ _ _ h => h) (Or.inl ⟨by rfl, ?_⟩) (by assumption) ?_
  rotate_left
  · intro W hSw
    go_simp
    first | done | (with_reducible rfl)
  try simp only [Act.put, sQa, sQb, sQc, gQa, gQb, gQc]
  refine' wpAnyH_take (i := 1) (oi := _) (v := ?_) rfl (by kernel_rfl) (by kernel_rfl) (by kernel_rfl) (fun _ _ _ h => h) (Or.inl ⟨by rfl, ?_⟩) (by assumption) ?_
  rotate_left
  · intro W hSw
    go_simp
    first | done | (with_reducible rfl)
  try simp only [Act.put, sQa, sQb, sQc, gQa, gQb, gQc]
  refine' wpAnyH_take (i := 2) (oi := _) (v := _) rfl (by kernel_rfl) (by kernel_rfl) (by kernel_rfl) (fun _ _ _ h => h) (yieldsIf_slice (by rfl) _ _ _ _ _ rfl _ _ _ _ _ (fun W => run_upto slotPr A ps.length c m (by omega) W) rfl rfl rfl rfl) (by assumption) ?_
  try simp only [Act.put, sQa, sQb, sQc, gQa, gQb, gQc]
  refine' wpAnyH_take (i := 3) (oi := _) (v := ?_) rfl (by kernel_rfl) (by kernel_rfl) (by kernel_rfl) (fun _ _ _ h => h) (Or.inl ⟨by rfl, ?_⟩) (by assumption) ?_
  rotate_left
  · intro W hSw
    have hCell := (hSw.cell (World.block_lt_of_cell? _ _ hbx)).trans hbx
    go_simp
    first | done | (with_reducible rfl)
  try simp only [Act.put, sQa, sQb, sQc, gQa, gQb, gQc]
  refine' wpAnyH_take (i := 4) (oi := _) (v := (Value.int IntKind.i64 ((d : Int) + 1))) rfl (by kernel_rfl) (by kernel_rfl) (by kernel_rfl) (fun _ _ _ h => h) (Or.inl ⟨by rfl, ?_⟩) (by assumption) ?_
  · intro W hSw
    go_simp
    first | done | exact hwr
  try simp only [Act.put, sQa, sQb, sQc, gQa, gQb, gQc]
  refine' wpAnyH_take (i := 6) (oi := _) (v := ?_) rfl (by kernel_rfl) (by kernel_rfl) (by kernel_rfl) (fun _ _ _ h => h) (Or.inl ⟨by rfl, ?_⟩) (by assumption) ?_
  rotate_left
  · intro W hSw
    go_simp
    first | done | (with_reducible rfl)
  try simp only [Act.put, sQa, sQb, sQc, gQa, gQb, gQc]
  refine' wpAnyH_take (i := 7) (oi := _) (v := ?_) rfl (by kernel_rfl) (by kernel_rfl) (by kernel_rfl) (fun _ _ _ h => h) (Or.inl ⟨by rfl, ?_⟩) (by assumption) ?_
  rotate_left
  · intro W hSw
    go_simp
    first | done | (with_reducible rfl)
  try simp only [Act.put, sQa, sQb, sQc, gQa, gQb, gQc]
  refine' wpAnyH_take (i := 8) (oi := _) (v := _) rfl (by kernel_rfl) (by kernel_rfl) (by kernel_rfl) (fun _ _ _ h => h) (yieldsIf_slice (by rfl) _ _ _ _ _ rfl _ _ _ _ _ (fun W => run_from slotPr A ps.length c m hml W) rfl rfl rfl rfl) (by assumption) ?_
  try simp only [Act.put, sQa, sQb, sQc, gQa, gQb, gQc]
  refine' wpAnyH_take (i := 9) (oi := _) (v := ?_) rfl (by kernel_rfl) (by kernel_rfl) (by kernel_rfl) (fun _ _ _ h => h) (Or.inl ⟨by rfl, ?_⟩) (by assumption) ?_
  rotate_left
  · intro W hSw
    have hCell := (hSw.cell (World.block_lt_of_cell? _ _ hbx)).trans hbx
    go_simp
    first | done | (with_reducible rfl)
  try simp only [Act.put, sQa, sQb, sQc, gQa, gQb, gQc]
  refine' wpAnyH_take (i := 10) (oi := _) (v := (Value.int IntKind.i64 ((d : Int) + 1))) rfl (by kernel_rfl) (by kernel_rfl) (by kernel_rfl) (fun _ _ _ h => h) (Or.inl ⟨by rfl, ?_⟩) (by assumption) ?_
  · intro W hSw
    go_simp
    first | done | exact hwr
  try simp only [Act.put, sQa, sQb, sQc, gQa, gQb, gQc]
  refine wpAnyH_ready (rs := [5, 12, 13]) (by kernel_rfl) (by simp) ?_
  refine AllReadyH.cons (o := _) rfl (fun K hK => ?_) ?_
  · skip
    go_simp
    refine (hi0.out _ (hr3.out.bel hHeld) (hT3.out.bel hHeld hT3.out.low)).mono ?_
    rintro e w5 ⟨rfl, hB⟩
    try replace e6 := (hB.block _ (block_lt e6)).trans e6
    try replace e7 := (hB.block _ (block_lt e7)).trans e7
    go_wp2_with fail
    refine hK.out _ _ ?_ (fun hHeld => ?_)
    · exact hHeld.trans (hB.mono hHeld.size)
    clear hK K
    try simp only [Act.put, sQa, sQb, sQc, gQa, gQb, gQc]
    refine wpAnyH_ready (rs := [11, 12, 13]) (by kernel_rfl) (by simp) ?_
    refine AllReadyH.cons (o := _) rfl (fun K hK => ?_) ?_
    · skip
      go_simp
      refine (hi1.out _ (hr3.out.bel hHeld) (hT3.out.bel hHeld hT3.out.low)).mono ?_
      rintro e w5 ⟨rfl, hB⟩
      try replace e6 := (hB.block _ (block_lt e6)).trans e6
      try replace e7 := (hB.block _ (block_lt e7)).trans e7
      go_wp2_with fail
      refine hK.out _ _ ?_ (fun hHeld => ?_)
      · exact hHeld.trans (hB.mono hHeld.size)
      clear hK K
      try simp only [Act.put, sQa, sQb, sQc, gQa, gQb, gQc]
      refine wpAnyH_ready (rs := [12, 13]) (by kernel_rfl) (by simp) ?_
      refine AllReadyH.cons (o := _) rfl (fun K hK => ?_) ?_
      · skip
        refine step_alloc_row rfl 23 rfl z32 info32 ?_
        intro g6 w6 a6 e6 hB
        have l6 := Nat.le_trans hHeld.size a6
        try have n67 : g6 ≠ g7 := fun h => by have := block_lt e7; omega
        try replace e7 := (hB.block _ (block_lt e7)).trans e7
        refine hK.out _ _ ?_ (fun hHeld => ?_)
        · exact hHeld.trans (hB.mono hHeld.size)
        clear hK K
        try simp only [Act.put, sQa, sQb, sQc, gQa, gQb, gQc]
        refine wpAnyH_ready (rs := [13]) (by kernel_rfl) (by simp) ?_
        refine AllReadyH.cons (o := _) rfl (fun K hK => ?_) AllReadyH.nil
        refine step_alloc_row rfl 23 rfl z32 info32 ?_
        intro g7 w7 a7 e7 hB
        have l7 := Nat.le_trans hHeld.size a7
        try have n67 : g6 ≠ g7 := fun h => by have := block_lt e6; omega
        try replace e6 := (hB.block _ (block_lt e6)).trans e6
        refine hK.out _ _ ?_ (fun hHeld => ?_)
        · exact hHeld.trans (hB.mono hHeld.size)
        clear hK K
        try simp only [Act.put, sQa, sQb, sQc, gQa, gQb, gQc]
        refine wpAnyH_ready (rs := [14]) (by kernel_rfl) (by simp) ?_
        refine AllReadyH.cons (o := _) rfl (fun K hK => ?_) AllReadyH.nil
        refine step_store_row rfl 23 (.tmp 6) (.tmp 33) rfl g6 _ rfl rfl 23 z32 e6 (by rw [y0]; exact size32) (by rw [y0]; exact z32_size) p0 ?_
        intro w8 d6 hG
        replace e7 := (hG.block _ (block_lt e7) (by simpa using n67.symm)).trans e7
        refine hK.out _ _ ?_ (fun hHeld => ?_)
        · exact hHeld.grown hG hHeld.size (by intro k hk; injection hk with hk; omega)
        clear hK K
        try simp only [Act.put, sQa, sQb, sQc, gQa, gQb, gQc]
        refine wpAnyH_ready (rs := [15]) (by kernel_rfl) (by simp) ?_
        refine AllReadyH.cons (o := _) rfl (fun K hK => ?_) AllReadyH.nil
        refine step_store_row rfl 23 (.tmp 7) (.tmp 39) rfl g7 _ rfl rfl 23 z32 e7 (by rw [y1]; exact size32) (by rw [y1]; exact z32_size) p1 ?_
        intro w9 d7 hG
        replace d6 := (hG.block _ (block_lt d6) (by simpa using n67)).trans d6
        refine hK.out _ _ ?_ (fun hHeld => ?_)
        · exact hHeld.grown hG hHeld.size (by intro k hk; injection hk with hk; omega)
        clear hK K
        try simp only [Act.put, sQa, sQb, sQc, gQa, gQb, gQc]
        refine wpAnyH_done (by kernel_rfl) ?_ _
        refine NoPanic.normal ?_
        have hz9 := hid ((hHeld.block _ (block_lt hz.out)).trans hz.out)
        have W9 := hid (W1.out.trans (hHeld.mono W1.out.size))
        have hT9 := hid (hT3.out.bel hHeld hT3.out.low)
        have D6 := hid (rd_blockP d6)
        have D7 := hid (rd_blockP d7)
        clear hr3 hz W1 hT3 hbx hi0 hi1 d6 d7 hHeld
        try clear hB
        try clear hG
        try clear e6 e7
        go_wp2_with fail
        go_still_tail 2, (by kernel_rfl)
        have B2 := (ext_alloc w9 (.cells #[.slice (some ⟨g6, 0, none⟩) 32 32, .slice (some ⟨g7, 0, none⟩) 32 32] 24)).trans ((bel_drew (w9.alloc (.cells #[.slice (some ⟨g6, 0, none⟩) 32 32, .slice (some ⟨g7, 0, none⟩) 32 32] 24))).mono (ext_alloc w9 _).size)
        have hR2 := hid ((hR.out _ _ _ D6.out D7.out).bel (bel_drew _))
        have hT2 := hid (hT9.out.bel B2 hT9.out.low)
        replace hz9 := hid ((B2.block _ (block_lt hz9.out)).trans hz9.out)
        replace W9 := hid (W9.out.trans (B2.mono W9.out.size))
        clear B2 D6 D7 hT9 hR
        go_wp2_with fail
        refine (hO.out _ _ hR2.out hT2.out).mono ?_
        rintro e w10 ⟨rfl, hb10⟩
        have R3 := hid ((hb10.block _ (block_lt hz9.out)).trans hz9.out)
        have W3 := hid (W9.out.trans (hb10.mono W9.out.size))
        clear hb10
        go_wp2_with (first
          | ((with_reducible refine wpList_store_row rfl 23 (.tmp 4) (.tmp 43) rfl _ _ rfl rfl 23 z32 ?_ ?_ ?_ ?_ ?_); exact R3.out; (rw [z1]; exact size32); (rw [z1]; exact z32_size); exact o1; intro w12 hg4 hb4 hs4))
        refine bodyPost_ret (v := .agg ((dg.map bv).toArray)) ?_ rfl ⟨rfl, ?_⟩
        · exact results_cell_row Tryd.results45 _ _ (w.heap.size + 1) 23 _ (0, 0) _ rfl hg4 Tryd.underlying23 rfl (by rw [z1]; exact size32)
        · exact W3.out.grown hb4 W3.out.size (by intro k hk; injection hk with hk; omega)
      refine AllReadyH.cons (o := _) rfl (fun K hK => ?_) ?_
      · skip
        refine step_alloc_row rfl 23 rfl z32 info32 ?_
        intro g7 w7 a7 e7 hB
        have l7 := Nat.le_trans hHeld.size a7
        try have n67 : g6 ≠ g7 := fun h => by have := block_lt e6; omega
        try replace e6 := (hB.block _ (block_lt e6)).trans e6
        refine hK.out _ _ ?_ (fun hHeld => ?_)
        · exact hHeld.trans (hB.mono hHeld.size)
        clear hK K
        try simp only [Act.put, sQa, sQb, sQc, gQa, gQb, gQc]
        refine wpAnyH_ready (rs := [12]) (by kernel_rfl) (by simp) ?_
        refine AllReadyH.cons (o := _) rfl (fun K hK => ?_) AllReadyH.nil
        refine step_alloc_row rfl 23 rfl z32 info32 ?_
        intro g6 w6 a6 e6 hB
        have l6 := Nat.le_trans hHeld.size a6
        try have n67 : g6 ≠ g7 := fun h => by have := block_lt e7; omega
        try replace e7 := (hB.block _ (block_lt e7)).trans e7
        refine hK.out _ _ ?_ (fun hHeld => ?_)
        · exact hHeld.trans (hB.mono hHeld.size)
        clear hK K
        try simp only [Act.put, sQa, sQb, sQc, gQa, gQb, gQc]
        refine wpAnyH_ready (rs := [14]) (by kernel_rfl) (by simp) ?_
        refine AllReadyH.cons (o := _) rfl (fun K hK => ?_) AllReadyH.nil
        refine step_store_row rfl 23 (.tmp 6) (.tmp 33) rfl g6 _ rfl rfl 23 z32 e6 (by rw [y0]; exact size32) (by rw [y0]; exact z32_size) p0 ?_
        intro w8 d6 hG
        replace e7 := (hG.block _ (block_lt e7) (by simpa using n67.symm)).trans e7
        refine hK.out _ _ ?_ (fun hHeld => ?_)
        · exact hHeld.grown hG hHeld.size (by intro k hk; injection hk with hk; omega)
        clear hK K
        try simp only [Act.put, sQa, sQb, sQc, gQa, gQb, gQc]
        refine wpAnyH_ready (rs := [15]) (by kernel_rfl) (by simp) ?_
        refine AllReadyH.cons (o := _) rfl (fun K hK => ?_) AllReadyH.nil
        refine step_store_row rfl 23 (.tmp 7) (.tmp 39) rfl g7 _ rfl rfl 23 z32 e7 (by rw [y1]; exact size32) (by rw [y1]; exact z32_size) p1 ?_
        intro w9 d7 hG
        replace d6 := (hG.block _ (block_lt d6) (by simpa using n67)).trans d6
        refine hK.out _ _ ?_ (fun hHeld => ?_)
        · exact hHeld.grown hG hHeld.size (by intro k hk; injection hk with hk; omega)
        clear hK K
        try simp only [Act.put, sQa, sQb, sQc, gQa, gQb, gQc]
        refine wpAnyH_done (by kernel_rfl) ?_ _
        refine NoPanic.normal ?_
        have hz9 := hid ((hHeld.block _ (block_lt hz.out)).trans hz.out)
        have W9 := hid (W1.out.trans (hHeld.mono W1.out.size))
        have hT9 := hid (hT3.out.bel hHeld hT3.out.low)
        have D6 := hid (rd_blockP d6)
        have D7 := hid (rd_blockP d7)
        clear hr3 hz W1 hT3 hbx hi0 hi1 d6 d7 hHeld
        try clear hB
        try clear hG
        try clear e6 e7
        go_wp2_with fail
        go_still_tail 2, (by kernel_rfl)
        have B2 := (ext_alloc w9 (.cells #[.slice (some ⟨g6, 0, none⟩) 32 32, .slice (some ⟨g7, 0, none⟩) 32 32] 24)).trans ((bel_drew (w9.alloc (.cells #[.slice (some ⟨g6, 0, none⟩) 32 32, .slice (some ⟨g7, 0, none⟩) 32 32] 24))).mono (ext_alloc w9 _).size)
        have hR2 := hid ((hR.out _ _ _ D6.out D7.out).bel (bel_drew _))
        have hT2 := hid (hT9.out.bel B2 hT9.out.low)
        replace hz9 := hid ((B2.block _ (block_lt hz9.out)).trans hz9.out)
        replace W9 := hid (W9.out.trans (B2.mono W9.out.size))
        clear B2 D6 D7 hT9 hR
        go_wp2_with fail
        refine (hO.out _ _ hR2.out hT2.out).mono ?_
        rintro e w10 ⟨rfl, hb10⟩
        have R3 := hid ((hb10.block _ (block_lt hz9.out)).trans hz9.out)
        have W3 := hid (W9.out.trans (hb10.mono W9.out.size))
        clear hb10
        go_wp2_with (first
          | ((with_reducible refine wpList_store_row rfl 23 (.tmp 4) (.tmp 43) rfl _ _ rfl rfl 23 z32 ?_ ?_ ?_ ?_ ?_); exact R3.out; (rw [z1]; exact size32); (rw [z1]; exact z32_size); exact o1; intro w12 hg4 hb4 hs4))
        refine bodyPost_ret (v := .agg ((dg.map bv).toArray)) ?_ rfl ⟨rfl, ?_⟩
        · exact results_cell_row Tryd.results45 _ _ (w.heap.size + 1) 23 _ (0, 0) _ rfl hg4 Tryd.underlying23 rfl (by rw [z1]; exact size32)
        · exact W3.out.grown hb4 W3.out.size (by intro k hk; injection hk with hk; omega)
      exact AllReadyH.nil
    refine AllReadyH.cons (o := _) rfl (fun K hK => ?_) ?_
    · skip
      refine step_alloc_row rfl 23 rfl z32 info32 ?_
      intro g6 w6 a6 e6 hB
      have l6 := Nat.le_trans hHeld.size a6
      try have n67 : g6 ≠ g7 := fun h => by have := block_lt e7; omega
      try replace e7 := (hB.block _ (block_lt e7)).trans e7
      refine hK.out _ _ ?_ (fun hHeld => ?_)
      · exact hHeld.trans (hB.mono hHeld.size)
      clear hK K
      try simp only [Act.put, sQa, sQb, sQc, gQa, gQb, gQc]
      refine wpAnyH_ready (rs := [11, 13]) (by kernel_rfl) (by simp) ?_
      refine AllReadyH.cons (o := _) rfl (fun K hK => ?_) ?_
      · skip
        go_simp
        refine (hi1.out _ (hr3.out.bel hHeld) (hT3.out.bel hHeld hT3.out.low)).mono ?_
        rintro e w5 ⟨rfl, hB⟩
        try replace e6 := (hB.block _ (block_lt e6)).trans e6
        try replace e7 := (hB.block _ (block_lt e7)).trans e7
        go_wp2_with fail
        refine hK.out _ _ ?_ (fun hHeld => ?_)
        · exact hHeld.trans (hB.mono hHeld.size)
        clear hK K
        try simp only [Act.put, sQa, sQb, sQc, gQa, gQb, gQc]
        refine wpAnyH_ready (rs := [13]) (by kernel_rfl) (by simp) ?_
        refine AllReadyH.cons (o := _) rfl (fun K hK => ?_) AllReadyH.nil
        refine step_alloc_row rfl 23 rfl z32 info32 ?_
        intro g7 w7 a7 e7 hB
        have l7 := Nat.le_trans hHeld.size a7
        try have n67 : g6 ≠ g7 := fun h => by have := block_lt e6; omega
        try replace e6 := (hB.block _ (block_lt e6)).trans e6
        refine hK.out _ _ ?_ (fun hHeld => ?_)
        · exact hHeld.trans (hB.mono hHeld.size)
        clear hK K
        try simp only [Act.put, sQa, sQb, sQc, gQa, gQb, gQc]
        refine wpAnyH_ready (rs := [14]) (by kernel_rfl) (by simp) ?_
        refine AllReadyH.cons (o := _) rfl (fun K hK => ?_) AllReadyH.nil
        refine step_store_row rfl 23 (.tmp 6) (.tmp 33) rfl g6 _ rfl rfl 23 z32 e6 (by rw [y0]; exact size32) (by rw [y0]; exact z32_size) p0 ?_
        intro w8 d6 hG
        replace e7 := (hG.block _ (block_lt e7) (by simpa using n67.symm)).trans e7
        refine hK.out _ _ ?_ (fun hHeld => ?_)
        · exact hHeld.grown hG hHeld.size (by intro k hk; injection hk with hk; omega)
        clear hK K
        try simp only [Act.put, sQa, sQb, sQc, gQa, gQb, gQc]
        refine wpAnyH_ready (rs := [15]) (by kernel_rfl) (by simp) ?_
        refine AllReadyH.cons (o := _) rfl (fun K hK => ?_) AllReadyH.nil
        refine step_store_row rfl 23 (.tmp 7) (.tmp 39) rfl g7 _ rfl rfl 23 z32 e7 (by rw [y1]; exact size32) (by rw [y1]; exact z32_size) p1 ?_
        intro w9 d7 hG
        replace d6 := (hG.block _ (block_lt d6) (by simpa using n67)).trans d6
        refine hK.out _ _ ?_ (fun hHeld => ?_)
        · exact hHeld.grown hG hHeld.size (by intro k hk; injection hk with hk; omega)
        clear hK K
        try simp only [Act.put, sQa, sQb, sQc, gQa, gQb, gQc]
        refine wpAnyH_done (by kernel_rfl) ?_ _
        refine NoPanic.normal ?_
        have hz9 := hid ((hHeld.block _ (block_lt hz.out)).trans hz.out)
        have W9 := hid (W1.out.trans (hHeld.mono W1.out.size))
        have hT9 := hid (hT3.out.bel hHeld hT3.out.low)
        have D6 := hid (rd_blockP d6)
        have D7 := hid (rd_blockP d7)
        clear hr3 hz W1 hT3 hbx hi0 hi1 d6 d7 hHeld
        try clear hB
        try clear hG
        try clear e6 e7
        go_wp2_with fail
        go_still_tail 2, (by kernel_rfl)
        have B2 := (ext_alloc w9 (.cells #[.slice (some ⟨g6, 0, none⟩) 32 32, .slice (some ⟨g7, 0, none⟩) 32 32] 24)).trans ((bel_drew (w9.alloc (.cells #[.slice (some ⟨g6, 0, none⟩) 32 32, .slice (some ⟨g7, 0, none⟩) 32 32] 24))).mono (ext_alloc w9 _).size)
        have hR2 := hid ((hR.out _ _ _ D6.out D7.out).bel (bel_drew _))
        have hT2 := hid (hT9.out.bel B2 hT9.out.low)
        replace hz9 := hid ((B2.block _ (block_lt hz9.out)).trans hz9.out)
        replace W9 := hid (W9.out.trans (B2.mono W9.out.size))
        clear B2 D6 D7 hT9 hR
        go_wp2_with fail
        refine (hO.out _ _ hR2.out hT2.out).mono ?_
        rintro e w10 ⟨rfl, hb10⟩
        have R3 := hid ((hb10.block _ (block_lt hz9.out)).trans hz9.out)
        have W3 := hid (W9.out.trans (hb10.mono W9.out.size))
        clear hb10
        go_wp2_with (first
          | ((with_reducible refine wpList_store_row rfl 23 (.tmp 4) (.tmp 43) rfl _ _ rfl rfl 23 z32 ?_ ?_ ?_ ?_ ?_); exact R3.out; (rw [z1]; exact size32); (rw [z1]; exact z32_size); exact o1; intro w12 hg4 hb4 hs4))
        refine bodyPost_ret (v := .agg ((dg.map bv).toArray)) ?_ rfl ⟨rfl, ?_⟩
        · exact results_cell_row Tryd.results45 _ _ (w.heap.size + 1) 23 _ (0, 0) _ rfl hg4 Tryd.underlying23 rfl (by rw [z1]; exact size32)
        · exact W3.out.grown hb4 W3.out.size (by intro k hk; injection hk with hk; omega)
      refine AllReadyH.cons (o := _) rfl (fun K hK => ?_) ?_
      · skip
        refine step_alloc_row rfl 23 rfl z32 info32 ?_
        intro g7 w7 a7 e7 hB
        have l7 := Nat.le_trans hHeld.size a7
        try have n67 : g6 ≠ g7 := fun h => by have := block_lt e6; omega
        try replace e6 := (hB.block _ (block_lt e6)).trans e6
        refine hK.out _ _ ?_ (fun hHeld => ?_)
        · exact hHeld.trans (hB.mono hHeld.size)
        clear hK K
        try simp only [Act.put, sQa, sQb, sQc, gQa, gQb, gQc]
        refine wpAnyH_ready (rs := [11]) (by kernel_rfl) (by simp) ?_
        refine AllReadyH.cons (o := _) rfl (fun K hK => ?_) AllReadyH.nil
        go_simp
        refine (hi1.out _ (hr3.out.bel hHeld) (hT3.out.bel hHeld hT3.out.low)).mono ?_
        rintro e w5 ⟨rfl, hB⟩
        try replace e6 := (hB.block _ (block_lt e6)).trans e6
        try replace e7 := (hB.block _ (block_lt e7)).trans e7
        go_wp2_with fail
        refine hK.out _ _ ?_ (fun hHeld => ?_)
        · exact hHeld.trans (hB.mono hHeld.size)
        clear hK K
        try simp only [Act.put, sQa, sQb, sQc, gQa, gQb, gQc]
        refine wpAnyH_ready (rs := [14]) (by kernel_rfl) (by simp) ?_
        refine AllReadyH.cons (o := _) rfl (fun K hK => ?_) AllReadyH.nil
        refine step_store_row rfl 23 (.tmp 6) (.tmp 33) rfl g6 _ rfl rfl 23 z32 e6 (by rw [y0]; exact size32) (by rw [y0]; exact z32_size) p0 ?_
        intro w8 d6 hG
        replace e7 := (hG.block _ (block_lt e7) (by simpa using n67.symm)).trans e7
        refine hK.out _ _ ?_ (fun hHeld => ?_)
        · exact hHeld.grown hG hHeld.size (by intro k hk; injection hk with hk; omega)
        clear hK K
        try simp only [Act.put, sQa, sQb, sQc, gQa, gQb, gQc]
        refine wpAnyH_ready (rs := [15]) (by kernel_rfl) (by simp) ?_
        refine AllReadyH.cons (o := _) rfl (fun K hK => ?_) AllReadyH.nil
        refine step_store_row rfl 23 (.tmp 7) (.tmp 39) rfl g7 _ rfl rfl 23 z32 e7 (by rw [y1]; exact size32) (by rw [y1]; exact z32_size) p1 ?_
        intro w9 d7 hG
        replace d6 := (hG.block _ (block_lt d6) (by simpa using n67)).trans d6
        refine hK.out _ _ ?_ (fun hHeld => ?_)
        · exact hHeld.grown hG hHeld.size (by intro k hk; injection hk with hk; omega)
        clear hK K
        try simp only [Act.put, sQa, sQb, sQc, gQa, gQb, gQc]
        refine wpAnyH_done (by kernel_rfl) ?_ _
        refine NoPanic.normal ?_
        have hz9 := hid ((hHeld.block _ (block_lt hz.out)).trans hz.out)
        have W9 := hid (W1.out.trans (hHeld.mono W1.out.size))
        have hT9 := hid (hT3.out.bel hHeld hT3.out.low)
        have D6 := hid (rd_blockP d6)
        have D7 := hid (rd_blockP d7)
        clear hr3 hz W1 hT3 hbx hi0 hi1 d6 d7 hHeld
        try clear hB
        try clear hG
        try clear e6 e7
        go_wp2_with fail
        go_still_tail 2, (by kernel_rfl)
        have B2 := (ext_alloc w9 (.cells #[.slice (some ⟨g6, 0, none⟩) 32 32, .slice (some ⟨g7, 0, none⟩) 32 32] 24)).trans ((bel_drew (w9.alloc (.cells #[.slice (some ⟨g6, 0, none⟩) 32 32, .slice (some ⟨g7, 0, none⟩) 32 32] 24))).mono (ext_alloc w9 _).size)
        have hR2 := hid ((hR.out _ _ _ D6.out D7.out).bel (bel_drew _))
        have hT2 := hid (hT9.out.bel B2 hT9.out.low)
        replace hz9 := hid ((B2.block _ (block_lt hz9.out)).trans hz9.out)
        replace W9 := hid (W9.out.trans (B2.mono W9.out.size))
        clear B2 D6 D7 hT9 hR
        go_wp2_with fail
        refine (hO.out _ _ hR2.out hT2.out).mono ?_
        rintro e w10 ⟨rfl, hb10⟩
        have R3 := hid ((hb10.block _ (block_lt hz9.out)).trans hz9.out)
        have W3 := hid (W9.out.trans (hb10.mono W9.out.size))
        clear hb10
        go_wp2_with (first
          | ((with_reducible refine wpList_store_row rfl 23 (.tmp 4) (.tmp 43) rfl _ _ rfl rfl 23 z32 ?_ ?_ ?_ ?_ ?_); exact R3.out; (rw [z1]; exact size32); (rw [z1]; exact z32_size); exact o1; intro w12 hg4 hb4 hs4))
        refine bodyPost_ret (v := .agg ((dg.map bv).toArray)) ?_ rfl ⟨rfl, ?_⟩
        · exact results_cell_row Tryd.results45 _ _ (w.heap.size + 1) 23 _ (0, 0) _ rfl hg4 Tryd.underlying23 rfl (by rw [z1]; exact size32)
        · exact W3.out.grown hb4 W3.out.size (by intro k hk; injection hk with hk; omega)
      exact AllReadyH.nil
    refine AllReadyH.cons (o := _) rfl (fun K hK => ?_) ?_
    · skip
      refine step_alloc_row rfl 23 rfl z32 info32 ?_
      intro g7 w7 a7 e7 hB
      have l7 := Nat.le_trans hHeld.size a7
      try have n67 : g6 ≠ g7 := fun h => by have := block_lt e6; omega
      try replace e6 := (hB.block _ (block_lt e6)).trans e6
      refine hK.out _ _ ?_ (fun hHeld => ?_)
      · exact hHeld.trans (hB.mono hHeld.size)
      clear hK K
      try simp only [Act.put, sQa, sQb, sQc, gQa, gQb, gQc]
      refine wpAnyH_ready (rs := [11, 12]) (by kernel_rfl) (by simp) ?_
      refine AllReadyH.cons (o := _) rfl (fun K hK => ?_) ?_
      · skip
        go_simp
        refine (hi1.out _ (hr3.out.bel hHeld) (hT3.out.bel hHeld hT3.out.low)).mono ?_
        rintro e w5 ⟨rfl, hB⟩
        try replace e6 := (hB.block _ (block_lt e6)).trans e6
        try replace e7 := (hB.block _ (block_lt e7)).trans e7
        go_wp2_with fail
        refine hK.out _ _ ?_ (fun hHeld => ?_)
        · exact hHeld.trans (hB.mono hHeld.size)
        clear hK K
        try simp only [Act.put, sQa, sQb, sQc, gQa, gQb, gQc]
        refine wpAnyH_ready (rs := [12]) (by kernel_rfl) (by simp) ?_
        refine AllReadyH.cons (o := _) rfl (fun K hK => ?_) AllReadyH.nil
        refine step_alloc_row rfl 23 rfl z32 info32 ?_
        intro g6 w6 a6 e6 hB
        have l6 := Nat.le_trans hHeld.size a6
        try have n67 : g6 ≠ g7 := fun h => by have := block_lt e7; omega
        try replace e7 := (hB.block _ (block_lt e7)).trans e7
        refine hK.out _ _ ?_ (fun hHeld => ?_)
        · exact hHeld.trans (hB.mono hHeld.size)
        clear hK K
        try simp only [Act.put, sQa, sQb, sQc, gQa, gQb, gQc]
        refine wpAnyH_ready (rs := [14]) (by kernel_rfl) (by simp) ?_
        refine AllReadyH.cons (o := _) rfl (fun K hK => ?_) AllReadyH.nil
        refine step_store_row rfl 23 (.tmp 6) (.tmp 33) rfl g6 _ rfl rfl 23 z32 e6 (by rw [y0]; exact size32) (by rw [y0]; exact z32_size) p0 ?_
        intro w8 d6 hG
        replace e7 := (hG.block _ (block_lt e7) (by simpa using n67.symm)).trans e7
        refine hK.out _ _ ?_ (fun hHeld => ?_)
        · exact hHeld.grown hG hHeld.size (by intro k hk; injection hk with hk; omega)
        clear hK K
        try simp only [Act.put, sQa, sQb, sQc, gQa, gQb, gQc]
        refine wpAnyH_ready (rs := [15]) (by kernel_rfl) (by simp) ?_
        refine AllReadyH.cons (o := _) rfl (fun K hK => ?_) AllReadyH.nil
        refine step_store_row rfl 23 (.tmp 7) (.tmp 39) rfl g7 _ rfl rfl 23 z32 e7 (by rw [y1]; exact size32) (by rw [y1]; exact z32_size) p1 ?_
        intro w9 d7 hG
        replace d6 := (hG.block _ (block_lt d6) (by simpa using n67)).trans d6
        refine hK.out _ _ ?_ (fun hHeld => ?_)
        · exact hHeld.grown hG hHeld.size (by intro k hk; injection hk with hk; omega)
        clear hK K
        try simp only [Act.put, sQa, sQb, sQc, gQa, gQb, gQc]
        refine wpAnyH_done (by kernel_rfl) ?_ _
        refine NoPanic.normal ?_
        have hz9 := hid ((hHeld.block _ (block_lt hz.out)).trans hz.out)
        have W9 := hid (W1.out.trans (hHeld.mono W1.out.size))
        have hT9 := hid (hT3.out.bel hHeld hT3.out.low)
        have D6 := hid (rd_blockP d6)
        have D7 := hid (rd_blockP d7)
        clear hr3 hz W1 hT3 hbx hi0 hi1 d6 d7 hHeld
        try clear hB
        try clear hG
        try clear e6 e7
        go_wp2_with fail
        go_still_tail 2, (by kernel_rfl)
        have B2 := (ext_alloc w9 (.cells #[.slice (some ⟨g6, 0, none⟩) 32 32, .slice (some ⟨g7, 0, none⟩) 32 32] 24)).trans ((bel_drew (w9.alloc (.cells #[.slice (some ⟨g6, 0, none⟩) 32 32, .slice (some ⟨g7, 0, none⟩) 32 32] 24))).mono (ext_alloc w9 _).size)
        have hR2 := hid ((hR.out _ _ _ D6.out D7.out).bel (bel_drew _))
        have hT2 := hid (hT9.out.bel B2 hT9.out.low)
        replace hz9 := hid ((B2.block _ (block_lt hz9.out)).trans hz9.out)
        replace W9 := hid (W9.out.trans (B2.mono W9.out.size))
        clear B2 D6 D7 hT9 hR
        go_wp2_with fail
        refine (hO.out _ _ hR2.out hT2.out).mono ?_
        rintro e w10 ⟨rfl, hb10⟩
        have R3 := hid ((hb10.block _ (block_lt hz9.out)).trans hz9.out)
        have W3 := hid (W9.out.trans (hb10.mono W9.out.size))
        clear hb10
        go_wp2_with (first
          | ((with_reducible refine wpList_store_row rfl 23 (.tmp 4) (.tmp 43) rfl _ _ rfl rfl 23 z32 ?_ ?_ ?_ ?_ ?_); exact R3.out; (rw [z1]; exact size32); (rw [z1]; exact z32_size); exact o1; intro w12 hg4 hb4 hs4))
        refine bodyPost_ret (v := .agg ((dg.map bv).toArray)) ?_ rfl ⟨rfl, ?_⟩
        · exact results_cell_row Tryd.results45 _ _ (w.heap.size + 1) 23 _ (0, 0) _ rfl hg4 Tryd.underlying23 rfl (by rw [z1]; exact size32)
        · exact W3.out.grown hb4 W3.out.size (by intro k hk; injection hk with hk; omega)
      refine AllReadyH.cons (o := _) rfl (fun K hK => ?_) ?_
      · skip
        refine step_alloc_row rfl 23 rfl z32 info32 ?_
        intro g6 w6 a6 e6 hB
        have l6 := Nat.le_trans hHeld.size a6
        try have n67 : g6 ≠ g7 := fun h => by have := block_lt e7; omega
        try replace e7 := (hB.block _ (block_lt e7)).trans e7
        refine hK.out _ _ ?_ (fun hHeld => ?_)
        · exact hHeld.trans (hB.mono hHeld.size)
        clear hK K
        try simp only [Act.put, sQa, sQb, sQc, gQa, gQb, gQc]
        refine wpAnyH_ready (rs := [11]) (by kernel_rfl) (by simp) ?_
        refine AllReadyH.cons (o := _) rfl (fun K hK => ?_) AllReadyH.nil
        go_simp
        refine (hi1.out _ (hr3.out.bel hHeld) (hT3.out.bel hHeld hT3.out.low)).mono ?_
        rintro e w5 ⟨rfl, hB⟩
        try replace e6 := (hB.block _ (block_lt e6)).trans e6
        try replace e7 := (hB.block _ (block_lt e7)).trans e7
        go_wp2_with fail
        refine hK.out _ _ ?_ (fun hHeld => ?_)
        · exact hHeld.trans (hB.mono hHeld.size)
        clear hK K
        try simp only [Act.put, sQa, sQb, sQc, gQa, gQb, gQc]
        refine wpAnyH_ready (rs := [14]) (by kernel_rfl) (by simp) ?_
        refine AllReadyH.cons (o := _) rfl (fun K hK => ?_) AllReadyH.nil
        refine step_store_row rfl 23 (.tmp 6) (.tmp 33) rfl g6 _ rfl rfl 23 z32 e6 (by rw [y0]; exact size32) (by rw [y0]; exact z32_size) p0 ?_
        intro w8 d6 hG
        replace e7 := (hG.block _ (block_lt e7) (by simpa using n67.symm)).trans e7
        refine hK.out _ _ ?_ (fun hHeld => ?_)
        · exact hHeld.grown hG hHeld.size (by intro k hk; injection hk with hk; omega)
        clear hK K
        try simp only [Act.put, sQa, sQb, sQc, gQa, gQb, gQc]
        refine wpAnyH_ready (rs := [15]) (by kernel_rfl) (by simp) ?_
        refine AllReadyH.cons (o := _) rfl (fun K hK => ?_) AllReadyH.nil
        refine step_store_row rfl 23 (.tmp 7) (.tmp 39) rfl g7 _ rfl rfl 23 z32 e7 (by rw [y1]; exact size32) (by rw [y1]; exact z32_size) p1 ?_
        intro w9 d7 hG
        replace d6 := (hG.block _ (block_lt d6) (by simpa using n67)).trans d6
        refine hK.out _ _ ?_ (fun hHeld => ?_)
        · exact hHeld.grown hG hHeld.size (by intro k hk; injection hk with hk; omega)
        clear hK K
        try simp only [Act.put, sQa, sQb, sQc, gQa, gQb, gQc]
        refine wpAnyH_done (by kernel_rfl) ?_ _
        refine NoPanic.normal ?_
        have hz9 := hid ((hHeld.block _ (block_lt hz.out)).trans hz.out)
        have W9 := hid (W1.out.trans (hHeld.mono W1.out.size))
        have hT9 := hid (hT3.out.bel hHeld hT3.out.low)
        have D6 := hid (rd_blockP d6)
        have D7 := hid (rd_blockP d7)
        clear hr3 hz W1 hT3 hbx hi0 hi1 d6 d7 hHeld
        try clear hB
        try clear hG
        try clear e6 e7
        go_wp2_with fail
        go_still_tail 2, (by kernel_rfl)
        have B2 := (ext_alloc w9 (.cells #[.slice (some ⟨g6, 0, none⟩) 32 32, .slice (some ⟨g7, 0, none⟩) 32 32] 24)).trans ((bel_drew (w9.alloc (.cells #[.slice (some ⟨g6, 0, none⟩) 32 32, .slice (some ⟨g7, 0, none⟩) 32 32] 24))).mono (ext_alloc w9 _).size)
        have hR2 := hid ((hR.out _ _ _ D6.out D7.out).bel (bel_drew _))
        have hT2 := hid (hT9.out.bel B2 hT9.out.low)
        replace hz9 := hid ((B2.block _ (block_lt hz9.out)).trans hz9.out)
        replace W9 := hid (W9.out.trans (B2.mono W9.out.size))
        clear B2 D6 D7 hT9 hR
        go_wp2_with fail
        refine (hO.out _ _ hR2.out hT2.out).mono ?_
        rintro e w10 ⟨rfl, hb10⟩
        have R3 := hid ((hb10.block _ (block_lt hz9.out)).trans hz9.out)
        have W3 := hid (W9.out.trans (hb10.mono W9.out.size))
        clear hb10
        go_wp2_with (first
          | ((with_reducible refine wpList_store_row rfl 23 (.tmp 4) (.tmp 43) rfl _ _ rfl rfl 23 z32 ?_ ?_ ?_ ?_ ?_); exact R3.out; (rw [z1]; exact size32); (rw [z1]; exact z32_size); exact o1; intro w12 hg4 hb4 hs4))
        refine bodyPost_ret (v := .agg ((dg.map bv).toArray)) ?_ rfl ⟨rfl, ?_⟩
        · exact results_cell_row Tryd.results45 _ _ (w.heap.size + 1) 23 _ (0, 0) _ rfl hg4 Tryd.underlying23 rfl (by rw [z1]; exact size32)
        · exact W3.out.grown hb4 W3.out.size (by intro k hk; injection hk with hk; omega)
      exact AllReadyH.nil
    exact AllReadyH.nil
  refine AllReadyH.cons (o := _) rfl (fun K hK => ?_) ?_
  · skip
    refine step_alloc_row rfl 23 rfl z32 info32 ?_
    intro g6 w6 a6 e6 hB
    have l6 := Nat.le_trans hHeld.size a6
    try have n67 : g6 ≠ g7 := fun h => by have := block_lt e7; omega
    try replace e7 := (hB.block _ (block_lt e7)).trans e7
    refine hK.out _ _ ?_ (fun hHeld => ?_)
    · exact hHeld.trans (hB.mono hHeld.size)
    clear hK K
    try simp only [Act.put, sQa, sQb, sQc, gQa, gQb, gQc]
    refine wpAnyH_ready (rs := [5, 13]) (by kernel_rfl) (by simp) ?_
    refine AllReadyH.cons (o := _) rfl (fun K hK => ?_) ?_
    · skip
      go_simp
      refine (hi0.out _ (hr3.out.bel hHeld) (hT3.out.bel hHeld hT3.out.low)).mono ?_
      rintro e w5 ⟨rfl, hB⟩
      try replace e6 := (hB.block _ (block_lt e6)).trans e6
      try replace e7 := (hB.block _ (block_lt e7)).trans e7
      go_wp2_with fail
      refine hK.out _ _ ?_ (fun hHeld => ?_)
      · exact hHeld.trans (hB.mono hHeld.size)
      clear hK K
      try simp only [Act.put, sQa, sQb, sQc, gQa, gQb, gQc]
      refine wpAnyH_ready (rs := [11, 13]) (by kernel_rfl) (by simp) ?_
      refine AllReadyH.cons (o := _) rfl (fun K hK => ?_) ?_
      · skip
        go_simp
        refine (hi1.out _ (hr3.out.bel hHeld) (hT3.out.bel hHeld hT3.out.low)).mono ?_
        rintro e w5 ⟨rfl, hB⟩
        try replace e6 := (hB.block _ (block_lt e6)).trans e6
        try replace e7 := (hB.block _ (block_lt e7)).trans e7
        go_wp2_with fail
        refine hK.out _ _ ?_ (fun hHeld => ?_)
        · exact hHeld.trans (hB.mono hHeld.size)
        clear hK K
        try simp only [Act.put, sQa, sQb, sQc, gQa, gQb, gQc]
        refine wpAnyH_ready (rs := [13]) (by kernel_rfl) (by simp) ?_
        refine AllReadyH.cons (o := _) rfl (fun K hK => ?_) AllReadyH.nil
        refine step_alloc_row rfl 23 rfl z32 info32 ?_
        intro g7 w7 a7 e7 hB
        have l7 := Nat.le_trans hHeld.size a7
        try have n67 : g6 ≠ g7 := fun h => by have := block_lt e6; omega
        try replace e6 := (hB.block _ (block_lt e6)).trans e6
        refine hK.out _ _ ?_ (fun hHeld => ?_)
        · exact hHeld.trans (hB.mono hHeld.size)
        clear hK K
        try simp only [Act.put, sQa, sQb, sQc, gQa, gQb, gQc]
        refine wpAnyH_ready (rs := [14]) (by kernel_rfl) (by simp) ?_
        refine AllReadyH.cons (o := _) rfl (fun K hK => ?_) AllReadyH.nil
        refine step_store_row rfl 23 (.tmp 6) (.tmp 33) rfl g6 _ rfl rfl 23 z32 e6 (by rw [y0]; exact size32) (by rw [y0]; exact z32_size) p0 ?_
        intro w8 d6 hG
        replace e7 := (hG.block _ (block_lt e7) (by simpa using n67.symm)).trans e7
        refine hK.out _ _ ?_ (fun hHeld => ?_)
        · exact hHeld.grown hG hHeld.size (by intro k hk; injection hk with hk; omega)
        clear hK K
        try simp only [Act.put, sQa, sQb, sQc, gQa, gQb, gQc]
        refine wpAnyH_ready (rs := [15]) (by kernel_rfl) (by simp) ?_
        refine AllReadyH.cons (o := _) rfl (fun K hK => ?_) AllReadyH.nil
        refine step_store_row rfl 23 (.tmp 7) (.tmp 39) rfl g7 _ rfl rfl 23 z32 e7 (by rw [y1]; exact size32) (by rw [y1]; exact z32_size) p1 ?_
        intro w9 d7 hG
        replace d6 := (hG.block _ (block_lt d6) (by simpa using n67)).trans d6
        refine hK.out _ _ ?_ (fun hHeld => ?_)
        · exact hHeld.grown hG hHeld.size (by intro k hk; injection hk with hk; omega)
        clear hK K
        try simp only [Act.put, sQa, sQb, sQc, gQa, gQb, gQc]
        refine wpAnyH_done (by kernel_rfl) ?_ _
        refine NoPanic.normal ?_
        have hz9 := hid ((hHeld.block _ (block_lt hz.out)).trans hz.out)
        have W9 := hid (W1.out.trans (hHeld.mono W1.out.size))
        have hT9 := hid (hT3.out.bel hHeld hT3.out.low)
        have D6 := hid (rd_blockP d6)
        have D7 := hid (rd_blockP d7)
        clear hr3 hz W1 hT3 hbx hi0 hi1 d6 d7 hHeld
        try clear hB
        try clear hG
        try clear e6 e7
        go_wp2_with fail
        go_still_tail 2, (by kernel_rfl)
        have B2 := (ext_alloc w9 (.cells #[.slice (some ⟨g6, 0, none⟩) 32 32, .slice (some ⟨g7, 0, none⟩) 32 32] 24)).trans ((bel_drew (w9.alloc (.cells #[.slice (some ⟨g6, 0, none⟩) 32 32, .slice (some ⟨g7, 0, none⟩) 32 32] 24))).mono (ext_alloc w9 _).size)
        have hR2 := hid ((hR.out _ _ _ D6.out D7.out).bel (bel_drew _))
        have hT2 := hid (hT9.out.bel B2 hT9.out.low)
        replace hz9 := hid ((B2.block _ (block_lt hz9.out)).trans hz9.out)
        replace W9 := hid (W9.out.trans (B2.mono W9.out.size))
        clear B2 D6 D7 hT9 hR
        go_wp2_with fail
        refine (hO.out _ _ hR2.out hT2.out).mono ?_
        rintro e w10 ⟨rfl, hb10⟩
        have R3 := hid ((hb10.block _ (block_lt hz9.out)).trans hz9.out)
        have W3 := hid (W9.out.trans (hb10.mono W9.out.size))
        clear hb10
        go_wp2_with (first
          | ((with_reducible refine wpList_store_row rfl 23 (.tmp 4) (.tmp 43) rfl _ _ rfl rfl 23 z32 ?_ ?_ ?_ ?_ ?_); exact R3.out; (rw [z1]; exact size32); (rw [z1]; exact z32_size); exact o1; intro w12 hg4 hb4 hs4))
        refine bodyPost_ret (v := .agg ((dg.map bv).toArray)) ?_ rfl ⟨rfl, ?_⟩
        · exact results_cell_row Tryd.results45 _ _ (w.heap.size + 1) 23 _ (0, 0) _ rfl hg4 Tryd.underlying23 rfl (by rw [z1]; exact size32)
        · exact W3.out.grown hb4 W3.out.size (by intro k hk; injection hk with hk; omega)
      refine AllReadyH.cons (o := _) rfl (fun K hK => ?_) ?_
      · skip
        refine step_alloc_row rfl 23 rfl z32 info32 ?_
        intro g7 w7 a7 e7 hB
        have l7 := Nat.le_trans hHeld.size a7
        try have n67 : g6 ≠ g7 := fun h => by have := block_lt e6; omega
        try replace e6 := (hB.block _ (block_lt e6)).trans e6
        refine hK.out _ _ ?_ (fun hHeld => ?_)
        · exact hHeld.trans (hB.mono hHeld.size)
        clear hK K
        try simp only [Act.put, sQa, sQb, sQc, gQa, gQb, gQc]
        refine wpAnyH_ready (rs := [11]) (by kernel_rfl) (by simp) ?_
        refine AllReadyH.cons (o := _) rfl (fun K hK => ?_) AllReadyH.nil
        go_simp
        refine (hi1.out _ (hr3.out.bel hHeld) (hT3.out.bel hHeld hT3.out.low)).mono ?_
        rintro e w5 ⟨rfl, hB⟩
        try replace e6 := (hB.block _ (block_lt e6)).trans e6
        try replace e7 := (hB.block _ (block_lt e7)).trans e7
        go_wp2_with fail
        refine hK.out _ _ ?_ (fun hHeld => ?_)
        · exact hHeld.trans (hB.mono hHeld.size)
        clear hK K
        try simp only [Act.put, sQa, sQb, sQc, gQa, gQb, gQc]
        refine wpAnyH_ready (rs := [14]) (by kernel_rfl) (by simp) ?_
        refine AllReadyH.cons (o := _) rfl (fun K hK => ?_) AllReadyH.nil
        refine step_store_row rfl 23 (.tmp 6) (.tmp 33) rfl g6 _ rfl rfl 23 z32 e6 (by rw [y0]; exact size32) (by rw [y0]; exact z32_size) p0 ?_
        intro w8 d6 hG
        replace e7 := (hG.block _ (block_lt e7) (by simpa using n67.symm)).trans e7
        refine hK.out _ _ ?_ (fun hHeld => ?_)
        · exact hHeld.grown hG hHeld.size (by intro k hk; injection hk with hk; omega)
        clear hK K
        try simp only [Act.put, sQa, sQb, sQc, gQa, gQb, gQc]
        refine wpAnyH_ready (rs := [15]) (by kernel_rfl) (by simp) ?_
        refine AllReadyH.cons (o := _) rfl (fun K hK => ?_) AllReadyH.nil
        refine step_store_row rfl 23 (.tmp 7) (.tmp 39) rfl g7 _ rfl rfl 23 z32 e7 (by rw [y1]; exact size32) (by rw [y1]; exact z32_size) p1 ?_
        intro w9 d7 hG
        replace d6 := (hG.block _ (block_lt d6) (by simpa using n67)).trans d6
        refine hK.out _ _ ?_ (fun hHeld => ?_)
        · exact hHeld.grown hG hHeld.size (by intro k hk; injection hk with hk; omega)
        clear hK K
        try simp only [Act.put, sQa, sQb, sQc, gQa, gQb, gQc]
        refine wpAnyH_done (by kernel_rfl) ?_ _
        refine NoPanic.normal ?_
        have hz9 := hid ((hHeld.block _ (block_lt hz.out)).trans hz.out)
        have W9 := hid (W1.out.trans (hHeld.mono W1.out.size))
        have hT9 := hid (hT3.out.bel hHeld hT3.out.low)
        have D6 := hid (rd_blockP d6)
        have D7 := hid (rd_blockP d7)
        clear hr3 hz W1 hT3 hbx hi0 hi1 d6 d7 hHeld
        try clear hB
        try clear hG
        try clear e6 e7
        go_wp2_with fail
        go_still_tail 2, (by kernel_rfl)
        have B2 := (ext_alloc w9 (.cells #[.slice (some ⟨g6, 0, none⟩) 32 32, .slice (some ⟨g7, 0, none⟩) 32 32] 24)).trans ((bel_drew (w9.alloc (.cells #[.slice (some ⟨g6, 0, none⟩) 32 32, .slice (some ⟨g7, 0, none⟩) 32 32] 24))).mono (ext_alloc w9 _).size)
        have hR2 := hid ((hR.out _ _ _ D6.out D7.out).bel (bel_drew _))
        have hT2 := hid (hT9.out.bel B2 hT9.out.low)
        replace hz9 := hid ((B2.block _ (block_lt hz9.out)).trans hz9.out)
        replace W9 := hid (W9.out.trans (B2.mono W9.out.size))
        clear B2 D6 D7 hT9 hR
        go_wp2_with fail
        refine (hO.out _ _ hR2.out hT2.out).mono ?_
        rintro e w10 ⟨rfl, hb10⟩
        have R3 := hid ((hb10.block _ (block_lt hz9.out)).trans hz9.out)
        have W3 := hid (W9.out.trans (hb10.mono W9.out.size))
        clear hb10
        go_wp2_with (first
          | ((with_reducible refine wpList_store_row rfl 23 (.tmp 4) (.tmp 43) rfl _ _ rfl rfl 23 z32 ?_ ?_ ?_ ?_ ?_); exact R3.out; (rw [z1]; exact size32); (rw [z1]; exact z32_size); exact o1; intro w12 hg4 hb4 hs4))
        refine bodyPost_ret (v := .agg ((dg.map bv).toArray)) ?_ rfl ⟨rfl, ?_⟩
        · exact results_cell_row Tryd.results45 _ _ (w.heap.size + 1) 23 _ (0, 0) _ rfl hg4 Tryd.underlying23 rfl (by rw [z1]; exact size32)
        · exact W3.out.grown hb4 W3.out.size (by intro k hk; injection hk with hk; omega)
      exact AllReadyH.nil
    refine AllReadyH.cons (o := _) rfl (fun K hK => ?_) ?_
    · skip
      refine step_alloc_row rfl 23 rfl z32 info32 ?_
      intro g7 w7 a7 e7 hB
      have l7 := Nat.le_trans hHeld.size a7
      try have n67 : g6 ≠ g7 := fun h => by have := block_lt e6; omega
      try replace e6 := (hB.block _ (block_lt e6)).trans e6
      refine hK.out _ _ ?_ (fun hHeld => ?_)
      · exact hHeld.trans (hB.mono hHeld.size)
      clear hK K
      try simp only [Act.put, sQa, sQb, sQc, gQa, gQb, gQc]
      refine wpAnyH_ready (rs := [5]) (by kernel_rfl) (by simp) ?_
      refine AllReadyH.cons (o := _) rfl (fun K hK => ?_) AllReadyH.nil
      go_simp
      refine (hi0.out _ (hr3.out.bel hHeld) (hT3.out.bel hHeld hT3.out.low)).mono ?_
      rintro e w5 ⟨rfl, hB⟩
      try replace e6 := (hB.block _ (block_lt e6)).trans e6
      try replace e7 := (hB.block _ (block_lt e7)).trans e7
      go_wp2_with fail
      refine hK.out _ _ ?_ (fun hHeld => ?_)
      · exact hHeld.trans (hB.mono hHeld.size)
      clear hK K
      try simp only [Act.put, sQa, sQb, sQc, gQa, gQb, gQc]
      refine wpAnyH_ready (rs := [11]) (by kernel_rfl) (by simp) ?_
      refine AllReadyH.cons (o := _) rfl (fun K hK => ?_) AllReadyH.nil
      go_simp
      refine (hi1.out _ (hr3.out.bel hHeld) (hT3.out.bel hHeld hT3.out.low)).mono ?_
      rintro e w5 ⟨rfl, hB⟩
      try replace e6 := (hB.block _ (block_lt e6)).trans e6
      try replace e7 := (hB.block _ (block_lt e7)).trans e7
      go_wp2_with fail
      refine hK.out _ _ ?_ (fun hHeld => ?_)
      · exact hHeld.trans (hB.mono hHeld.size)
      clear hK K
      try simp only [Act.put, sQa, sQb, sQc, gQa, gQb, gQc]
      refine wpAnyH_ready (rs := [14]) (by kernel_rfl) (by simp) ?_
      refine AllReadyH.cons (o := _) rfl (fun K hK => ?_) AllReadyH.nil
      refine step_store_row rfl 23 (.tmp 6) (.tmp 33) rfl g6 _ rfl rfl 23 z32 e6 (by rw [y0]; exact size32) (by rw [y0]; exact z32_size) p0 ?_
      intro w8 d6 hG
      replace e7 := (hG.block _ (block_lt e7) (by simpa using n67.symm)).trans e7
      refine hK.out _ _ ?_ (fun hHeld => ?_)
      · exact hHeld.grown hG hHeld.size (by intro k hk; injection hk with hk; omega)
      clear hK K
      try simp only [Act.put, sQa, sQb, sQc, gQa, gQb, gQc]
      refine wpAnyH_ready (rs := [15]) (by kernel_rfl) (by simp) ?_
      refine AllReadyH.cons (o := _) rfl (fun K hK => ?_) AllReadyH.nil
      refine step_store_row rfl 23 (.tmp 7) (.tmp 39) rfl g7 _ rfl rfl 23 z32 e7 (by rw [y1]; exact size32) (by rw [y1]; exact z32_size) p1 ?_
      intro w9 d7 hG
      replace d6 := (hG.block _ (block_lt d6) (by simpa using n67)).trans d6
      refine hK.out _ _ ?_ (fun hHeld => ?_)
      · exact hHeld.grown hG hHeld.size (by intro k hk; injection hk with hk; omega)
      clear hK K
      try simp only [Act.put, sQa, sQb, sQc, gQa, gQb, gQc]
      refine wpAnyH_done (by kernel_rfl) ?_ _
      refine NoPanic.normal ?_
      have hz9 := hid ((hHeld.block _ (block_lt hz.out)).trans hz.out)
      have W9 := hid (W1.out.trans (hHeld.mono W1.out.size))
      have hT9 := hid (hT3.out.bel hHeld hT3.out.low)
      have D6 := hid (rd_blockP d6)
      have D7 := hid (rd_blockP d7)
      clear hr3 hz W1 hT3 hbx hi0 hi1 d6 d7 hHeld
      try clear hB
      try clear hG
      try clear e6 e7
      go_wp2_with fail
      go_still_tail 2, (by kernel_rfl)
      have B2 := (ext_alloc w9 (.cells #[.slice (some ⟨g6, 0, none⟩) 32 32, .slice (some ⟨g7, 0, none⟩) 32 32] 24)).trans ((bel_drew (w9.alloc (.cells #[.slice (some ⟨g6, 0, none⟩) 32 32, .slice (some ⟨g7, 0, none⟩) 32 32] 24))).mono (ext_alloc w9 _).size)
      have hR2 := hid ((hR.out _ _ _ D6.out D7.out).bel (bel_drew _))
      have hT2 := hid (hT9.out.bel B2 hT9.out.low)
      replace hz9 := hid ((B2.block _ (block_lt hz9.out)).trans hz9.out)
      replace W9 := hid (W9.out.trans (B2.mono W9.out.size))
      clear B2 D6 D7 hT9 hR
      go_wp2_with fail
      refine (hO.out _ _ hR2.out hT2.out).mono ?_
      rintro e w10 ⟨rfl, hb10⟩
      have R3 := hid ((hb10.block _ (block_lt hz9.out)).trans hz9.out)
      have W3 := hid (W9.out.trans (hb10.mono W9.out.size))
      clear hb10
      go_wp2_with (first
        | ((with_reducible refine wpList_store_row rfl 23 (.tmp 4) (.tmp 43) rfl _ _ rfl rfl 23 z32 ?_ ?_ ?_ ?_ ?_); exact R3.out; (rw [z1]; exact size32); (rw [z1]; exact z32_size); exact o1; intro w12 hg4 hb4 hs4))
      refine bodyPost_ret (v := .agg ((dg.map bv).toArray)) ?_ rfl ⟨rfl, ?_⟩
      · exact results_cell_row Tryd.results45 _ _ (w.heap.size + 1) 23 _ (0, 0) _ rfl hg4 Tryd.underlying23 rfl (by rw [z1]; exact size32)
      · exact W3.out.grown hb4 W3.out.size (by intro k hk; injection hk with hk; omega)
    exact AllReadyH.nil
  refine AllReadyH.cons (o := _) rfl (fun K hK => ?_) ?_
  · skip
    refine step_alloc_row rfl 23 rfl z32 info32 ?_
    intro g7 w7 a7 e7 hB
    have l7 := Nat.le_trans hHeld.size a7
    try have n67 : g6 ≠ g7 := fun h => by have := block_lt e6; omega
    try replace e6 := (hB.block _ (block_lt e6)).trans e6
    refine hK.out _ _ ?_ (fun hHeld => ?_)
    · exact hHeld.trans (hB.mono hHeld.size)
    clear hK K
    try simp only [Act.put, sQa, sQb, sQc, gQa, gQb, gQc]
    refine wpAnyH_ready (rs := [5, 12]) (by kernel_rfl) (by simp) ?_
    refine AllReadyH.cons (o := _) rfl (fun K hK => ?_) ?_
    · skip
      go_simp
      refine (hi0.out _ (hr3.out.bel hHeld) (hT3.out.bel hHeld hT3.out.low)).mono ?_
      rintro e w5 ⟨rfl, hB⟩
      try replace e6 := (hB.block _ (block_lt e6)).trans e6
      try replace e7 := (hB.block _ (block_lt e7)).trans e7
      go_wp2_with fail
      refine hK.out _ _ ?_ (fun hHeld => ?_)
      · exact hHeld.trans (hB.mono hHeld.size)
      clear hK K
      try simp only [Act.put, sQa, sQb, sQc, gQa, gQb, gQc]
      refine wpAnyH_ready (rs := [11, 12]) (by kernel_rfl) (by simp) ?_
      refine AllReadyH.cons (o := _) rfl (fun K hK => ?_) ?_
      · skip
        go_simp
        refine (hi1.out _ (hr3.out.bel hHeld) (hT3.out.bel hHeld hT3.out.low)).mono ?_
        rintro e w5 ⟨rfl, hB⟩
        try replace e6 := (hB.block _ (block_lt e6)).trans e6
        try replace e7 := (hB.block _ (block_lt e7)).trans e7
        go_wp2_with fail
        refine hK.out _ _ ?_ (fun hHeld => ?_)
        · exact hHeld.trans (hB.mono hHeld.size)
        clear hK K
        try simp only [Act.put, sQa, sQb, sQc, gQa, gQb, gQc]
        refine wpAnyH_ready (rs := [12]) (by kernel_rfl) (by simp) ?_
        refine AllReadyH.cons (o := _) rfl (fun K hK => ?_) AllReadyH.nil
        refine step_alloc_row rfl 23 rfl z32 info32 ?_
        intro g6 w6 a6 e6 hB
        have l6 := Nat.le_trans hHeld.size a6
        try have n67 : g6 ≠ g7 := fun h => by have := block_lt e7; omega
        try replace e7 := (hB.block _ (block_lt e7)).trans e7
        refine hK.out _ _ ?_ (fun hHeld => ?_)
        · exact hHeld.trans (hB.mono hHeld.size)
        clear hK K
        try simp only [Act.put, sQa, sQb, sQc, gQa, gQb, gQc]
        refine wpAnyH_ready (rs := [14]) (by kernel_rfl) (by simp) ?_
        refine AllReadyH.cons (o := _) rfl (fun K hK => ?_) AllReadyH.nil
        refine step_store_row rfl 23 (.tmp 6) (.tmp 33) rfl g6 _ rfl rfl 23 z32 e6 (by rw [y0]; exact size32) (by rw [y0]; exact z32_size) p0 ?_
        intro w8 d6 hG
        replace e7 := (hG.block _ (block_lt e7) (by simpa using n67.symm)).trans e7
        refine hK.out _ _ ?_ (fun hHeld => ?_)
        · exact hHeld.grown hG hHeld.size (by intro k hk; injection hk with hk; omega)
        clear hK K
        try simp only [Act.put, sQa, sQb, sQc, gQa, gQb, gQc]
        refine wpAnyH_ready (rs := [15]) (by kernel_rfl) (by simp) ?_
        refine AllReadyH.cons (o := _) rfl (fun K hK => ?_) AllReadyH.nil
        refine step_store_row rfl 23 (.tmp 7) (.tmp 39) rfl g7 _ rfl rfl 23 z32 e7 (by rw [y1]; exact size32) (by rw [y1]; exact z32_size) p1 ?_
        intro w9 d7 hG
        replace d6 := (hG.block _ (block_lt d6) (by simpa using n67)).trans d6
        refine hK.out _ _ ?_ (fun hHeld => ?_)
        · exact hHeld.grown hG hHeld.size (by intro k hk; injection hk with hk; omega)
        clear hK K
        try simp only [Act.put, sQa, sQb, sQc, gQa, gQb, gQc]
        refine wpAnyH_done (by kernel_rfl) ?_ _
        refine NoPanic.normal ?_
        have hz9 := hid ((hHeld.block _ (block_lt hz.out)).trans hz.out)
        have W9 := hid (W1.out.trans (hHeld.mono W1.out.size))
        have hT9 := hid (hT3.out.bel hHeld hT3.out.low)
        have D6 := hid (rd_blockP d6)
        have D7 := hid (rd_blockP d7)
        clear hr3 hz W1 hT3 hbx hi0 hi1 d6 d7 hHeld
        try clear hB
        try clear hG
        try clear e6 e7
        go_wp2_with fail
        go_still_tail 2, (by kernel_rfl)
        have B2 := (ext_alloc w9 (.cells #[.slice (some ⟨g6, 0, none⟩) 32 32, .slice (some ⟨g7, 0, none⟩) 32 32] 24)).trans ((bel_drew (w9.alloc (.cells #[.slice (some ⟨g6, 0, none⟩) 32 32, .slice (some ⟨g7, 0, none⟩) 32 32] 24))).mono (ext_alloc w9 _).size)
        have hR2 := hid ((hR.out _ _ _ D6.out D7.out).bel (bel_drew _))
        have hT2 := hid (hT9.out.bel B2 hT9.out.low)
        replace hz9 := hid ((B2.block _ (block_lt hz9.out)).trans hz9.out)
        replace W9 := hid (W9.out.trans (B2.mono W9.out.size))
        clear B2 D6 D7 hT9 hR
        go_wp2_with fail
        refine (hO.out _ _ hR2.out hT2.out).mono ?_
        rintro e w10 ⟨rfl, hb10⟩
        have R3 := hid ((hb10.block _ (block_lt hz9.out)).trans hz9.out)
        have W3 := hid (W9.out.trans (hb10.mono W9.out.size))
        clear hb10
        go_wp2_with (first
          | ((with_reducible refine wpList_store_row rfl 23 (.tmp 4) (.tmp 43) rfl _ _ rfl rfl 23 z32 ?_ ?_ ?_ ?_ ?_); exact R3.out; (rw [z1]; exact size32); (rw [z1]; exact z32_size); exact o1; intro w12 hg4 hb4 hs4))
        refine bodyPost_ret (v := .agg ((dg.map bv).toArray)) ?_ rfl ⟨rfl, ?_⟩
        · exact results_cell_row Tryd.results45 _ _ (w.heap.size + 1) 23 _ (0, 0) _ rfl hg4 Tryd.underlying23 rfl (by rw [z1]; exact size32)
        · exact W3.out.grown hb4 W3.out.size (by intro k hk; injection hk with hk; omega)
      refine AllReadyH.cons (o := _) rfl (fun K hK => ?_) ?_
      · skip
        refine step_alloc_row rfl 23 rfl z32 info32 ?_
        intro g6 w6 a6 e6 hB
        have l6 := Nat.le_trans hHeld.size a6
        try have n67 : g6 ≠ g7 := fun h => by have := block_lt e7; omega
        try replace e7 := (hB.block _ (block_lt e7)).trans e7
        refine hK.out _ _ ?_ (fun hHeld => ?_)
        · exact hHeld.trans (hB.mono hHeld.size)
        clear hK K
        try simp only [Act.put, sQa, sQb, sQc, gQa, gQb, gQc]
        refine wpAnyH_ready (rs := [11]) (by kernel_rfl) (by simp) ?_
        refine AllReadyH.cons (o := _) rfl (fun K hK => ?_) AllReadyH.nil
        go_simp
        refine (hi1.out _ (hr3.out.bel hHeld) (hT3.out.bel hHeld hT3.out.low)).mono ?_
        rintro e w5 ⟨rfl, hB⟩
        try replace e6 := (hB.block _ (block_lt e6)).trans e6
        try replace e7 := (hB.block _ (block_lt e7)).trans e7
        go_wp2_with fail
        refine hK.out _ _ ?_ (fun hHeld => ?_)
        · exact hHeld.trans (hB.mono hHeld.size)
        clear hK K
        try simp only [Act.put, sQa, sQb, sQc, gQa, gQb, gQc]
        refine wpAnyH_ready (rs := [14]) (by kernel_rfl) (by simp) ?_
        refine AllReadyH.cons (o := _) rfl (fun K hK => ?_) AllReadyH.nil
        refine step_store_row rfl 23 (.tmp 6) (.tmp 33) rfl g6 _ rfl rfl 23 z32 e6 (by rw [y0]; exact size32) (by rw [y0]; exact z32_size) p0 ?_
        intro w8 d6 hG
        replace e7 := (hG.block _ (block_lt e7) (by simpa using n67.symm)).trans e7
        refine hK.out _ _ ?_ (fun hHeld => ?_)
        · exact hHeld.grown hG hHeld.size (by intro k hk; injection hk with hk; omega)
        clear hK K
        try simp only [Act.put, sQa, sQb, sQc, gQa, gQb, gQc]
        refine wpAnyH_ready (rs := [15]) (by kernel_rfl) (by simp) ?_
        refine AllReadyH.cons (o := _) rfl (fun K hK => ?_) AllReadyH.nil
        refine step_store_row rfl 23 (.tmp 7) (.tmp 39) rfl g7 _ rfl rfl 23 z32 e7 (by rw [y1]; exact size32) (by rw [y1]; exact z32_size) p1 ?_
        intro w9 d7 hG
        replace d6 := (hG.block _ (block_lt d6) (by simpa using n67)).trans d6
        refine hK.out _ _ ?_ (fun hHeld => ?_)
        · exact hHeld.grown hG hHeld.size (by intro k hk; injection hk with hk; omega)
        clear hK K
        try simp only [Act.put, sQa, sQb, sQc, gQa, gQb, gQc]
        refine wpAnyH_done (by kernel_rfl) ?_ _
        refine NoPanic.normal ?_
        have hz9 := hid ((hHeld.block _ (block_lt hz.out)).trans hz.out)
        have W9 := hid (W1.out.trans (hHeld.mono W1.out.size))
        have hT9 := hid (hT3.out.bel hHeld hT3.out.low)
        have D6 := hid (rd_blockP d6)
        have D7 := hid (rd_blockP d7)
        clear hr3 hz W1 hT3 hbx hi0 hi1 d6 d7 hHeld
        try clear hB
        try clear hG
        try clear e6 e7
        go_wp2_with fail
        go_still_tail 2, (by kernel_rfl)
        have B2 := (ext_alloc w9 (.cells #[.slice (some ⟨g6, 0, none⟩) 32 32, .slice (some ⟨g7, 0, none⟩) 32 32] 24)).trans ((bel_drew (w9.alloc (.cells #[.slice (some ⟨g6, 0, none⟩) 32 32, .slice (some ⟨g7, 0, none⟩) 32 32] 24))).mono (ext_alloc w9 _).size)
        have hR2 := hid ((hR.out _ _ _ D6.out D7.out).bel (bel_drew _))
        have hT2 := hid (hT9.out.bel B2 hT9.out.low)
        replace hz9 := hid ((B2.block _ (block_lt hz9.out)).trans hz9.out)
        replace W9 := hid (W9.out.trans (B2.mono W9.out.size))
        clear B2 D6 D7 hT9 hR
        go_wp2_with fail
        refine (hO.out _ _ hR2.out hT2.out).mono ?_
        rintro e w10 ⟨rfl, hb10⟩
        have R3 := hid ((hb10.block _ (block_lt hz9.out)).trans hz9.out)
        have W3 := hid (W9.out.trans (hb10.mono W9.out.size))
        clear hb10
        go_wp2_with (first
          | ((with_reducible refine wpList_store_row rfl 23 (.tmp 4) (.tmp 43) rfl _ _ rfl rfl 23 z32 ?_ ?_ ?_ ?_ ?_); exact R3.out; (rw [z1]; exact size32); (rw [z1]; exact z32_size); exact o1; intro w12 hg4 hb4 hs4))
        refine bodyPost_ret (v := .agg ((dg.map bv).toArray)) ?_ rfl ⟨rfl, ?_⟩
        · exact results_cell_row Tryd.results45 _ _ (w.heap.size + 1) 23 _ (0, 0) _ rfl hg4 Tryd.underlying23 rfl (by rw [z1]; exact size32)
        · exact W3.out.grown hb4 W3.out.size (by intro k hk; injection hk with hk; omega)
      exact AllReadyH.nil
    refine AllReadyH.cons (o := _) rfl (fun K hK => ?_) ?_
    · skip
      refine step_alloc_row rfl 23 rfl z32 info32 ?_
      intro g6 w6 a6 e6 hB
      have l6 := Nat.le_trans hHeld.size a6
      try have n67 : g6 ≠ g7 := fun h => by have := block_lt e7; omega
      try replace e7 := (hB.block _ (block_lt e7)).trans e7
      refine hK.out _ _ ?_ (fun hHeld => ?_)
      · exact hHeld.trans (hB.mono hHeld.size)
      clear hK K
      try simp only [Act.put, sQa, sQb, sQc, gQa, gQb, gQc]
      refine wpAnyH_ready (rs := [5]) (by kernel_rfl) (by simp) ?_
      refine AllReadyH.cons (o := _) rfl (fun K hK => ?_) AllReadyH.nil
      go_simp
      refine (hi0.out _ (hr3.out.bel hHeld) (hT3.out.bel hHeld hT3.out.low)).mono ?_
      rintro e w5 ⟨rfl, hB⟩
      try replace e6 := (hB.block _ (block_lt e6)).trans e6
      try replace e7 := (hB.block _ (block_lt e7)).trans e7
      go_wp2_with fail
      refine hK.out _ _ ?_ (fun hHeld => ?_)
      · exact hHeld.trans (hB.mono hHeld.size)
      clear hK K
      try simp only [Act.put, sQa, sQb, sQc, gQa, gQb, gQc]
      refine wpAnyH_ready (rs := [11]) (by kernel_rfl) (by simp) ?_
      refine AllReadyH.cons (o := _) rfl (fun K hK => ?_) AllReadyH.nil
      go_simp
      refine (hi1.out _ (hr3.out.bel hHeld) (hT3.out.bel hHeld hT3.out.low)).mono ?_
      rintro e w5 ⟨rfl, hB⟩
      try replace e6 := (hB.block _ (block_lt e6)).trans e6
      try replace e7 := (hB.block _ (block_lt e7)).trans e7
      go_wp2_with fail
      refine hK.out _ _ ?_ (fun hHeld => ?_)
      · exact hHeld.trans (hB.mono hHeld.size)
      clear hK K
      try simp only [Act.put, sQa, sQb, sQc, gQa, gQb, gQc]
      refine wpAnyH_ready (rs := [14]) (by kernel_rfl) (by simp) ?_
      refine AllReadyH.cons (o := _) rfl (fun K hK => ?_) AllReadyH.nil
      refine step_store_row rfl 23 (.tmp 6) (.tmp 33) rfl g6 _ rfl rfl 23 z32 e6 (by rw [y0]; exact size32) (by rw [y0]; exact z32_size) p0 ?_
      intro w8 d6 hG
      replace e7 := (hG.block _ (block_lt e7) (by simpa using n67.symm)).trans e7
      refine hK.out _ _ ?_ (fun hHeld => ?_)
      · exact hHeld.grown hG hHeld.size (by intro k hk; injection hk with hk; omega)
      clear hK K
      try simp only [Act.put, sQa, sQb, sQc, gQa, gQb, gQc]
      refine wpAnyH_ready (rs := [15]) (by kernel_rfl) (by simp) ?_
      refine AllReadyH.cons (o := _) rfl (fun K hK => ?_) AllReadyH.nil
      refine step_store_row rfl 23 (.tmp 7) (.tmp 39) rfl g7 _ rfl rfl 23 z32 e7 (by rw [y1]; exact size32) (by rw [y1]; exact z32_size) p1 ?_
      intro w9 d7 hG
      replace d6 := (hG.block _ (block_lt d6) (by simpa using n67)).trans d6
      refine hK.out _ _ ?_ (fun hHeld => ?_)
      · exact hHeld.grown hG hHeld.size (by intro k hk; injection hk with hk; omega)
      clear hK K
      try simp only [Act.put, sQa, sQb, sQc, gQa, gQb, gQc]
      refine wpAnyH_done (by kernel_rfl) ?_ _
      refine NoPanic.normal ?_
      have hz9 := hid ((hHeld.block _ (block_lt hz.out)).trans hz.out)
      have W9 := hid (W1.out.trans (hHeld.mono W1.out.size))
      have hT9 := hid (hT3.out.bel hHeld hT3.out.low)
      have D6 := hid (rd_blockP d6)
      have D7 := hid (rd_blockP d7)
      clear hr3 hz W1 hT3 hbx hi0 hi1 d6 d7 hHeld
      try clear hB
      try clear hG
      try clear e6 e7
      go_wp2_with fail
      go_still_tail 2, (by kernel_rfl)
      have B2 := (ext_alloc w9 (.cells #[.slice (some ⟨g6, 0, none⟩) 32 32, .slice (some ⟨g7, 0, none⟩) 32 32] 24)).trans ((bel_drew (w9.alloc (.cells #[.slice (some ⟨g6, 0, none⟩) 32 32, .slice (some ⟨g7, 0, none⟩) 32 32] 24))).mono (ext_alloc w9 _).size)
      have hR2 := hid ((hR.out _ _ _ D6.out D7.out).bel (bel_drew _))
      have hT2 := hid (hT9.out.bel B2 hT9.out.low)
      replace hz9 := hid ((B2.block _ (block_lt hz9.out)).trans hz9.out)
      replace W9 := hid (W9.out.trans (B2.mono W9.out.size))
      clear B2 D6 D7 hT9 hR
      go_wp2_with fail
      refine (hO.out _ _ hR2.out hT2.out).mono ?_
      rintro e w10 ⟨rfl, hb10⟩
      have R3 := hid ((hb10.block _ (block_lt hz9.out)).trans hz9.out)
      have W3 := hid (W9.out.trans (hb10.mono W9.out.size))
      clear hb10
      go_wp2_with (first
        | ((with_reducible refine wpList_store_row rfl 23 (.tmp 4) (.tmp 43) rfl _ _ rfl rfl 23 z32 ?_ ?_ ?_ ?_ ?_); exact R3.out; (rw [z1]; exact size32); (rw [z1]; exact z32_size); exact o1; intro w12 hg4 hb4 hs4))
      refine bodyPost_ret (v := .agg ((dg.map bv).toArray)) ?_ rfl ⟨rfl, ?_⟩
      · exact results_cell_row Tryd.results45 _ _ (w.heap.size + 1) 23 _ (0, 0) _ rfl hg4 Tryd.underlying23 rfl (by rw [z1]; exact size32)
      · exact W3.out.grown hb4 W3.out.size (by intro k hk; injection hk with hk; omega)
    exact AllReadyH.nil
  exact AllReadyH.nil
end Go.Proofs.YtfjkcdccnbggnaaDoor

/- (PairsS)
  Contracts of the landed package pairs: rootAt, Root.
-/
namespace Go.Proofs.YtfjkcdccnbggnaaDoor
open Go.RowKit
set_option linter.unusedVariables false
set_option linter.unusedSimpArgs false
set_option maxRecDepth 100000

theorem PRootAtP_any : ∀ (n d : Nat) (ps : List Pr) (F : Nat → Prop) (A : Option Addr) (c : Nat) (w : World), n + d = 256 → Srt ps → Shr d ps → ps.length ≤ 512 → (∀ p ∈ ps, p.v.length ≤ 64) → Row F w A ps → ps.length ≤ c → c ≤ 9223372036854775807 → Tab w →
    Calls Tryd.prog 45 #[.slice A ps.length c, .int .i64 (d : Int)] w fun e w' => e = .returned (.agg ((rootP n ps d).map bv).toArray) ∧ Below w.heap.size w w' := by
  intro n
  induction n with
  | zero =>
    intro d ps F A c w hn hs hh hc hv hr hcap hcm hT
    obtain rfl : d = 256 := by omega
    have hf := shr_few hs hh
    match ps, hf, hv, hr with
    | [], _, _, _ => rw [rootP_nil]; exact PRootAt_nil 256 A c w hT
    | [p], _, hv, hr => rw [rootP_one]; exact PRootAt_one 256 p F A c w hr (hv p (by simp)) hT
    | _ :: _ :: _, hf, _, _ => simp at hf
  | succ n ih =>
    intro d ps F A c w hn hs hh hc hv hr hcap hcm hT
    match ps, hs, hh, hc, hv, hr, hcap with
    | [], _, _, _, _, _, _ => rw [rootP_nil]; exact PRootAt_nil d A c w hT
    | [p], _, _, _, hv, hr, _ => rw [rootP_one]; exact PRootAt_one d p F A c w hr (hv p (by simp)) hT
    | p :: q :: r, hs, hh, hc, hv, hr, hcap =>
      exact PRootAt_more n d (p :: q :: r) F A c w (by omega) (by simp) hc hcap hcm hs hh hr hT
        (fun F A c w hr h1 h2 hT => ih (d + 1) (zeros d (p :: q :: r)) F A c w (by omega) (srt_zeros hs) (shr_zeros hh) (Nat.le_trans (len_zeros d _) hc) (fun x hx => hv x (List.mem_filter.1 hx).1) hr h1 h2 hT)
        (fun F A c w hr h1 h2 hT => ih (d + 1) (ones d (p :: q :: r)) F A c w (by omega) (srt_ones hs) (shr_ones hh) (Nat.le_trans (len_ones d _) hc) (fun x hx => hv x (List.mem_filter.1 hx).1) hr h1 h2 hT)

set_option maxHeartbeats 1600000 in
theorem PRoot_any (F : Nat → Prop) (A : Option Addr) (c n : Nat) (ps : List Pr) (w : World) (hr : Row F w A ps) (hn : n = ps.length) (hc : ps.length ≤ 9223372036854775807) (hcap : ps.length ≤ c) (hcm : c ≤ 9223372036854775807) (hT : Tab w) :
    Calls Tryd.prog 14 #[.slice A n c] w fun e w' => e = .returned (.tuple #[.agg ((rootL ps).map bv).toArray, .int .i64 (rootE ps)]) ∧ Below w.heap.size w w' := by
  subst hn
  have b1 := ext_alloc w (.cells z32 23)
  have hr1 := hr.bel b1
  have hT1 := hid (hT.bel b1 hT.low)
  have hz := hid (heap_alloc_new w (.cells z32 23))
  have W1 := hid b1
  have hM := fun W hW => PCheck_any F A c ps.length ps W hW rfl hc
  obtain ⟨m, hm⟩ : ∃ m, mayP ps = m := ⟨_, rfl⟩
  rw [hm] at hM
  have ld := rootL_length ps
  have hL : (m = false → rootL ps = List.replicate 32 0 ∧ rootE ps = 8) ∧ (m = true → rootE ps = 0 ∧ ∀ W, Row F W A ps → Tab W → Calls Tryd.prog 45 #[.slice A ps.length c, .int .i64 0] W fun e w' => e = .returned (.agg ((rootL ps).map bv).toArray) ∧ Below W.heap.size W w') := by
    subst hm
    constructor
    · intro h; unfold rootL rootE; rw [h]; exact ⟨rfl, rfl⟩
    · intro h
      obtain ⟨h1, h2, h3⟩ := may_len h
      refine ⟨by unfold rootE; rw [h]; rfl, fun W hW hTW => ?_⟩
      have := PRootAtP_any 256 0 ps F A c W rfl h2 (shrP_zero ps) h1 h3 hW hcap hcm hTW
      unfold rootL
      rw [h]
      exact this
  generalize rootL ps = dg at *
  generalize rootE ps = z at *
  have z1 : ((dg.map bv).toArray).size = 32 := by simp [ld]
  have o1 := bvs_all dg
  replace hL := hid hL
  replace hM := hid hM
  clear hr hm b1 hT
  go_enter Tryd.func14, Tryd.ntmps14
  go_wp2_with (first
    | (with_reducible refine wpList_alloc_row rfl 23 rfl z32 info32 ?_))
  refine (hM.out _ hr1).mono ?_
  rintro e w3 ⟨rfl, hb3⟩
  have R3 := hid ((hb3.block _ (block_lt hz.out)).trans hz.out)
  have W3 := hid (ext_trans W1.out hb3)
  have hr3 := hr1.bel hb3
  have hT3 := hid (hT1.out.bel hb3 hT1.out.low)
  clear hb3 hr1 hT1
  cases m
  · obtain ⟨rfl, rfl⟩ := hL.out.1 rfl
    go_wp2_with (first
      | ((with_reducible refine wpList_store_row rfl 23 (.tmp 2) (.tmp 9) rfl _ _ rfl rfl 23 z32 ?_ ?_ ?_ ?_ ?_); exact R3.out; exact size32; rfl; decide +kernel; intro w4 hg4 hb4 hs4))
    refine bodyPost_ret (res_dig rfl _ _ w.heap.size _ rfl hg4 rfl) rfl ⟨rfl, W3.out.grown hb4 W3.out.size (by intro k hk; injection hk with hk; omega)⟩
  · obtain ⟨rfl, hO⟩ := hL.out.2 rfl
    replace hO := hid hO
    go_wp2_with fail
    refine (hO.out _ hr3 hT3.out).mono ?_
    rintro e w4 ⟨rfl, hb4⟩
    have R4 := hid ((hb4.block _ (block_lt R3.out)).trans R3.out)
    have W4 := hid (W3.out.trans (hb4.mono W3.out.size))
    clear hb4
    go_wp2_with (first
      | ((with_reducible refine wpList_store_row rfl 23 (.tmp 2) (.tmp 12) rfl _ _ rfl rfl 23 z32 ?_ ?_ ?_ ?_ ?_); exact R4.out; (rw [z1]; exact size32); (rw [z1]; exact z32_size); exact o1; intro w5 hg4 hb4 hs4))
    refine bodyPost_ret (res_dig rfl _ _ w.heap.size _ rfl hg4 z1) rfl ⟨rfl, W4.out.grown hb4 W4.out.size (by intro k hk; injection hk with hk; omega)⟩
end Go.Proofs.YtfjkcdccnbggnaaDoor
