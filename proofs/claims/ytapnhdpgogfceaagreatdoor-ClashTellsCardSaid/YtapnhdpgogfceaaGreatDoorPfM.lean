/-
  Texts laid together: PfB, PfD, PfG, PfH, PfI, PfJ.
-/
import Derived.Test.YtapnhdpgogfceaaGreatDoorTrN
import Derived.Test.YtapnhdpgogfceaaGreatDoorTreeB
import Derived.Test.YtapnhdpgogfceaaGreatDoorRf6
import Derived.Test.YtapnhdpgogfceaaGreatDoorBits
import Derived.Test.YtapnhdpgogfceaaGreatDoorTrA
import Derived.Great.BuildSlice
import Derived.Test.YtapnhdpgogfceaaGreatDoorTrB
set_option maxRecDepth 100000
/- (PfB)
  The program's facts on proofs: their type, among a law's arguments.
-/
namespace Go.Proofs.YtapnhdpgogfceaaGreatDoor
open Go.RowKit
set_option linter.unusedVariables false
set_option maxRecDepth 100000

def zPfC : Array Value := (pfC pf0 none 0 none 0).toArray
theorem zInfoPf : (Tryz.prog.info? 30).map (fun i => (i.zero, i.size)) = some (some (.agg zPfC), zPfC.size) := by kernel_rfl
theorem zSizePf : zPfC.size = 67 := by decide +kernel
theorem sizePf : (Tryz.prog.info? 30).map (·.size) = some 67 := by kernel_rfl
theorem sizePfC (x : Pf) (A : Option Addr) (c : Nat) (D : Option Addr) (d : Nat) : (Tryz.prog.info? 30).map (·.size) = some (pfC x A c D d).length := by rw [len_pf]; exact sizePf
theorem sizePfS (x : Pf) (A : Option Addr) (c : Nat) (D : Option Addr) (d : Nat) : (Tryz.prog.info? 30).map (·.size) = some (pfC x A c D d).toArray.size := by rw [List.size_toArray, len_pf]; exact sizePf
theorem opensDgs : Opens Tryz.prog 28 (List Dg) := Opens.slice Tryz.underlying28 (by kernel_rfl) opensDg
theorem opensPf : Opens Tryz.prog 30 Pf :=
  Opens.by_ (fun x : Pf => (x.k, x.e, x.o, x.v, x.ss)) (fun b => ⟨b.1, b.2.1, b.2.2.1, b.2.2.2.1, b.2.2.2.2⟩) (fun b => rfl) (Opens.struct5 Tryz.underlying30 (by kernel_rfl) rfl rfl rfl rfl rfl opensDg opensByte opensDg opensBytes opensDgs)
end Go.Proofs.YtapnhdpgogfceaaGreatDoor

/- (PfD)
  The library's slices.Equal and slices.Clone of digests, at this program.
-/
namespace Go.Proofs.YtapnhdpgogfceaaGreatDoor
open Go.RowKit
set_option linter.unusedVariables false
set_option linter.unusedSimpArgs false
set_option maxRecDepth 100000


theorem slotDgP : Slot Tryz.prog Dg 28 26 (.agg z32) 32 where
  under := Tryz.underlying28
  info := by kernel_rfl
  zero := by decide +kernel
  pos := by decide
theorem OwnR.empty {α : Type} [Enc α] (E : TypeId) (w : World) : OwnR E (w.alloc (.cells #[] E)) w.heap.size (some ⟨w.heap.size, 0, none⟩) 0 ([] : List α) :=
  ⟨fun _ => False, ⟨[], rfl, ⟨by simp, .inr ⟨w.heap.size, 0, #[], rfl, Nat.le_refl _, heap_alloc_new w _, Nat.le_refl _, Nat.zero_le _, by simp, by simp⟩⟩, fun j x vs h => by simp at h, fun _ _ h => h⟩, fun b h => h.elim⟩
theorem Src.dg {F G : Nat → Prop} {w : World} {A : Option Addr} {xs : List Dg} (h : Src F w A xs) : Src G w A xs := fun hn => by
  obtain ⟨b, o, hA, hc⟩ := h hn
  exact ⟨b, o, hA, fun j x hx => by obtain ⟨vs, h1, h2⟩ := hc j x hx; exact ⟨vs, h1, h2⟩⟩
theorem BEqual2_is (A1 A2 : Option Addr) (c1 c2 : Nat) (l1 l2 : List UInt8) (b : Bool) (w : World) (h1 : Rd w A1 l1) (h2 : Rd w A2 l2) (he : decide (l1 = l2) = b) :
    Calls Tryz.prog 33 #[Value.slice A1 l1.length c1, .slice A2 l2.length c2] w fun e w' => e = .returned (.bool b) ∧ w = w' := by
  have k1 := run_conv_str u8s underU8 9 underStr h1 l1.length c1 rfl
  have k2 := run_conv_str u8s underU8 9 underStr h2 l2.length c2 rfl
  have ht : ((bstr l1).toList == (bstr l2).toList) = b := by
    rw [← he, bstr_toList, bstr_toList]
    by_cases h : l1 = l2 <;> simp [h]
  clear he h1 h2
  generalize l1.length = n1 at *
  generalize l2.length = n2 at *
  go_enter Tryz.func33, Tryz.ntmps33
  go_wp2
  go_ret
  exact ⟨rfl, rfl⟩
end Go.Proofs.YtapnhdpgogfceaaGreatDoor

/- (PfG)
  What the proof is that is made of a tree for a key. No program is named here.
-/
namespace Go.Proofs.YtapnhdpgogfceaaGreatDoor
open Go.RowKit
set_option linter.unusedVariables false

def makeF (t : Tr) (k : Dg) : Pf := if mayT t = true then (if (endN t k).leaf = true then (if (endN t k).k = k then ⟨k, 1, z0, (endN t k).v, sidesM t k⟩ else ⟨k, 2, (endN t k).k, (endN t k).v, sidesM t k⟩) else ⟨k, 0, z0, [], sidesM t k⟩) else pf0
theorem makeF_no {t : Tr} {k : Dg} (h : mayT t = false) : makeF t k = pf0 := by unfold makeF; rw [h]; rfl
theorem makeF_none {t : Tr} {k : Dg} (h : mayT t = true) (hl : (endN t k).leaf = false) : makeF t k = ⟨k, 0, z0, [], sidesM t k⟩ := by unfold makeF; rw [h, hl]; rfl
theorem makeF_own {t : Tr} {k : Dg} (h : mayT t = true) (hl : (endN t k).leaf = true) (hk : (endN t k).k = k) : makeF t k = ⟨k, 1, z0, (endN t k).v, sidesM t k⟩ := by unfold makeF; rw [if_pos h, if_pos hl, if_pos hk]
theorem makeF_other {t : Tr} {k : Dg} (h : mayT t = true) (hl : (endN t k).leaf = true) (hk : (endN t k).k ≠ k) : makeF t k = ⟨k, 2, (endN t k).k, (endN t k).v, sidesM t k⟩ := by unfold makeF; rw [if_pos h, if_pos hl, if_neg hk]
theorem end_zero {ns : List Nd} {root : Int} {k : Dg} (h : mayT ⟨ns, root⟩ = true) (hz : (wayP ns k 256 root).1 = 0) : endN ⟨ns, root⟩ k = nd0 := by unfold endN; rw [if_pos h, if_pos hz]
theorem end_leaf {ns : List Nd} {root : Int} {k : Dg} (h : mayT ⟨ns, root⟩ = true) (hz : (wayP ns k 256 root).1 ≠ 0) : (endN ⟨ns, root⟩ k).leaf = true := by
  obtain ⟨-, m1, m2, ho, m3⟩ := mayT_iff.1 h
  dsimp only at m1 m2 ho m3
  obtain ⟨⟨w1, w2, w3⟩, w4, -⟩ := way_spec (k := k) ho 256 root z0 (Nat.le_refl _) m1 m2 m3 zr_z0
  unfold endN
  rw [if_pos h, if_neg hz]
  exact w3.resolve_left hz
/-- A proof's end and its other key stored anew. -/
theorem pf_setE (x : Pf) (e : UInt8) (A : Option Addr) (c : Nat) (D : Option Addr) (d : Nat) : (pfC x A c D d).toArray.setIfInBounds 32 (bv e) = (pfC { x with e := e } A c D d).toArray := by
  apply Array.ext'
  have hk : (x.k.1.map bv).length = 32 := by rw [List.length_map, x.k.2]
  simp only [Array.toList_setIfInBounds, pfC]
  rw [List.set_append_right _ _ (by omega), hk]
  rfl
theorem pf_setW (x : Pf) (v : List UInt8) (A A2 : Option Addr) (c c2 : Nat) (D : Option Addr) (d : Nat) : (pfC x A c D d).toArray.setIfInBounds 65 (.slice A2 v.length c2) = (pfC { x with v := v } A2 c2 D d).toArray := by
  apply Array.ext'
  have hk : (x.k.1.map bv).length = 32 := by rw [List.length_map, x.k.2]
  have ho : (x.o.1.map bv).length = 32 := by rw [List.length_map, x.o.2]
  simp only [Array.toList_setIfInBounds, pfC]
  rw [List.set_append_right _ _ (by omega), hk]
  simp only [List.cons_append, List.nil_append, List.set_cons_succ]
  rw [List.set_append_right _ _ (by omega), ho]
  rfl
end Go.Proofs.YtapnhdpgogfceaaGreatDoor

/- (PfH)
  A proof that is built of a key and its sides.
-/
namespace Go.Proofs.YtapnhdpgogfceaaGreatDoor
open Go.RowKit
set_option linter.unusedVariables false
set_option linter.unusedSimpArgs false
set_option maxRecDepth 100000

def zPf : Value := .agg zPfC
theorem placesPf : Places Tryz.prog 30 zPf [(0, 32), (32, 1), (33, 32), (65, 1), (66, 1)] := by unfold Places; kernel_rfl
theorem zPf_list : zPf.cells.toList = [] ++ (z0.1.map bv ++ ([bv 0] ++ (z0.1.map bv ++ ([Value.slice none 0 0] ++ [Value.slice none 0 0])))) := by rfl
theorem built_pf (k : Dg) (L : List Dg) (A : Option Addr) (c : Nat) : Tryz.prog.built 30 [(0, .agg (k.1.map bv).toArray), (4, .slice A L.length c)] = some (pfC ⟨k, 0, z0, [], L⟩ none 0 A c).toArray := by
  have hk : (k.1.map bv).length = 32 := by rw [List.length_map]; exact k.2
  have hz : (z0.1.map bv).length = 32 := by rw [List.length_map]; exact z0.2
  have c1 : (Value.agg (k.1.map bv).toArray).cells = (k.1.map bv).toArray := rfl
  have c2 : (Value.slice A L.length c).cells = #[Value.slice A L.length c] := rfl
  rw [built_places placesPf, fill_cons (off := 0) (by rw [c1, List.size_toArray, hk]; rfl) (by rw [c1, List.size_toArray, hk]; decide +kernel)]
  have e0 : lay zPf.cells.toList 0 (Value.agg (k.1.map bv).toArray).cells.toList = k.1.map bv ++ ([bv 0] ++ (z0.1.map bv ++ ([Value.slice none 0 0] ++ [Value.slice none 0 0]))) := by
    rw [zPf_list, c1]
    exact lay_mid [] (z0.1.map bv) _ (k.1.map bv) (by rw [hk, hz])
  rw [e0, fill_cons (off := 66) (by rw [c2]; rfl) (by rw [c2]; simp [hk, hz])]
  have e2 : lay (k.1.map bv ++ ([bv 0] ++ (z0.1.map bv ++ ([Value.slice none 0 0] ++ [Value.slice none 0 0])))) 66 (Value.slice A L.length c).cells.toList = pfC ⟨k, 0, z0, [], L⟩ none 0 A c := by
    rw [c2]
    have := lay_mid (k.1.map bv ++ [bv 0] ++ z0.1.map bv ++ [Value.slice none 0 0]) [Value.slice none 0 0] [] [Value.slice A L.length c] rfl
    rw [show (k.1.map bv ++ [bv 0] ++ z0.1.map bv ++ [Value.slice none 0 0]).length = 66 by simp [hk, hz]] at this
    simp only [List.append_assoc, List.append_nil] at this
    rw [this]
    simp [pfC]
  simp only [List.toList_toArray]
  rw [e2, Instr.fill]
end Go.Proofs.YtapnhdpgogfceaaGreatDoor

/- (PfI)
  Contracts of the landed package proof: ender, and what it answers.
-/
namespace Go.Proofs.YtapnhdpgogfceaaGreatDoor
open Go.RowKit
set_option linter.unusedVariables false
set_option linter.unusedSimpArgs false
set_option maxRecDepth 100000

theorem PfEnder_any (gm : Nat) (w : World) :
    Calls Tryz.prog 45 #[.pointer (some ⟨gm, 0, none⟩)] w fun e w' => e = .returned (.func (.func 71) #[] #[.pointer (some ⟨w.heap.size, 0, none⟩)]) ∧
      w' = w.alloc (.cells #[.pointer (some ⟨gm, 0, none⟩)] 114) := by
  go_enter Tryz.func45, Tryz.ntmps45
  go_wp2
  go_ret
  exact ⟨rfl, rfl⟩
/-- Where the road ends at nothing. -/
theorem PfEnd_none (gb gm : Nat) (x : Nd) (A : Option Addr) (c : Nat) (p : Pf) (P : Option Addr) (pc : Nat) (D : Option Addr) (d : Nat) (w : World) (hx : x.leaf = false) (hb : w.cell? ⟨gb, 0, none⟩ = some (.pointer (some ⟨gm, 0, none⟩))) (hg : w.heap[gm]? = some (.cells (pfC p P pc D d).toArray 85 (0, 0))) :
    Calls Tryz.prog 71 #[.agg (ndC x A c).toArray, .pointer (some ⟨gb, 0, none⟩)] w fun e w' => e = .returned (.tuple #[]) ∧ w'.heap[gm]? = some (.cells (pfC { p with e := 0 } P pc D d).toArray 85 (0, 0)) ∧ Chg (fun b => b = gm) w w' := by
  have W0 := ext_alloc w (.cells (ndC x A c).toArray 47)
  have B0 := BoxN.new w x A c 47
  have hl := B0.leaf
  rw [hx] at hl
  have hb0 := (W0.cell (World.block_lt_of_cell? _ _ hb)).trans hb
  have hg0 := (W0.block _ (block_lt hg)).trans hg
  have hf := block_frozen hg0 32
  have he := (BoxP.heap hg0).en
  have hn := hid (block_set hg0 32 (bv 0))
  rw [pf_setE] at hn
  have hc := hid ((Chg.of_bel (F := fun b => b = gm) W0))
  clear hb hg hg0 B0
  generalize ndC x A c = cs at *
  go_enter Tryz.func71, Tryz.ntmps71
  go_wp2
  go_end0
  exact ⟨rfl, hn.out, hc.out.trans ⟨rfl, rfl, rfl, by simp [World.setCell], fun k hk hne => Below.heap_setCell _ _ _ k hne⟩⟩
theorem PfEnd_own (gb gm : Nat) (x : Nd) (A : Option Addr) (c : Nat) (p : Pf) (P : Option Addr) (pc : Nat) (D : Option Addr) (d : Nat) (w : World) (hx : x.leaf = true) (hk : x.k = p.k) (hb : w.cell? ⟨gb, 0, none⟩ = some (.pointer (some ⟨gm, 0, none⟩))) (hg : w.heap[gm]? = some (.cells (pfC p P pc D d).toArray 85 (0, 0))) (hne : gb ≠ gm) :
    Calls Tryz.prog 71 #[.agg (ndC x A c).toArray, .pointer (some ⟨gb, 0, none⟩)] w fun e w' => e = .returned (.tuple #[]) ∧ w'.heap[gm]? = some (.cells (pfC { p with e := 1, v := x.v } A c D d).toArray 85 (0, 0)) ∧ Chg (fun b => b = gm) w w' := by
  have W0 := ext_alloc w (.cells (ndC x A c).toArray 47)
  have B0 := BoxN.new w x A c 47
  have hl := B0.leaf
  rw [hx] at hl
  have hv := B0.val
  have nk := hid B0.key
  have hb0 := (W0.cell (World.block_lt_of_cell? _ _ hb)).trans hb
  have lt1 := hid (World.block_lt_of_cell? _ _ hb0)
  have lt2 := hid B0.lt
  have hg0 := (W0.block _ (block_lt hg)).trans hg
  have hng := hid (show w.heap.size ≠ gm by have := block_lt hg; omega)
  have hf1 := block_frozen hg0 32
  have hf2 := block_frozen hg0 65
  have hf3 := block_frozen hg0 33
  have bP := BoxP.heap hg0
  have he := bP.en
  have hpv := bP.val
  have pk := hid bP.key
  have hgd : Hid ((w.alloc (.cells (ndC x A c).toArray 47)).drew.heap[gm]? = some (.cells (pfC p P pc D d).toArray 85 (0, 0))) := hid hg0
  have hu := Tryz.underlying26
  have i1 := hid (sizeDgT x.k)
  have i2 := hid (sizeDgT p.k)
  have hE : ∀ W, (Op.equalIn 10000 26 (.agg (x.k.1.map bv).toArray) (.agg (p.k.1.map bv).toArray)).run Tryz.prog W = .ok true W := fun W => eqd_is x.k p.k true (by simp [hk]) W
  have hc := hid ((Chg.of_bel (F := fun b => b = gm) W0))
  clear hb hg hg0 B0 bP hk
  generalize hcs : ndC x A c = cs at *
  generalize hdx : x.k.1.map bv = dx at *
  generalize hdp : p.k.1.map bv = dp at *
  replace hcs := hid hcs
  replace hdx := hid hdx
  replace hdp := hid hdp
  generalize hw0 : w.alloc (.cells cs.toArray 47) = w0 at *
  go_enter Tryz.func71, Tryz.ntmps71
  go_wp2
  refine wp_region_noPanic ?_
  refine wp_region_held_drew (S := fun w' => Below w0.heap.size w0 w') (by kernel_rfl) ?_ (fun hHeld => ?_)
  · exact bel_drew w0
  refine' wpAnyH_take (i := 0) (oi := _) (v := ?_) rfl (by kernel_rfl) (by kernel_rfl) (by kernel_rfl) (fun _ _ _ h => h) (Or.inl ⟨by rfl, ?_⟩) (by assumption) ?_
  rotate_left
  · intro W hSw
    go_simp
    first | done | (with_reducible rfl)
  try simp only [Act.put, sQa, sQb, sQc, gQa, gQb, gQc]
  refine' wpAnyH_take (i := 1) (oi := _) (v := _) rfl (by kernel_rfl) (by kernel_rfl) (by kernel_rfl) (fun _ _ _ h => h) (yieldsIf_load_mid (by rfl) _ _ rfl _ _ rfl _ _ (fun _ h => rangeBel2 h nk.out) hu rfl i1.out) (by assumption) ?_
  try simp only [Act.put, sQa, sQb, sQc, gQa, gQb, gQc]
  refine' wpAnyH_take (i := 2) (oi := _) (v := ?_) rfl (by kernel_rfl) (by kernel_rfl) (by kernel_rfl) (fun _ _ _ h => h) (Or.inl ⟨by rfl, ?_⟩) (by assumption) ?_
  rotate_left
  · intro W hSw
    have hCell := (hSw.cell (World.block_lt_of_cell? _ _ hb0)).trans hb0
    go_simp
    first | done | (with_reducible rfl)
  try simp only [Act.put, sQa, sQb, sQc, gQa, gQb, gQc]
  refine' wpAnyH_take (i := 3) (oi := _) (v := ?_) rfl (by kernel_rfl) (by kernel_rfl) (by kernel_rfl) (fun _ _ _ h => h) (Or.inl ⟨by rfl, ?_⟩) (by assumption) ?_
  rotate_left
  · intro W hSw
    go_simp
    first | done | (with_reducible rfl)
  try simp only [Act.put, sQa, sQb, sQc, gQa, gQb, gQc]
  refine' wpAnyH_take (i := 4) (oi := _) (v := ?_) rfl (by kernel_rfl) (by kernel_rfl) (by kernel_rfl) (fun _ _ _ h => h) (Or.inl ⟨by rfl, ?_⟩) (by assumption) ?_
  rotate_left
  · intro W hSw
    go_simp
    first | done | (with_reducible rfl)
  try simp only [Act.put, sQa, sQb, sQc, gQa, gQb, gQc]
  refine' wpAnyH_take (i := 5) (oi := _) (v := ?_) rfl (by kernel_rfl) (by kernel_rfl) (by kernel_rfl) (fun _ _ _ h => h) (Or.inl ⟨by rfl, ?_⟩) (by assumption) ?_
  rotate_left
  · intro W hSw
    go_simp
    first | done | (with_reducible rfl)
  try simp only [Act.put, sQa, sQb, sQc, gQa, gQb, gQc]
  refine' wpAnyH_take (i := 6) (oi := _) (v := _) rfl (by kernel_rfl) (by kernel_rfl) (by kernel_rfl) (fun _ _ _ h => h) (yieldsIf_load_mid (by rfl) _ _ rfl _ _ rfl _ _ (fun _ h => rangeBel2 h pk.out) hu rfl i2.out) (by assumption) ?_
  try simp only [Act.put, sQa, sQb, sQc, gQa, gQb, gQc]
  refine' wpAnyH_take (i := 7) (oi := _) (v := ?_) rfl (by kernel_rfl) (by kernel_rfl) (by kernel_rfl) (fun _ _ _ h => h) (Or.inl ⟨by rfl, ?_⟩) (by assumption) ?_
  rotate_left
  · intro W hSw
    go_simp
    first | done | (with_reducible rfl)
  try simp only [Act.put, sQa, sQb, sQc, gQa, gQb, gQc]
  refine' wpAnyH_take (i := 8) (oi := _) (v := ?_) rfl (by kernel_rfl) (by kernel_rfl) (by kernel_rfl) (fun _ _ _ h => h) (Or.inl ⟨by rfl, ?_⟩) (by assumption) ?_
  rotate_left
  · intro W hSw
    go_simp
    first | done | (with_reducible rfl)
  try simp only [Act.put, sQa, sQb, sQc, gQa, gQb, gQc]
  refine wpAnyH_done (by kernel_rfl) ?_ _
  refine NoPanic.normal ?_
  go_wp2
  have q1 := block_set (show w0.heap[gm]? = some (.cells (pfC p P pc D d).toArray 85 (0, 0)) from hgd.out) 32 (bv 1)
  rw [pf_setE] at q1
  have q2 := block_set q1 65 (.slice A x.v.length c)
  rw [pf_setW] at q2
  replace q2 := hid q2
  clear q1
  refine wp_region_noPanic ?_
  refine wp_region_held_drew (S := fun w' => Chg (fun b => b = gm) w0 w') (by kernel_rfl) ?_ (fun hHeld => ?_)
  · exact (Chg.of_bel ((bel_drew w0).trans (bel_drew w0.drew)))
  refine' wpAnyH_take (i := 0) (oi := _) (v := ?_) rfl (by kernel_rfl) (by kernel_rfl) (by kernel_rfl) (fun _ _ _ h => h) (Or.inl ⟨by rfl, ?_⟩) (by assumption) ?_
  rotate_left
  · intro W hSw
    have hCell := ((World.cell?_of_block (a := ⟨gb, 0, none⟩) (hSw.block _ lt1.out hne)).trans hb0)
    go_simp
    first | done | (with_reducible rfl)
  try simp only [Act.put, sQa, sQb, sQc, gQa, gQb, gQc]
  refine' wpAnyH_take (i := 1) (oi := _) (v := ?_) rfl (by kernel_rfl) (by kernel_rfl) (by kernel_rfl) (fun _ _ _ h => h) (Or.inl ⟨by rfl, ?_⟩) (by assumption) ?_
  rotate_left
  · intro W hSw
    have hCell := ((World.cell?_of_block (a := ⟨gb, 0, none⟩) (hSw.block _ lt1.out hne)).trans hb0)
    go_simp
    first | done | (with_reducible rfl)
  try simp only [Act.put, sQa, sQb, sQc, gQa, gQb, gQc]
  refine' wpAnyH_take (i := 2) (oi := _) (v := ?_) rfl (by kernel_rfl) (by kernel_rfl) (by kernel_rfl) (fun _ _ _ h => h) (Or.inl ⟨by rfl, ?_⟩) (by assumption) ?_
  rotate_left
  · intro W hSw
    go_simp
    first | done | (with_reducible rfl)
  try simp only [Act.put, sQa, sQb, sQc, gQa, gQb, gQc]
  refine' wpAnyH_take (i := 3) (oi := _) (v := ?_) rfl (by kernel_rfl) (by kernel_rfl) (by kernel_rfl) (fun _ _ _ h => h) (Or.inl ⟨by rfl, ?_⟩) (by assumption) ?_
  rotate_left
  · intro W hSw
    have hCell := ((World.cell?_of_block (a := ⟨w.heap.size, 33, none⟩) (hSw.block _ lt2.out hng.out)).trans hv)
    go_simp
    first | done | (with_reducible rfl)
  try simp only [Act.put, sQa, sQb, sQc, gQa, gQb, gQc]
  refine' wpAnyH_take (i := 4) (oi := _) (v := ?_) rfl (by kernel_rfl) (by kernel_rfl) (by kernel_rfl) (fun _ _ _ h => h) (Or.inl ⟨by rfl, ?_⟩) (by assumption) ?_
  rotate_left
  · intro W hSw
    go_simp
    first | done | (with_reducible rfl)
  try simp only [Act.put, sQa, sQb, sQc, gQa, gQb, gQc]
  refine' wpAnyH_take (i := 5) (oi := _) (v := ?_) rfl (by kernel_rfl) (by kernel_rfl) (by kernel_rfl) (fun _ _ _ h => h) (Or.inl ⟨by rfl, ?_⟩) (by assumption) ?_
  rotate_left
  · intro W hSw
    go_simp
    first | done | (with_reducible rfl)
  try simp only [Act.put, sQa, sQb, sQc, gQa, gQb, gQc]
  refine' wpAnyH_take (i := 6) (oi := _) (v := ?_) rfl (by kernel_rfl) (by kernel_rfl) (by kernel_rfl) (fun _ _ _ h => h) (Or.inl ⟨by rfl, ?_⟩) (by assumption) ?_
  rotate_left
  · intro W hSw
    go_simp
    first | done | (with_reducible rfl)
  try simp only [Act.put, sQa, sQb, sQc, gQa, gQb, gQc]
  refine wpAnyH_ready (rs := [7]) (by kernel_rfl) (by simp) ?_
  refine AllReadyH.cons (o := _) rfl (fun K hK => ?_) AllReadyH.nil
  go_simp
  refine hK.out _ _ ?_ (fun hHeld => ?_)
  · exact hHeld.trans ⟨rfl, rfl, rfl, by simp [World.setCell], fun k hk hne => Below.heap_setCell _ _ _ k hne⟩
  clear hK K
  try simp only [Act.put, sQa, sQb, sQc, gQa, gQb, gQc]
  refine' wpAnyH_take (i := 8) (oi := _) (v := ?_) rfl (by kernel_rfl) (by kernel_rfl) (by kernel_rfl) (fun _ _ _ h => h) (Or.inl ⟨by rfl, ?_⟩) (by assumption) ?_
  rotate_left
  · intro W hSw
    go_simp
    first | done | (with_reducible rfl)
  try simp only [Act.put, sQa, sQb, sQc, gQa, gQb, gQc]
  refine' wpAnyH_take (i := 9) (oi := _) (v := ?_) rfl (by kernel_rfl) (by kernel_rfl) (by kernel_rfl) (fun _ _ _ h => h) (Or.inl ⟨by rfl, ?_⟩) (by assumption) ?_
  rotate_left
  · intro W hSw
    go_simp
    first | done | (with_reducible rfl)
  try simp only [Act.put, sQa, sQb, sQc, gQa, gQb, gQc]
  refine' wpAnyH_take (i := 10) (oi := _) (v := ?_) rfl (by kernel_rfl) (by kernel_rfl) (by kernel_rfl) (fun _ _ _ h => h) (Or.inl ⟨by rfl, ?_⟩) (by assumption) ?_
  rotate_left
  · intro W hSw
    go_simp
    first | done | (with_reducible rfl)
  try simp only [Act.put, sQa, sQb, sQc, gQa, gQb, gQc]
  refine wpAnyH_ready (rs := [11]) (by kernel_rfl) (by simp) ?_
  refine AllReadyH.cons (o := _) rfl (fun K hK => ?_) AllReadyH.nil
  go_simp
  refine hK.out _ _ ?_ (fun hHeld => ?_)
  · exact hHeld.trans ⟨rfl, rfl, rfl, by simp [World.setCell], fun k hk hne => Below.heap_setCell _ _ _ k hne⟩
  clear hK K
  try simp only [Act.put, sQa, sQb, sQc, gQa, gQb, gQc]
  refine wpAnyH_done (by kernel_rfl) ?_ _
  refine NoPanic.normal ?_
  go_wp2
  go_end0
  exact ⟨rfl, q2.out, hc.out.trans hHeld⟩
theorem there_of_block {W : World} {g : Nat} {cs : Array Value} {t : TypeId} (h : W.heap[g]? = some (.cells cs t (0, 0))) (o n : Nat) (hn : o + n ≤ cs.size) : W.there g o n := fun j hj => ⟨by rw [block_cell h, Array.getElem?_eq_getElem (by omega)]; rfl, block_frozen h _⟩
theorem pf_setO (x : Pf) (k : Dg) (A : Option Addr) (c : Nat) (D : Option Addr) (d : Nat) : setA (pfC x A c D d).toArray 33 (k.1.map bv) = (pfC { x with o := k } A c D d).toArray := by
  apply Array.ext'
  have hx : (x.k.1.map bv).length = 32 := by rw [List.length_map, x.k.2]
  have hk : (k.1.map bv).length = (x.o.1.map bv).length := by rw [List.length_map, List.length_map, k.2, x.o.2]
  rw [setA_lay _ _ _ (by rw [List.size_toArray, len_pf, List.length_map, k.2]; decide)]
  have := lay_mid (x.k.1.map bv ++ [bv x.e]) (x.o.1.map bv) ([.slice A x.v.length c] ++ [.slice D x.ss.length d]) (k.1.map bv) hk
  rw [show (x.k.1.map bv ++ [bv x.e]).length = 33 by simp [x.k.2]] at this
  simpa [pfC] using this
theorem chg_cells (g o : Nat) (vs : List Value) (W : World) : Chg (fun b => b = g) W (W.setCells g o vs) :=
  have q := setCells_below (Nat.le_refl g) vs o (Below.refl g W)
  ⟨q.os, q.tape, q.output, q.size, fun k _ hne => setCells_other hne _ _ _⟩
theorem PfEnd_other (gb gm : Nat) (x : Nd) (A : Option Addr) (c : Nat) (p : Pf) (P : Option Addr) (pc : Nat) (D : Option Addr) (d : Nat) (w : World) (hx : x.leaf = true) (hk : x.k ≠ p.k) (hb : w.cell? ⟨gb, 0, none⟩ = some (.pointer (some ⟨gm, 0, none⟩))) (hg : w.heap[gm]? = some (.cells (pfC p P pc D d).toArray 85 (0, 0))) (hne : gb ≠ gm) :
    Calls Tryz.prog 71 #[.agg (ndC x A c).toArray, .pointer (some ⟨gb, 0, none⟩)] w fun e w' => e = .returned (.tuple #[]) ∧ w'.heap[gm]? = some (.cells (pfC { p with e := 2, o := x.k, v := x.v } A c D d).toArray 85 (0, 0)) ∧ Chg (fun b => b = gm) w w' := by
  have W0 := ext_alloc w (.cells (ndC x A c).toArray 47)
  have B0 := BoxN.new w x A c 47
  have hl := B0.leaf
  rw [hx] at hl
  have hv := B0.val
  have nk := hid B0.key
  have hb0 := (W0.cell (World.block_lt_of_cell? _ _ hb)).trans hb
  have lt1 := hid (World.block_lt_of_cell? _ _ hb0)
  have lt2 := hid B0.lt
  have hg0 := (W0.block _ (block_lt hg)).trans hg
  have hng := hid (show w.heap.size ≠ gm by have := block_lt hg; omega)
  have hf1 := block_frozen hg0 32
  have hf2 := block_frozen hg0 65
  have hf3 := block_frozen hg0 33
  have bP := BoxP.heap hg0
  have he := bP.en
  have hpv := bP.val
  have pk := hid bP.key
  have hgd : Hid ((w.alloc (.cells (ndC x A c).toArray 47)).drew.heap[gm]? = some (.cells (pfC p P pc D d).toArray 85 (0, 0))) := hid hg0
  have hu := Tryz.underlying26
  have i1 := hid (sizeDgT x.k)
  have i2 := hid (sizeDgT p.k)
  have hE : ∀ W, (Op.equalIn 10000 26 (.agg (x.k.1.map bv).toArray) (.agg (p.k.1.map bv).toArray)).run Tryz.prog W = .ok false W := fun W => eqd_is x.k p.k false (by simp [hk]) W
  have hc := hid ((Chg.of_bel (F := fun b => b = gm) W0))
  clear hb hg hg0 B0 bP hk
  generalize hcs : ndC x A c = cs at *
  generalize hdx : x.k.1.map bv = dx at *
  generalize hdp : p.k.1.map bv = dp at *
  replace hcs := hid hcs
  replace hdx := hid hdx
  replace hdp := hid hdp
  generalize hw0 : w.alloc (.cells cs.toArray 47) = w0 at *
  go_enter Tryz.func71, Tryz.ntmps71
  go_wp2
  refine wp_region_noPanic ?_
  refine wp_region_held_drew (S := fun w' => Below w0.heap.size w0 w') (by kernel_rfl) ?_ (fun hHeld => ?_)
  · exact bel_drew w0
  refine' wpAnyH_take (i := 0) (oi := _) (v := ?_) rfl (by kernel_rfl) (by kernel_rfl) (by kernel_rfl) (fun _ _ _ h => h) (Or.inl ⟨by rfl, ?_⟩) (by assumption) ?_
  rotate_left
  · intro W hSw
    go_simp
    first | done | (with_reducible rfl)
  try simp only [Act.put, sQa, sQb, sQc, gQa, gQb, gQc]
  refine' wpAnyH_take (i := 1) (oi := _) (v := _) rfl (by kernel_rfl) (by kernel_rfl) (by kernel_rfl) (fun _ _ _ h => h) (yieldsIf_load_mid (by rfl) _ _ rfl _ _ rfl _ _ (fun _ h => rangeBel2 h nk.out) hu rfl i1.out) (by assumption) ?_
  try simp only [Act.put, sQa, sQb, sQc, gQa, gQb, gQc]
  refine' wpAnyH_take (i := 2) (oi := _) (v := ?_) rfl (by kernel_rfl) (by kernel_rfl) (by kernel_rfl) (fun _ _ _ h => h) (Or.inl ⟨by rfl, ?_⟩) (by assumption) ?_
  rotate_left
  · intro W hSw
    have hCell := (hSw.cell (World.block_lt_of_cell? _ _ hb0)).trans hb0
    go_simp
    first | done | (with_reducible rfl)
  try simp only [Act.put, sQa, sQb, sQc, gQa, gQb, gQc]
  refine' wpAnyH_take (i := 3) (oi := _) (v := ?_) rfl (by kernel_rfl) (by kernel_rfl) (by kernel_rfl) (fun _ _ _ h => h) (Or.inl ⟨by rfl, ?_⟩) (by assumption) ?_
  rotate_left
  · intro W hSw
    go_simp
    first | done | (with_reducible rfl)
  try simp only [Act.put, sQa, sQb, sQc, gQa, gQb, gQc]
  refine' wpAnyH_take (i := 4) (oi := _) (v := ?_) rfl (by kernel_rfl) (by kernel_rfl) (by kernel_rfl) (fun _ _ _ h => h) (Or.inl ⟨by rfl, ?_⟩) (by assumption) ?_
  rotate_left
  · intro W hSw
    go_simp
    first | done | (with_reducible rfl)
  try simp only [Act.put, sQa, sQb, sQc, gQa, gQb, gQc]
  refine' wpAnyH_take (i := 5) (oi := _) (v := ?_) rfl (by kernel_rfl) (by kernel_rfl) (by kernel_rfl) (fun _ _ _ h => h) (Or.inl ⟨by rfl, ?_⟩) (by assumption) ?_
  rotate_left
  · intro W hSw
    go_simp
    first | done | (with_reducible rfl)
  try simp only [Act.put, sQa, sQb, sQc, gQa, gQb, gQc]
  refine' wpAnyH_take (i := 6) (oi := _) (v := _) rfl (by kernel_rfl) (by kernel_rfl) (by kernel_rfl) (fun _ _ _ h => h) (yieldsIf_load_mid (by rfl) _ _ rfl _ _ rfl _ _ (fun _ h => rangeBel2 h pk.out) hu rfl i2.out) (by assumption) ?_
  try simp only [Act.put, sQa, sQb, sQc, gQa, gQb, gQc]
  refine' wpAnyH_take (i := 7) (oi := _) (v := ?_) rfl (by kernel_rfl) (by kernel_rfl) (by kernel_rfl) (fun _ _ _ h => h) (Or.inl ⟨by rfl, ?_⟩) (by assumption) ?_
  rotate_left
  · intro W hSw
    go_simp
    first | done | (with_reducible rfl)
  try simp only [Act.put, sQa, sQb, sQc, gQa, gQb, gQc]
  refine' wpAnyH_take (i := 8) (oi := _) (v := ?_) rfl (by kernel_rfl) (by kernel_rfl) (by kernel_rfl) (fun _ _ _ h => h) (Or.inl ⟨by rfl, ?_⟩) (by assumption) ?_
  rotate_left
  · intro W hSw
    go_simp
    first | done | (with_reducible rfl)
  try simp only [Act.put, sQa, sQb, sQc, gQa, gQb, gQc]
  refine wpAnyH_done (by kernel_rfl) ?_ _
  refine NoPanic.normal ?_
  go_wp2
  have q1 := block_set (show w0.heap[gm]? = some (.cells (pfC p P pc D d).toArray 85 (0, 0)) from hgd.out) 32 (bv 2)
  rw [pf_setE] at q1
  replace q1 : ((w0.setCell ⟨gm, 32, none⟩ (.int .u8 2)).drew.drew).heap[gm]? = some (.cells (pfC { p with e := 2 } P pc D d).toArray 85 (0, 0)) := q1
  have th := hid (there_of_block q1 33 32 (by rw [List.size_toArray, len_pf]; decide))
  have q2 := setCells_block dx 33 _ _ q1
  rw [← hdx.out, pf_setO, hdx.out] at q2
  have hf5 := block_frozen q2 65
  have he5 := (BoxP.heap q2).val
  have q3 := block_set q2 65 (.slice A x.v.length c)
  rw [pf_setW] at q3
  replace q3 := hid q3
  replace q2 := hid q2
  have h32 := hid (show dx.length = 32 by rw [← hdx.out, List.length_map, x.k.2])
  have h1c := hid (show dx.toArray.all (·.oneCell') = true from all_oneCell_toArray (by rw [← hdx.out]; exact bvs_one x.k.1))
  clear q1
  refine wp_region_noPanic ?_
  refine wp_region_held_drew (S := fun w' => Chg (fun b => b = gm) w0 w') (by kernel_rfl) ?_ (fun hHeld => ?_)
  · exact (Chg.of_bel ((bel_drew w0).trans (bel_drew w0.drew)))
  refine' wpAnyH_take (i := 0) (oi := _) (v := ?_) rfl (by kernel_rfl) (by kernel_rfl) (by kernel_rfl) (fun _ _ _ h => h) (Or.inl ⟨by rfl, ?_⟩) (by assumption) ?_
  rotate_left
  · intro W hSw
    have hCell := ((World.cell?_of_block (a := ⟨gb, 0, none⟩) (hSw.block _ lt1.out hne)).trans hb0)
    go_simp
    first | done | (with_reducible rfl)
  try simp only [Act.put, sQa, sQb, sQc, gQa, gQb, gQc]
  refine' wpAnyH_take (i := 1) (oi := _) (v := ?_) rfl (by kernel_rfl) (by kernel_rfl) (by kernel_rfl) (fun _ _ _ h => h) (Or.inl ⟨by rfl, ?_⟩) (by assumption) ?_
  rotate_left
  · intro W hSw
    have hCell := ((World.cell?_of_block (a := ⟨gb, 0, none⟩) (hSw.block _ lt1.out hne)).trans hb0)
    go_simp
    first | done | (with_reducible rfl)
  try simp only [Act.put, sQa, sQb, sQc, gQa, gQb, gQc]
  refine' wpAnyH_take (i := 2) (oi := _) (v := ?_) rfl (by kernel_rfl) (by kernel_rfl) (by kernel_rfl) (fun _ _ _ h => h) (Or.inl ⟨by rfl, ?_⟩) (by assumption) ?_
  rotate_left
  · intro W hSw
    have hCell := ((World.cell?_of_block (a := ⟨gb, 0, none⟩) (hSw.block _ lt1.out hne)).trans hb0)
    go_simp
    first | done | (with_reducible rfl)
  try simp only [Act.put, sQa, sQb, sQc, gQa, gQb, gQc]
  refine' wpAnyH_take (i := 3) (oi := _) (v := ?_) rfl (by kernel_rfl) (by kernel_rfl) (by kernel_rfl) (fun _ _ _ h => h) (Or.inl ⟨by rfl, ?_⟩) (by assumption) ?_
  rotate_left
  · intro W hSw
    go_simp
    first | done | (with_reducible rfl)
  try simp only [Act.put, sQa, sQb, sQc, gQa, gQb, gQc]
  refine' wpAnyH_take (i := 4) (oi := _) (v := _) rfl (by kernel_rfl) (by kernel_rfl) (by kernel_rfl) (fun _ _ _ h => h) (yieldsIf_load_mid (by rfl) _ _ rfl _ _ rfl _ _ (fun _ h => (rangeAt_kept nk.out fun hl => h.block _ hl hng.out)) hu rfl i1.out) (by assumption) ?_
  try simp only [Act.put, sQa, sQb, sQc, gQa, gQb, gQc]
  refine' wpAnyH_take (i := 5) (oi := _) (v := ?_) rfl (by kernel_rfl) (by kernel_rfl) (by kernel_rfl) (fun _ _ _ h => h) (Or.inl ⟨by rfl, ?_⟩) (by assumption) ?_
  rotate_left
  · intro W hSw
    go_simp
    first | done | (with_reducible rfl)
  try simp only [Act.put, sQa, sQb, sQc, gQa, gQb, gQc]
  refine' wpAnyH_take (i := 6) (oi := _) (v := ?_) rfl (by kernel_rfl) (by kernel_rfl) (by kernel_rfl) (fun _ _ _ h => h) (Or.inl ⟨by rfl, ?_⟩) (by assumption) ?_
  rotate_left
  · intro W hSw
    have hCell := ((World.cell?_of_block (a := ⟨w.heap.size, 33, none⟩) (hSw.block _ lt2.out hng.out)).trans hv)
    go_simp
    first | done | (with_reducible rfl)
  try simp only [Act.put, sQa, sQb, sQc, gQa, gQb, gQc]
  refine' wpAnyH_take (i := 7) (oi := _) (v := ?_) rfl (by kernel_rfl) (by kernel_rfl) (by kernel_rfl) (fun _ _ _ h => h) (Or.inl ⟨by rfl, ?_⟩) (by assumption) ?_
  rotate_left
  · intro W hSw
    go_simp
    first | done | (with_reducible rfl)
  try simp only [Act.put, sQa, sQb, sQc, gQa, gQb, gQc]
  refine' wpAnyH_take (i := 8) (oi := _) (v := ?_) rfl (by kernel_rfl) (by kernel_rfl) (by kernel_rfl) (fun _ _ _ h => h) (Or.inl ⟨by rfl, ?_⟩) (by assumption) ?_
  rotate_left
  · intro W hSw
    go_simp
    first | done | (with_reducible rfl)
  try simp only [Act.put, sQa, sQb, sQc, gQa, gQb, gQc]
  refine' wpAnyH_take (i := 9) (oi := _) (v := ?_) rfl (by kernel_rfl) (by kernel_rfl) (by kernel_rfl) (fun _ _ _ h => h) (Or.inl ⟨by rfl, ?_⟩) (by assumption) ?_
  rotate_left
  · intro W hSw
    go_simp
    first | done | (with_reducible rfl)
  try simp only [Act.put, sQa, sQb, sQc, gQa, gQb, gQc]
  refine wpAnyH_ready (rs := [10]) (by kernel_rfl) (by simp) ?_
  refine AllReadyH.cons (o := _) rfl (fun K hK => ?_) AllReadyH.nil
  go_simp
  refine hK.out _ _ ?_ (fun hHeld => ?_)
  · exact hHeld.trans ⟨rfl, rfl, rfl, by simp [World.setCell], fun k hk hne => Below.heap_setCell _ _ _ k hne⟩
  clear hK K
  try simp only [Act.put, sQa, sQb, sQc, gQa, gQb, gQc]
  refine' wpAnyH_take (i := 11) (oi := _) (v := ?_) rfl (by kernel_rfl) (by kernel_rfl) (by kernel_rfl) (fun _ _ _ h => h) (Or.inl ⟨by rfl, ?_⟩) (by assumption) ?_
  rotate_left
  · intro W hSw
    go_simp
    first | done | (with_reducible rfl)
  try simp only [Act.put, sQa, sQb, sQc, gQa, gQb, gQc]
  refine' wpAnyH_take (i := 12) (oi := _) (v := ?_) rfl (by kernel_rfl) (by kernel_rfl) (by kernel_rfl) (fun _ _ _ h => h) (Or.inl ⟨by rfl, ?_⟩) (by assumption) ?_
  rotate_left
  · intro W hSw
    go_simp
    first | done | (with_reducible rfl)
  try simp only [Act.put, sQa, sQb, sQc, gQa, gQb, gQc]
  refine' wpAnyH_take (i := 13) (oi := _) (v := ?_) rfl (by kernel_rfl) (by kernel_rfl) (by kernel_rfl) (fun _ _ _ h => h) (Or.inl ⟨by rfl, ?_⟩) (by assumption) ?_
  rotate_left
  · intro W hSw
    go_simp
    first | done | (with_reducible rfl)
  try simp only [Act.put, sQa, sQb, sQc, gQa, gQb, gQc]
  refine wpAnyH_ready (rs := [14]) (by kernel_rfl) (by simp) ?_
  refine AllReadyH.cons (o := _) rfl (fun K hK => ?_) AllReadyH.nil
  refine wp_store_mid 26 (.tmp 15) (.tmp 7) rfl gm 33 dx.toArray rfl rfl (by rw [List.size_toArray, h32.out]; exact th.out) (by rw [List.size_toArray]; exact i1.out) h1c.out ?_
  simp only [List.toList_toArray]
  refine hK.out _ _ ?_ (fun hHeld => ?_)
  · exact hHeld.trans (chg_cells _ _ _ _)
  clear hK K
  try simp only [Act.put, sQa, sQb, sQc, gQa, gQb, gQc]
  refine' wpAnyH_take (i := 15) (oi := _) (v := ?_) rfl (by kernel_rfl) (by kernel_rfl) (by kernel_rfl) (fun _ _ _ h => h) (Or.inl ⟨by rfl, ?_⟩) (by assumption) ?_
  rotate_left
  · intro W hSw
    go_simp
    first | done | (with_reducible rfl)
  try simp only [Act.put, sQa, sQb, sQc, gQa, gQb, gQc]
  refine' wpAnyH_take (i := 16) (oi := _) (v := ?_) rfl (by kernel_rfl) (by kernel_rfl) (by kernel_rfl) (fun _ _ _ h => h) (Or.inl ⟨by rfl, ?_⟩) (by assumption) ?_
  rotate_left
  · intro W hSw
    go_simp
    first | done | (with_reducible rfl)
  try simp only [Act.put, sQa, sQb, sQc, gQa, gQb, gQc]
  refine' wpAnyH_take (i := 17) (oi := _) (v := ?_) rfl (by kernel_rfl) (by kernel_rfl) (by kernel_rfl) (fun _ _ _ h => h) (Or.inl ⟨by rfl, ?_⟩) (by assumption) ?_
  rotate_left
  · intro W hSw
    go_simp
    first | done | (with_reducible rfl)
  try simp only [Act.put, sQa, sQb, sQc, gQa, gQb, gQc]
  refine wpAnyH_ready (rs := [18]) (by kernel_rfl) (by simp) ?_
  refine AllReadyH.cons (o := _) rfl (fun K hK => ?_) AllReadyH.nil
  go_simp
  refine hK.out _ _ ?_ (fun hHeld => ?_)
  · exact hHeld.trans ⟨rfl, rfl, rfl, by simp [World.setCell], fun k hk hne => Below.heap_setCell _ _ _ k hne⟩
  clear hK K
  try simp only [Act.put, sQa, sQb, sQc, gQa, gQb, gQc]
  refine wpAnyH_done (by kernel_rfl) ?_ _
  refine NoPanic.normal ?_
  go_wp2
  go_end0
  exact ⟨rfl, q3.out, hc.out.trans hHeld⟩
end Go.Proofs.YtapnhdpgogfceaaGreatDoor

/- (PfJ)
  Contracts of the landed package proof: Make.
-/
namespace Go.Proofs.YtapnhdpgogfceaaGreatDoor
open Go.RowKit
set_option linter.unusedVariables false
set_option linter.unusedSimpArgs false
set_option maxRecDepth 100000

def zMkC : Array Value := (pfC pf0 none 0 none 0).toArray
theorem zInfoMk : (Tryz.prog.info? 85).map (fun i => (i.zero, i.size)) = some (some (.agg zMkC), zMkC.size) := by kernel_rfl
theorem sizeMk : (Tryz.prog.info? 85).map (·.size) = some 67 := by kernel_rfl
theorem placesMk : Places Tryz.prog 85 zPf [(0, 67)] := by unfold Places; kernel_rfl
theorem built_mk (x : Pf) (A : Option Addr) (c : Nat) (D : Option Addr) (d : Nat) : Tryz.prog.built 85 [(0, .agg (pfC x A c D d).toArray)] = some (pfC x A c D d).toArray := by
  have c1 : (Value.agg (pfC x A c D d).toArray).cells = (pfC x A c D d).toArray := rfl
  have hl := len_pf x A c D d
  have hz : zPf.cells.toList.length = 67 := by rfl
  rw [built_places placesMk, fill_cons (off := 0) (by rw [c1, List.size_toArray, hl]; rfl) (by rw [c1, List.size_toArray, hl]; decide +kernel), c1]
  have e0 := lay_mid [] zPf.cells.toList [] (pfC x A c D d) (by rw [hl, hz])
  simp only [List.nil_append, List.append_nil, List.length_nil] at e0
  rw [e0, Instr.fill]
theorem res_pf {fn : Func} {p u : Tmp} (h : fn.results = #[.cell p 30, .tmp u]) (tmps : Array Value) (w : World) (g : Nat) (cs : List Value) (e1 : tmps.getD p undef = .pointer (some ⟨g, 0, none⟩))
    (hg : w.heap[g]? = some (.cells cs.toArray 30 (0, 0))) (hl : cs.length = 67) : (results fn tmps).run Tryz.prog w = .ok (.tuple #[.agg cs.toArray, tmps.getD u undef]) w := by
  have h2 := run_loadVar_mid (P := Tryz.prog) w g 0 30 cs _ (rangeOf hg) Tryz.underlying30 rfl (by rw [hl]; exact sizePf)
  have e2 : tmps[p]?.getD undef = .pointer (some ⟨g, 0, none⟩) := by simpa using e1
  simp only [results, h]
  simp [Sem.run_bind, Result.andThen, e2, asAddr, Sem.run_pure, h2]
/-- What the closure makes of a proof at the node where the road ends. -/
def endF (x : Nd) (p : Pf) : Pf := if x.leaf = true then (if x.k = p.k then { p with e := 1, v := x.v } else { p with e := 2, o := x.k, v := x.v }) else { p with e := 0 }
theorem PfEnd_any (gb gm : Nat) (x : Nd) (A : Option Addr) (c : Nat) (p : Pf) (P : Option Addr) (pc : Nat) (D : Option Addr) (d : Nat) (w : World) (hb : w.cell? ⟨gb, 0, none⟩ = some (.pointer (some ⟨gm, 0, none⟩))) (hg : w.heap[gm]? = some (.cells (pfC p P pc D d).toArray 85 (0, 0))) (hne : gb ≠ gm) :
    Calls Tryz.prog 71 #[.agg (ndC x A c).toArray, .pointer (some ⟨gb, 0, none⟩)] w fun e w' => e = .returned (.tuple #[]) ∧ w'.heap[gm]? = some (.cells (pfC (endF x p) (if x.leaf = true then A else P) (if x.leaf = true then c else pc) D d).toArray 85 (0, 0)) ∧ Chg (fun b => b = gm) w w' := by
  cases hl : x.leaf with
  | false =>
    have e : endF x p = { p with e := 0 } := by unfold endF; rw [hl]; rfl
    rw [e]
    exact PfEnd_none gb gm x A c p P pc D d w hl hb hg
  | true =>
    by_cases hk : x.k = p.k
    · have e : endF x p = { p with e := 1, v := x.v } := by unfold endF; rw [if_pos hl, if_pos hk]
      rw [e]
      exact PfEnd_own gb gm x A c p P pc D d w hl hk hb hg hne
    · have e : endF x p = { p with e := 2, o := x.k, v := x.v } := by unfold endF; rw [if_pos hl, if_neg hk]
      rw [e]
      exact PfEnd_other gb gm x A c p P pc D d w hl hk hb hg hne
theorem makeF_end {t : Tr} {k : Dg} (h : mayT t = true) : makeF t k = endF (endN t k) ⟨k, 0, z0, [], sidesM t k⟩ := by
  unfold makeF endF
  rw [if_pos h]
end Go.Proofs.YtapnhdpgogfceaaGreatDoor
