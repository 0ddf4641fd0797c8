/-
  Texts laid together: PfB, PfD, PfG, PfH, PfI, PfJ.
-/
import Derived.Test.YtnoglodggchgpabDoorPf
import Derived.Test.YtnoglodggchgpabDoorTreeB
import Derived.Test.YtnoglodggchgpabDoorRef06c
import Derived.Test.YtnoglodggchgpabDoorBits
import Derived.Test.YtnoglodggchgpabDoorTrA
import Derived.Great.BuildSlice
import Derived.Test.YtnoglodggchgpabDoorTreeW
import Derived.Test.YtnoglodggchgpabDoorBuilt
import Derived.Test.YtnoglodggchgpabDoorRowSet
import Derived.Test.YtnoglodggchgpabDoorTrB
set_option maxRecDepth 100000
/- (PfB)
  The program's facts on proofs: their type, among a law's arguments.
-/
namespace Go.Proofs.YtnoglodggchgpabDoor
open Go.RowKit
set_option linter.unusedVariables false
set_option maxRecDepth 100000

def zPfC : Array Value := (pfC pf0 none 0 none 0).toArray
theorem zInfoPf : (Tryd.prog.info? 27).map (fun i => (i.zero, i.size)) = some (some (.agg zPfC), zPfC.size) := by kernel_rfl
theorem zSizePf : zPfC.size = 67 := by decide +kernel
theorem sizePf : (Tryd.prog.info? 27).map (·.size) = some 67 := by kernel_rfl
theorem sizePfC (x : Pf) (A : Option Addr) (c : Nat) (D : Option Addr) (d : Nat) : (Tryd.prog.info? 27).map (·.size) = some (pfC x A c D d).length := by rw [len_pf]; exact sizePf
theorem sizePfS (x : Pf) (A : Option Addr) (c : Nat) (D : Option Addr) (d : Nat) : (Tryd.prog.info? 27).map (·.size) = some (pfC x A c D d).toArray.size := by rw [List.size_toArray, len_pf]; exact sizePf
theorem opensDgs : Opens Tryd.prog 25 (List Dg) := Opens.slice Tryd.underlying25 (by kernel_rfl) opensDg
theorem opensPf : Opens Tryd.prog 27 Pf :=
  Opens.by_ (fun x : Pf => (x.k, x.e, x.o, x.v, x.ss)) (fun b => ⟨b.1, b.2.1, b.2.2.1, b.2.2.2.1, b.2.2.2.2⟩) (fun b => rfl) (Opens.struct5 Tryd.underlying27 (by kernel_rfl) rfl rfl rfl rfl rfl opensDg opensByte opensDg opensBytes opensDgs)
end Go.Proofs.YtnoglodggchgpabDoor

/- (PfD)
  The library's slices.Equal and slices.Clone of digests, at this program.
-/
namespace Go.Proofs.YtnoglodggchgpabDoor
open Go.RowKit
set_option linter.unusedVariables false
set_option linter.unusedSimpArgs false
set_option maxRecDepth 100000


theorem slotDgP : Slot Tryd.prog Dg 25 23 (.agg z32) 32 where
  under := Tryd.underlying25
  info := by kernel_rfl
  zero := by decide +kernel
  pos := by decide
theorem wpList_build0 {P : Program} {α : Type} [Enc α] {S E : TypeId} {z : Value} {bytes : Nat} (hS : Slot P α S E z bytes) {w : World} {ops : Array Oper} {rest : List Oper} {o : Oper} {a : Act} {Q : Exit → Act → World → Prop} (hg : Region.wanted o (yielded ops a.tmps) = true)
    (hop : o.op = .buildSlice S 0 #[]) (hK : wpList P ops Q rest (a.put o.dst (.slice (some ⟨w.heap.size, 0, none⟩) 0 0)) (w.alloc (.cells #[] E))) : wpList P ops Q (o :: rest) a w :=
  wpList_step fun K hK2 => by
    rw [if_pos hg]
    obtain ⟨i, hi, hz, hsz, hby⟩ := info_parts hS.info
    unfold Oper.wp execOp
    have e : (Instr.buildSlice S 0 #[]).run P w = .ok (.slice (some ⟨w.heap.size, 0, none⟩) 0 0) (w.alloc (.cells #[] E)) := by
      simp [Instr.buildSlice, run_underlying hS.under, sizeOf, typeInfo, zeroValue, hi, newRow, Instr.fill]
      rw [show Array.map (fun x : Nat => (default : Value)) (Array.range 0) = #[] from Array.eq_empty_of_size_eq_zero (by simp)]
    simp only [hop, List.map_toArray, List.map_nil, Sem.run_bind, e, Result.andThen_ok]
    exact hK2 _ _ hK
theorem OwnR.empty {α : Type} [Enc α] (E : TypeId) (w : World) : OwnR E (w.alloc (.cells #[] E)) w.heap.size (some ⟨w.heap.size, 0, none⟩) 0 ([] : List α) :=
  ⟨fun _ => False, ⟨[], rfl, ⟨by simp, .inr ⟨w.heap.size, 0, #[], rfl, Nat.le_refl _, heap_alloc_new w _, Nat.le_refl _, Nat.zero_le _, by simp, by simp⟩⟩, fun j x vs h => by simp at h, fun _ _ h => h⟩, fun b h => h.elim⟩
theorem Src.dg {F G : Nat → Prop} {w : World} {A : Option Addr} {xs : List Dg} (h : Src F w A xs) : Src G w A xs := fun hn => by
  obtain ⟨b, o, hA, hc⟩ := h hn
  exact ⟨b, o, hA, fun j x hx => by obtain ⟨vs, h1, h2⟩ := hc j x hx; exact ⟨vs, h1, h2⟩⟩
end Go.Proofs.YtnoglodggchgpabDoor

/- (PfG)
  What the proof is that is made of a tree for a key. No program is named here.
-/
namespace Go.Proofs.YtnoglodggchgpabDoor
open Go.RowKit
set_option linter.unusedVariables false

def makeF (t : Tr) (k : Dg) : Pf := if mayT t = true then (if (endN t k).leaf = true then (if (endN t k).k = k then ⟨k, 1, z0, (endN t k).v, sidesM t k⟩ else ⟨k, 2, (endN t k).k, (endN t k).v, sidesM t k⟩) else ⟨k, 0, z0, [], sidesM t k⟩) else pf0
theorem makeF_no {t : Tr} {k : Dg} (h : mayT t = false) : makeF t k = pf0 := by unfold makeF; rw [h]; rfl
theorem makeF_none {t : Tr} {k : Dg} (h : mayT t = true) (hl : (endN t k).leaf = false) : makeF t k = ⟨k, 0, z0, [], sidesM t k⟩ := by unfold makeF; rw [h, hl]; rfl
theorem makeF_own {t : Tr} {k : Dg} (h : mayT t = true) (hl : (endN t k).leaf = true) (hk : (endN t k).k = k) : makeF t k = ⟨k, 1, z0, (endN t k).v, sidesM t k⟩ := by unfold makeF; rw [if_pos h, if_pos hl, if_pos hk]
theorem makeF_other {t : Tr} {k : Dg} (h : mayT t = true) (hl : (endN t k).leaf = true) (hk : (endN t k).k ≠ k) : makeF t k = ⟨k, 2, (endN t k).k, (endN t k).v, sidesM t k⟩ := by unfold makeF; rw [if_pos h, if_pos hl, if_neg hk]
theorem end_zero {ns : List Nd} {root : Int} {k : Dg} (h : mayT ⟨ns, root⟩ = true) (hz : (wayP ns k 256 root).1 = 0) : endN ⟨ns, root⟩ k = nd0 := by unfold endN; rw [if_pos h, if_pos hz]
theorem end_leaf {ns : List Nd} {root : Int} {k : Dg} (h : mayT ⟨ns, root⟩ = true) (hz : (wayP ns k 256 root).1 ≠ 0) : (endN ⟨ns, root⟩ k).leaf = true := by
  obtain ⟨-, m1, m2, ho, m3⟩ := mayT_iff.1 h
  dsimp only at m1 m2 ho m3
  obtain ⟨⟨w1, w2, w3⟩, w4, -⟩ := way_spec (k := k) ho 256 root z0 (Nat.le_refl _) m1 m2 m3 zr_z0
  unfold endN
  rw [if_pos h, if_neg hz]
  exact w3.resolve_left hz
/-- A proof's end and its other key stored anew. -/
theorem pf_setE (x : Pf) (e : UInt8) (A : Option Addr) (c : Nat) (D : Option Addr) (d : Nat) : (pfC x A c D d).toArray.setIfInBounds 32 (bv e) = (pfC { x with e := e } A c D d).toArray := by
  apply Array.ext'
  have hk : (x.k.1.map bv).length = 32 := by rw [List.length_map, x.k.2]
  simp only [Array.toList_setIfInBounds, pfC]
  rw [List.set_append_right _ _ (by omega), hk]
  rfl
theorem pf_setW (x : Pf) (v : List UInt8) (A A2 : Option Addr) (c c2 : Nat) (D : Option Addr) (d : Nat) : (pfC x A c D d).toArray.setIfInBounds 65 (.slice A2 v.length c2) = (pfC { x with v := v } A2 c2 D d).toArray := by
  apply Array.ext'
  have hk : (x.k.1.map bv).length = 32 := by rw [List.length_map, x.k.2]
  have ho : (x.o.1.map bv).length = 32 := by rw [List.length_map, x.o.2]
  simp only [Array.toList_setIfInBounds, pfC]
  rw [List.set_append_right _ _ (by omega), hk]
  simp only [List.cons_append, List.nil_append, List.set_cons_succ]
  rw [List.set_append_right _ _ (by omega), ho]
  rfl
end Go.Proofs.YtnoglodggchgpabDoor

/- (PfH)
  A proof that is built of a key and its sides.
-/
namespace Go.Proofs.YtnoglodggchgpabDoor
open Go.RowKit
set_option linter.unusedVariables false
set_option linter.unusedSimpArgs false
set_option maxRecDepth 100000

def zPf : Value := .agg zPfC
theorem placesPf : Places Tryd.prog 27 zPf [(0, 32), (32, 1), (33, 32), (65, 1), (66, 1)] := by unfold Places; kernel_rfl
theorem zPf_list : zPf.cells.toList = [] ++ (z0.1.map bv ++ ([bv 0] ++ (z0.1.map bv ++ ([Value.slice none 0 0] ++ [Value.slice none 0 0])))) := by rfl
theorem built_pf (k : Dg) (L : List Dg) (A : Option Addr) (c : Nat) : Tryd.prog.built 27 [(0, .agg (k.1.map bv).toArray), (4, .slice A L.length c)] = some (pfC ⟨k, 0, z0, [], L⟩ none 0 A c).toArray := by
  have hk : (k.1.map bv).length = 32 := by rw [List.length_map]; exact k.2
  have hz : (z0.1.map bv).length = 32 := by rw [List.length_map]; exact z0.2
  have c1 : (Value.agg (k.1.map bv).toArray).cells = (k.1.map bv).toArray := rfl
  have c2 : (Value.slice A L.length c).cells = #[Value.slice A L.length c] := rfl
  rw [built_places placesPf, fill_cons (off := 0) (by rw [c1, List.size_toArray, hk]; rfl) (by rw [c1, List.size_toArray, hk]; decide +kernel)]
  have e0 : lay zPf.cells.toList 0 (Value.agg (k.1.map bv).toArray).cells.toList = k.1.map bv ++ ([bv 0] ++ (z0.1.map bv ++ ([Value.slice none 0 0] ++ [Value.slice none 0 0]))) := by
    rw [zPf_list, c1]
    exact lay_mid [] (z0.1.map bv) _ (k.1.map bv) (by rw [hk, hz])
  rw [e0, fill_cons (off := 66) (by rw [c2]; rfl) (by rw [c2]; simp [hk, hz])]
  have e2 : lay (k.1.map bv ++ ([bv 0] ++ (z0.1.map bv ++ ([Value.slice none 0 0] ++ [Value.slice none 0 0])))) 66 (Value.slice A L.length c).cells.toList = pfC ⟨k, 0, z0, [], L⟩ none 0 A c := by
    rw [c2]
    have := lay_mid (k.1.map bv ++ [bv 0] ++ z0.1.map bv ++ [Value.slice none 0 0]) [Value.slice none 0 0] [] [Value.slice A L.length c] rfl
    rw [show (k.1.map bv ++ [bv 0] ++ z0.1.map bv ++ [Value.slice none 0 0]).length = 66 by simp [hk, hz]] at this
    simp only [List.append_assoc, List.append_nil] at this
    rw [this]
    simp [pfC]
  simp only [List.toList_toArray]
  rw [e2, Instr.fill]
end Go.Proofs.YtnoglodggchgpabDoor

/- (PfI)
  Contracts of the landed package proof: ender, and what it answers.
-/
namespace Go.Proofs.YtnoglodggchgpabDoor
open Go.RowKit
set_option linter.unusedVariables false
set_option linter.unusedSimpArgs false
set_option maxRecDepth 100000

theorem there_of_block {W : World} {g : Nat} {cs : Array Value} {t : TypeId} (h : W.heap[g]? = some (.cells cs t (0, 0))) (o n : Nat) (hn : o + n ≤ cs.size) : W.there g o n := fun j hj => ⟨by rw [block_cell h, Array.getElem?_eq_getElem (by omega)]; rfl, block_frozen h _⟩
theorem pf_setO (x : Pf) (k : Dg) (A : Option Addr) (c : Nat) (D : Option Addr) (d : Nat) : setA (pfC x A c D d).toArray 33 (k.1.map bv) = (pfC { x with o := k } A c D d).toArray := by
  apply Array.ext'
  have hx : (x.k.1.map bv).length = 32 := by rw [List.length_map, x.k.2]
  have hk : (k.1.map bv).length = (x.o.1.map bv).length := by rw [List.length_map, List.length_map, k.2, x.o.2]
  rw [setA_lay _ _ _ (by rw [List.size_toArray, len_pf, List.length_map, k.2]; decide)]
  have := lay_mid (x.k.1.map bv ++ [bv x.e]) (x.o.1.map bv) ([.slice A x.v.length c] ++ [.slice D x.ss.length d]) (k.1.map bv) hk
  rw [show (x.k.1.map bv ++ [bv x.e]).length = 33 by simp [x.k.2]] at this
  simpa [pfC] using this
theorem chg_cells (g o : Nat) (vs : List Value) (W : World) : Chg (fun b => b = g) W (W.setCells g o vs) :=
  have q := setCells_below (Nat.le_refl g) vs o (Below.refl g W)
  ⟨q.os, q.tape, q.output, q.size, fun k _ hne => setCells_other hne _ _ _⟩
end Go.Proofs.YtnoglodggchgpabDoor

/- (PfJ)
  Contracts of the landed package proof: Make.
-/
namespace Go.Proofs.YtnoglodggchgpabDoor
open Go.RowKit
set_option linter.unusedVariables false
set_option linter.unusedSimpArgs false
set_option maxRecDepth 100000

def zMkC : Array Value := (pfC pf0 none 0 none 0).toArray
theorem res_pf {fn : Func} {p u : Tmp} (h : fn.results = #[.cell p 27, .tmp u]) (tmps : Array Value) (w : World) (g : Nat) (cs : List Value) (e1 : tmps.getD p undef = .pointer (some ⟨g, 0, none⟩))
    (hg : w.heap[g]? = some (.cells cs.toArray 27 (0, 0))) (hl : cs.length = 67) : (results fn tmps).run Tryd.prog w = .ok (.tuple #[.agg cs.toArray, tmps.getD u undef]) w := by
  have h2 := run_loadVar_mid (P := Tryd.prog) w g 0 27 cs _ (rangeOf hg) Tryd.underlying27 rfl (by rw [hl]; exact sizePf)
  have e2 : tmps[p]?.getD undef = .pointer (some ⟨g, 0, none⟩) := by simpa using e1
  simp only [results, h]
  simp [Sem.run_bind, Result.andThen, e2, asAddr, Sem.run_pure, h2]
/-- What the closure makes of a proof at the node where the road ends. -/
def endF (x : Nd) (p : Pf) : Pf := if x.leaf = true then (if x.k = p.k then { p with e := 1, v := x.v } else { p with e := 2, o := x.k, v := x.v }) else { p with e := 0 }
theorem makeF_end {t : Tr} {k : Dg} (h : mayT t = true) : makeF t k = endF (endN t k) ⟨k, 0, z0, [], sidesM t k⟩ := by
  unfold makeF endF
  rw [if_pos h]
theorem makeF_v {t : Tr} {k : Dg} (h : mayT t = true) : (makeF t k).v = if (endN t k).leaf = true then (endN t k).v else [] := by
  rw [makeF_end h]
  unfold endF
  split
  · split <;> rfl
  · rfl
theorem makeF_ss {t : Tr} {k : Dg} (h : mayT t = true) : (makeF t k).ss = sidesM t k := by
  rw [makeF_end h]
  unfold endF
  split
  · split <;> rfl
  · rfl
end Go.Proofs.YtnoglodggchgpabDoor
