/-
  Layer 5's examples: the chapter's maps and their roots.
-/
import Derived.Test.YtfjkcdccnbggnaaDoorAlive05
import Derived.Test.YtfjkcdccnbggnaaDoorPrA
import Derived.Test.YtfjkcdccnbggnaaDoorPrR
import Derived.Test.YtfjkcdccnbggnaaDoorTwoOf
import Derived.Test.YtfjkcdccnbggnaaDoorDgB
namespace Go.Proofs.YtfjkcdccnbggnaaDoor
open Go.RowKit
set_option linter.unusedVariables false
set_option linter.unusedSimpArgs false
set_option maxRecDepth 100000

def pN : Dg := ⟨sha256 [0], S8.bytes_len _⟩
def pL (c x : UInt8) : Dg := ⟨sha256 (tagB 1 [(dfst c).1, [x]]), S8.bytes_len _⟩
def pT : Dg := ⟨sha256 (tagB 2 [(pL 3 97).1, (pL 200 98).1]), S8.bytes_len _⟩
theorem put_x : mPutE [(⟨dfst 3, [97]⟩ : Pr), ⟨dfst 9, [99]⟩] (dfst 3) [120] = 0 ∧ mPutL [(⟨dfst 3, [97]⟩ : Pr), ⟨dfst 9, [99]⟩] (dfst 3) [120] = [⟨dfst 3, [120]⟩, ⟨dfst 9, [99]⟩] := by decide +kernel
theorem get_4 : mGetB [(⟨dfst 3, [97]⟩ : Pr), ⟨dfst 9, [99]⟩] (dfst 4) = false ∧ mGetL [(⟨dfst 3, [97]⟩ : Pr), ⟨dfst 9, [99]⟩] (dfst 4) = [] := by decide +kernel
theorem drop_4 : mDropE [(⟨dfst 3, [97]⟩ : Pr), ⟨dfst 9, [99]⟩] (dfst 4) = 6 ∧ mDropL [(⟨dfst 3, [97]⟩ : Pr), ⟨dfst 9, [99]⟩] (dfst 4) = [] := by decide +kernel
theorem root_nil : rootE [] = 0 ∧ rootL [] = pN.1 := by decide +kernel
theorem root_one : rootE [(⟨dfst 3, [97]⟩ : Pr)] = 0 ∧ rootL [(⟨dfst 3, [97]⟩ : Pr)] = (pL 3 97).1 := by decide +kernel
theorem root_two : rootE [(⟨dfst 3, [97]⟩ : Pr), ⟨dfst 200, [98]⟩] = 0 ∧ rootL [(⟨dfst 3, [97]⟩ : Pr), ⟨dfst 200, [98]⟩] = pT.1 := by decide +kernel
theorem may_93 : mayP [(⟨dfst 9, [99]⟩ : Pr), ⟨dfst 3, [97]⟩] = false := by decide +kernel
theorem may_9 : mayP [(⟨dfst 9, []⟩ : Pr)] = false := by decide +kernel
theorem two_boxes (w : World) : ((w.alloc (.cells z32 23)).alloc (.cells z32 23)).heap[w.heap.size]? = some (.cells z32 23) ∧
    ((w.alloc (.cells z32 23)).alloc (.cells z32 23)).heap[w.heap.size + 1]? = some (.cells z32 23) ∧
    Below w.heap.size w ((w.alloc (.cells z32 23)).alloc (.cells z32 23)) := by
  have ha := heap_alloc_new w (.cells z32 23)
  have hb := heap_alloc_new (w.alloc (.cells z32 23)) (.cells z32 23)
  rw [World.size_alloc] at hb
  exact ⟨((ext_alloc _ _).block _ (block_lt ha)).trans ha, hb, ext_trans (ext_alloc _ _) (ext_alloc _ _)⟩
/-- Two pairs, just laid. -/
theorem row_two {w : World} {F : Nat → Prop} {x y : Pr} {cs ds : List Value} {E : TypeId} (h1 : Enc.rep F w x cs) (h2 : Enc.rep F w y ds) : Row (fun b => b < w.heap.size + 1) (w.alloc (.cells (cs ++ ds).toArray E)) (some ⟨w.heap.size, 0, none⟩) [x, y] := by
  have h := row_all (E := E) (F := F) (xs := [x, y]) (css := [cs, ds]) rfl fun j z vs hx hv => by
    rcases j with _ | _ | j
    · simp at hx hv; subst hx hv; exact h1
    · simp at hx hv; subst hx hv; exact h2
    · simp at hx
  simpa using h
theorem row_single {w : World} {F : Nat → Prop} {x : Pr} {cs : List Value} {E : TypeId} (h1 : Enc.rep F w x cs) : Row (fun b => b < w.heap.size + 1) (w.alloc (.cells cs.toArray E)) (some ⟨w.heap.size, 0, none⟩) [x] := by
  have h := row_all (E := E) (F := F) (xs := [x]) (css := [cs]) rfl fun j z vs hx hv => by
    rcases j with _ | j
    · simp at hx hv; subst hx hv; exact h1
    · simp at hx
  simpa using h
theorem step_pairT {w : World} {ops : Array Oper} {o : Oper} {a : Act} {K : Act → World → Prop} {Q : Exit → Act → World → Prop} {X : Prop} (hw : Region.wanted o (yielded ops a.tmps) = true)
    (x y : Operand) (hop : o.op = .buildSlice 28 2 #[(0, x), (1, y)]) (cs ds : List Value) (hx : a.eval x = .agg cs.toArray) (hy : a.eval y = .agg ds.toArray) (hc : cs.length = Enc.size Pr) (hd : ds.length = Enc.size Pr)
    (hK : K (a.put o.dst (.slice (some ⟨w.heap.size, 0, none⟩) 2 2)) (w.alloc (.cells (cs ++ ds).toArray 26))) : if Region.wanted o (yielded ops a.tmps) = true then Oper.wp Tryd.prog o a w K Q else X := by
  rw [if_pos hw]
  have h : (Instr.buildSlice 28 2 #[(0, .agg cs.toArray), (1, .agg ds.toArray)]).run Tryd.prog w = .ok (.slice (some ⟨w.heap.size, 0, none⟩) 2 2) (w.alloc (.cells [cs, ds].flatten.toArray 26)) :=
    run_buildAll slotPr 2 [cs, ds] rfl (by decide) (by decide) (fun c h => by simp at h; rcases h with rfl | rfl; exact hc; exact hd) [.agg cs.toArray, .agg ds.toArray] rfl w
  rw [show [cs, ds].flatten = cs ++ ds by simp] at h
  unfold Oper.wp execOp
  simp only [hop, List.map_toArray, List.map_cons, List.map_nil, hx, hy, Sem.run_bind, h, Result.andThen_ok]
  exact hK
end Go.Proofs.YtfjkcdccnbggnaaDoor
