/-
  Texts laid together: TreeLe, TreeLf, TreeLg, TreeLh.
-/
import Derived.Test.YtnoglodggchgpabDoorTrA
import Derived.Test.YtnoglodggchgpabDoorPrR
import Derived.Test.YtnoglodggchgpabDoorMem
import Derived.Test.YtnoglodggchgpabDoorTreeW
set_option maxRecDepth 100000
/- (TreeLe)
  Contracts of the landed package tree: newSummed, sum.
-/
namespace Go.Proofs.YtnoglodggchgpabDoor
open Go.RowKit
set_option linter.unusedVariables false
set_option linter.unusedSimpArgs false
set_option maxRecDepth 100000

/-- A summed trie's cells. -/
def smC (A : Option Addr) (n c : Nat) (root : Int) (d : Dg) : List Value := [.slice A n c, .int .i64 root] ++ d.1.map bv
def zSmC : Array Value := (smC none 0 0 0 z0).toArray
theorem len_sm (A : Option Addr) (n c : Nat) (root : Int) (d : Dg) : (smC A n c root d).length = 34 := by simp [smC, d.2]
theorem zSizeSm : zSmC.size = 34 := by decide +kernel
theorem one_sm (A : Option Addr) (n c : Nat) (root : Int) (d : Dg) : (smC A n c root d).toArray.all (·.oneCell') = true := all_oneCell_toArray fun u hu => by
  simp only [smC, List.cons_append, List.nil_append, List.mem_cons] at hu
  rcases hu with rfl | rfl | h
  · rfl
  · rfl
  · exact bvs_one _ u h
/-- A summed trie in a box. -/
structure BoxS (W : World) (g : Nat) (A : Option Addr) (n c : Nat) (root : Int) (d : Dg) : Prop where
  all : W.rangeAt g 0 (smC A n c root d)
  trie : W.rangeAt g 0 [.slice A n c, .int .i64 root]
  none : W.rangeAt g 2 (d.1.map bv)
theorem BoxS.of {W : World} {g : Nat} {A : Option Addr} {n c : Nat} {root : Int} {d : Dg} (h : W.rangeAt g 0 (smC A n c root d)) : BoxS W g A n c root d := by
  refine ⟨h, fun j v hv => h j v ?_, ?_⟩
  · unfold smC
    rw [List.getElem?_append_left (List.getElem?_eq_some_iff.1 hv).1]; exact hv
  · have := range_sub (xs := [Value.slice A n c, .int .i64 root]) (ys := d.1.map bv) (zs := []) (by simpa [smC] using h) 2 rfl
    rw [Nat.zero_add] at this
    exact this
theorem BoxS.bel {W W' : World} {g : Nat} {A : Option Addr} {n c : Nat} {root : Int} {d : Dg} (h : BoxS W g A n c root d) (hb : Below W.heap.size W W') : BoxS W' g A n c root d := BoxS.of (rangeBel2 hb h.all)
theorem BoxS.new (W : World) (A : Option Addr) (n c : Nat) (root : Int) (d : Dg) (t : TypeId) : BoxS (W.alloc (.cells (smC A n c root d).toArray t)) W.heap.size A n c root d := BoxS.of (rangeOf (heap_alloc_new W _))

def noneD : Dg := ⟨sha256 [0], S8.bytes_len _⟩


theorem rd_at {w : World} {b o : Nat} {k : Dg} (h : w.rangeAt b o (k.1.map bv)) : Rd w (some ⟨b, o, none⟩) k.1 := fun _ => ⟨b, o, rfl, fun j x hx => h j (bv x) (by rw [List.getElem?_map, hx]; rfl)⟩

end Go.Proofs.YtnoglodggchgpabDoor

/- (TreeLf)
  Contracts of the landed package tree: road.
-/
namespace Go.Proofs.YtnoglodggchgpabDoor
open Go.RowKit
set_option linter.unusedVariables false
set_option linter.unusedSimpArgs false
set_option maxRecDepth 100000

section
variable {P : Program}
theorem step_store_rowT {ops : Array Oper} {o : Oper} {a : Act} {w : World} {K : Act → World → Prop} {Q : Exit → Act → World → Prop} {X : Prop} (hw : o.guard = none) (ty : TypeId) (x y : Operand) (ho : o.op = .store ty x y)
    (g : Nat) (cs : Array Value) (hx : a.eval x = .pointer (some ⟨g, 0, none⟩)) (hy : a.eval y = .agg cs) (t : TypeId) (old : Array Value) (hg : w.heap[g]? = some (.cells old t (0, 0)))
    (hi : (P.info? ty).map (·.size) = some cs.size) (hold : old.size = cs.size) (h1 : cs.all (·.oneCell') = true)
    (h : ∀ w', w'.heap[g]? = some (.cells cs t (0, 0)) → w.grownBy w' (some g) → K (a.put o.dst undef) w') : if Region.wanted o (yielded ops a.tmps) = true then Oper.wp P o a w K Q else X := by
  rw [if_pos (by simp [Region.wanted, hw])]
  exact wp_store_row ty x y ho g cs hx hy t old hg hi hold h1 fun w' h2 h3 _ => h w' h2 h3
theorem step_alloc_rowT {ops : Array Oper} {o : Oper} {a : Act} {w : World} {K : Act → World → Prop} {Q : Exit → Act → World → Prop} {X : Prop} (hw : o.guard = none) (ty : TypeId) (ho : o.op = .alloc ty)
    (zs : Array Value) (hz : (P.info? ty).map (fun i => (i.zero, i.size)) = some (some (.agg zs), zs.size))
    (h : ∀ g w', w.heap.size ≤ g → w'.heap[g]? = some (.cells zs ty (0, 0)) → Below w.heap.size w w' → K (a.put o.dst (.pointer (some ⟨g, 0, none⟩))) w') : if Region.wanted o (yielded ops a.tmps) = true then Oper.wp P o a w K Q else X := by
  rw [if_pos (by simp [Region.wanted, hw])]
  have hq : ∃ i, P.info? ty = some i ∧ i.zero = some (.agg zs) := by
    cases hq : P.info? ty with
    | none => simp [hq] at hz
    | some i => simp [hq] at hz; exact ⟨i, rfl, hz.1⟩
  obtain ⟨i, hi, hzz⟩ := hq
  unfold Oper.wp execOp
  simp only [ho]
  simp [Instr.alloc, zeroValue, typeInfo, hi, hzz, newVar, Value.cells]
  exact h _ _ (Nat.le_refl _) (heap_alloc_new w (.cells zs ty)) (ext_alloc w _)
theorem wpList_appOwnG {α : Type} [Enc α] {S E : TypeId} {z : Value} {bytes : Nat} (hS : Slot P α S E z bytes) {w : World} {ops : Array Oper} {rest : List Oper} {o : Oper} {a : Act} {Q : Exit → Act → World → Prop} (hg : Region.wanted o (yielded ops a.tmps) = true) (s x : Operand)
    (hop : o.op = .call { callee := .builtin .append, args := #[s, x], argTypes := #[S, S] })
    (B0 B : Nat) (A A2 : Option Addr) (n m c c2 : Nat) (xs ys : List α) (F2 : Nat → Prop) (hs : a.eval s = .slice A n c) (hx : a.eval x = .slice A2 m c2) (hn : n = xs.length) (hm : m = ys.length)
    (ho : OwnQ E w B0 B A c xs) (hr : Src F2 w A2 ys) (hF : ∀ b, F2 b → B0 ≤ b ∧ Soft w b ∧ ∀ a, A = some a → b ≠ a.block) (hlen : (xs.length + ys.length) * (bytes + 1) ≤ 140737488355328) (hB : B ≤ w.heap.size)
    (hK : ∀ A' c' w', OwnQ E w' B0 B A' c' (xs ++ ys) → Below B w w' → w.grownBy w' (A.map (·.block)) → wpList P ops Q rest (a.put o.dst (.slice A' (xs ++ ys).length c')) w') : wpList P ops Q (o :: rest) a w :=
  wpList_step fun _ hK2 => by
    rw [if_pos hg]
    subst hn hm
    obtain ⟨A', c', w', hrun, h1, h2, h3⟩ := run_appOwn hS o.type ho c2 F2 hr hF hlen hB
    unfold Oper.wp execOp
    simp only [hop, resolve, invoke, builtin, Sem.run_bind, Sem.run_pure, Result.andThen_ok, List.map_toArray, List.map_cons, List.map_nil, hs, hx, hrun]
    exact hK2 _ _ (hK A' c' w' h1 h2 h3)
end
def lenV : Value → Nat
  | .slice _ n _ => n
  | _ => 0
theorem rep_int {F : Nat → Prop} {w : World} {x : Int} (h : I64 x) : Enc.rep F w x [Value.int .i64 x] := ⟨rfl, h⟩
/-- A right tree's road: where it stands after j forks. -/
def OnWay (ns : List Nd) (k : Dg) (root : Int) (os : List Int) (m : Int) : Prop :=
  os.length ≤ 256 ∧ 0 ≤ m ∧ m ≤ ns.length ∧ (∃ b, 0 ≤ rgt ns (256 - os.length) m b) ∧ wayP ns k 256 root = ((wayP ns k (256 - os.length) m).1, os ++ (wayP ns k (256 - os.length) m).2) ∧
  (∀ o ∈ os, 0 ≤ o ∧ o ≤ ns.length)
theorem onway_start {ns : List Nd} {k : Dg} {root : Int} (h0 : 0 ≤ root) (h1 : root ≤ ns.length) (hr : 0 ≤ rgt ns 256 root z0) : OnWay ns k root [] root :=
  ⟨by simp, h0, h1, ⟨z0, hr⟩, by simp, fun o ho => by simp at ho⟩
theorem onway_end {ns : List Nd} {k : Dg} {root m : Int} {os : List Int} (h : OnWay ns k root os m) (hf : forkB ns m = false) : wayP ns k 256 root = (m, os) := by
  obtain ⟨_, _, _, _, h5, _⟩ := h
  have : wayP ns k (256 - os.length) m = (m, []) := by
    by_cases hz : m = 0
    · subst hz; exact wayP_zero
    · refine wayP_leaf ?_
      unfold forkB at hf
      rw [decide_eq_true hz, Bool.true_and] at hf
      simpa using hf
  rw [h5, this, List.append_nil]
theorem onway_next {ns : List Nd} {k : Dg} {root m : Int} {os : List Int} (ho : Ones ns) (h : OnWay ns k root os m) (hf : forkB ns m = true) :
    os.length < 256 ∧ 0 < m ∧ (ndAt ns m).leaf = false ∧ (kb k.1 os.length = 1 → OnWay ns k root (os ++ [(ndAt ns m).l]) (ndAt ns m).r) ∧ (kb k.1 os.length = 0 → OnWay ns k root (os ++ [(ndAt ns m).r]) (ndAt ns m).l) := by
  obtain ⟨h1, h2, h3, ⟨b, h4⟩, h5, h6⟩ := h
  unfold forkB at hf
  simp only [Bool.and_eq_true, decide_eq_true_eq, Bool.not_eq_true'] at hf
  obtain ⟨hz, hl⟩ := hf
  obtain ⟨f, hf, r1, r2, _, _⟩ := fork_parts hz hl h4
  obtain ⟨j, hj, rfl, hx, hone⟩ := ones_at ho (by omega) h3
  rw [hx] at hl
  obtain ⟨k1, k2, k3, k4, _⟩ := one_fork hone hl
  rw [← hx] at k1 k2 k3 k4 hl
  have hlt : os.length < 256 := by omega
  have he : 256 - (os.length + 1) = f := by omega
  have hfd : 255 - f = os.length := by omega
  rw [hf, wayP_fork hz hl, hfd] at h5
  have hq : ∀ x : Int, (0 ≤ x ∧ x ≤ ns.length) → ∀ o ∈ os ++ [x], 0 ≤ o ∧ o ≤ ns.length := fun x hx o hm => by
    rcases List.mem_append.1 hm with h | h
    · exact h6 o h
    · simp at h; subst h; exact hx
  refine ⟨hlt, by omega, hl, fun hb => ⟨by simp; omega, k3, by omega, ⟨_, by rw [List.length_append, List.length_singleton, he]; exact r2⟩, ?_, hq _ ⟨k1, by omega⟩⟩, fun hb => ⟨by simp; omega, k1, by omega, ⟨_, by rw [List.length_append, List.length_singleton, he]; exact r1⟩, ?_, hq _ ⟨k3, by omega⟩⟩⟩
  · rw [h5, if_pos hb, List.length_append, List.length_singleton, he]; simp
  · rw [h5, if_neg (by omega), List.length_append, List.length_singleton, he]; simp

end Go.Proofs.YtnoglodggchgpabDoor

/- (TreeLg)
  Contracts of the landed package tree: sum, Road.
-/
namespace Go.Proofs.YtnoglodggchgpabDoor
open Go.RowKit
set_option linter.unusedVariables false
set_option linter.unusedSimpArgs false
set_option maxRecDepth 100000

theorem sideL_get (ns : List Nd) (os : List Int) (i : Nat) (o : Int) (h : os[i]? = some o) : (sideL ns os)[i]? = some ⟨sumP ns (255 - i) o, sumP_length⟩ := by
  obtain ⟨hi, rfl⟩ := List.getElem?_eq_some_iff.1 h
  rw [List.getElem?_eq_getElem (by rw [sideL_length]; exact hi), sideL_at ns os i hi]
theorem take_get {α : Type} {l : List α} {i : Nat} {x : α} (h : l[i]? = some x) : l.take (i + 1) = l.take i ++ [x] := by
  obtain ⟨hi, rfl⟩ := List.getElem?_eq_some_iff.1 h
  exact List.take_succ_eq_append_getElem hi
theorem row_int {F : Nat → Prop} {w : World} {A : Option Addr} {xs : List Int} (h : Row F w A xs) {j : Nat} (hj : j < xs.length) : ∃ b o, A = some ⟨b, o, none⟩ ∧ w.cell? ⟨b, o + j, none⟩ = some (.int .i64 xs[j]) := by
  obtain ⟨b, o, rfl, _, _, h3⟩ := h (by omega)
  obtain ⟨vs, ⟨rfl, _⟩, h2⟩ := h3 j _ (List.getElem?_eq_getElem hj)
  have h4 := h2 0 _ rfl
  rw [Nat.add_zero, show Enc.size Int = 1 from rfl, Nat.mul_one] at h4
  exact ⟨b, o, rfl, h4⟩
theorem OwnQ.keptAt {α : Type} [Enc α] {E : TypeId} {w w' : World} {B0 B g : Nat} {A : Option Addr} {c : Nat} {xs : List α} (h : OwnQ E w B0 B A c xs) (hg : w.grownBy w' (some g)) (h0 : g < B0) (h1 : g < B) : OwnQ E w' B0 B A c xs := by
  have hb := h.blk
  obtain ⟨F, k1, k2⟩ := h
  refine ⟨F, k1.kept (fun a ha hl => hg.block _ hl fun e => ?_) (fun b hf hl => hg.block b hl fun e => ?_), fun b hf => ⟨(k2 b hf).1, (k2 b hf).2.kept (hg.block b (k2 b hf).2.lt fun e => ?_)⟩⟩
  · have := (hb a ha).1; injection e with e; omega
  · have := (k2 b hf).1; injection e with e; omega
  · have := (k2 b hf).1; injection e with e; omega
theorem slotDg : Slot Tryd.prog Dg 25 23 (.agg z32) 32 where
  under := Tryd.underlying25
  info := by kernel_rfl
  zero := by decide +kernel
  pos := by decide


end Go.Proofs.YtnoglodggchgpabDoor

/- (TreeLh)
  Contracts of the landed package tree: Sum.
-/
namespace Go.Proofs.YtnoglodggchgpabDoor
open Go.RowKit
set_option linter.unusedVariables false
set_option linter.unusedSimpArgs false
set_option maxRecDepth 100000

/-- What Sum tells: equal to the document's text's sumT by rfl. -/
def sumM (t : Tr) : Dg := if mayT t = true then ⟨sumP t.ns 256 t.root, sumP_length⟩ else z0
end Go.Proofs.YtnoglodggchgpabDoor
