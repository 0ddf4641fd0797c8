/-
  Deposits and receipts in memory, built and compared.
-/
import Derived.Test.YtciccabhampjlaaHd
import Derived.Test.YtciccabhampjlaaDgF
namespace Go.Proofs.Ytciccabhampjlaa
open Go.RowKit
set_option linter.unusedVariables false
set_option maxRecDepth 100000

/-! ### deposits -/
def dpS (x : Dp) : List (List Value) := [[.int .u64 (x.n : Int)], x.t.1.map bv, [.int .u64 (x.a : Int)]]
def dpC (x : Dp) : List Value := (dpS x).flatten
theorem len_dp (x : Dp) : (dpC x).length = 34 := by simp [dpC, dpS, x.t.2]
instance : Enc Dp := Enc.by_ fun x => (x.n, x.t, x.a)
theorem rep_dp {F : Nat → Prop} {w : World} {x : Dp} {vs : List Value} (h : Enc.rep F w x vs) : vs = dpC x ∧ x.ok := by
  obtain ⟨u1, t1, rfl, ⟨h1, b1⟩, u2, t2, rfl, h2, ⟨h3, b3⟩⟩ := h
  have h2 : u2 = x.t.1.map bv := h2
  subst h1 h2 h3
  exact ⟨by simp [dpC, dpS], b1, b3⟩
structure BoxD (W : World) (g : Nat) (x : Dp) : Prop where
  all : W.rangeAt g 0 (dpC x)
  n : W.cell? ⟨g, 0, none⟩ = some (.int .u64 (x.n : Int))
  t : W.rangeAt g 1 (x.t.1.map bv)
  a : W.cell? ⟨g, 33, none⟩ = some (.int .u64 (x.a : Int))
theorem BoxD.of {W : World} {g : Nat} {x : Dp} (h : W.rangeAt g 0 (dpC x)) : BoxD W g x := by
  have hr := fun i (hi : i < (dpS x).length) => range_seg (dpS x) 0 i hi h
  have h0 := hr 0 (by simp [dpS])
  have h1 := hr 1 (by simp [dpS])
  have h2 := hr 2 (by simp [dpS])
  simp [dpS, x.t.2] at h0 h1 h2
  exact ⟨h, h0 0 _ rfl, h1, h2 0 _ rfl⟩
theorem BoxD.bel {W W' : World} {g : Nat} {x : Dp} (h : BoxD W g x) (hb : Below W.heap.size W W') : BoxD W' g x := BoxD.of (rangeBel2 hb h.all)
theorem BoxD.new (W : World) (x : Dp) (t : TypeId) : BoxD (W.alloc (.cells (dpC x).toArray t)) W.heap.size x := BoxD.of (rangeOf (heap_alloc_new W _))

/-! ### receipts -/
def rcS (x : Rc) : List (List Value) := [[bv x.k], x.i.1.map bv, [.int .i64 x.c]]
def rcC (x : Rc) : List Value := (rcS x).flatten
theorem len_rc (x : Rc) : (rcC x).length = 34 := by simp [rcC, rcS, x.i.2]
instance : Enc Rc := Enc.by_ fun x => (x.k, x.i, x.c)
def Rc.ok (x : Rc) : Prop := -9223372036854775808 ≤ x.c ∧ x.c ≤ 9223372036854775807
theorem rep_rc {F : Nat → Prop} {w : World} {x : Rc} {vs : List Value} (h : Enc.rep F w x vs) : vs = rcC x ∧ x.ok := by
  obtain ⟨u1, t1, rfl, h1, u2, t2, rfl, h2, ⟨h3, b3⟩⟩ := h
  have h1 : u1 = [bv x.k] := h1
  have h2 : u2 = x.i.1.map bv := h2
  subst h1 h2 h3
  exact ⟨by simp [rcC, rcS], b3⟩
theorem opensErr : Opens Try.prog 24 Int := Opens.i64 Try.underlying24 (by kernel_rfl)
theorem opensRc : Opens Try.prog 26 Rc :=
  Opens.by_ (fun x : Rc => (x.k, x.i, x.c)) (fun b => ⟨b.1, b.2.1, b.2.2⟩) (fun b => rfl) (Opens.struct3 Try.underlying26 (by kernel_rfl) rfl rfl rfl opensByte opensDg opensErr)
theorem sizeRc (x : Rc) : (Try.prog.info? 26).map (·.size) = some (rcC x).length := by rw [len_rc]; kernel_rfl
theorem sizeRcA (x : Rc) : (Try.prog.info? 26).map (·.size) = some (rcC x).toArray.size := sizeRc x
theorem cellsRc : Try.prog.cellsOf 26 = 34 := by kernel_rfl
def zRcC : Array Value := (rcC zR).toArray
theorem zInfoRc : (Try.prog.info? 26).map (fun i => (i.zero, i.size)) = some (some (.agg zRcC), zRcC.size) := by kernel_rfl
theorem zSizeRc (x : Rc) : zRcC.size = (rcC x).toArray.size := by
  show (rcC zR).toArray.size = _
  rw [List.size_toArray, List.size_toArray, len_rc, len_rc]
theorem one_rc (x : Rc) : (rcC x).toArray.all (·.oneCell') = true := all_oneCell_toArray fun v hv => by
  simp only [rcC, rcS, List.mem_flatten, List.mem_cons, List.not_mem_nil, or_false] at hv
  obtain ⟨l, hl, hv⟩ := hv
  rcases hl with rfl | rfl | rfl
  · simp at hv; subst hv; rfl
  · exact bvs_one _ v hv
  · simp at hv; subst hv; rfl
theorem built_rc0 : Try.prog.built 26 [] = some zRcC := by kernel_rfl
theorem placesRc : Places Try.prog 26 (.agg zRcC) [(0, 1), (1, 32), (33, 1)] := by unfold Places; kernel_rfl
/-- A receipt built of its kind and code. -/
theorem built_rc2 (k : UInt8) (c : Int) : Try.prog.built 26 [(0, bv k), (2, .int .i64 c)] = some (rcC ⟨k, ⟨List.replicate 32 0, rfl⟩, c⟩).toArray := by
  have hz : (([0] ++ List.replicate 32 0 : List UInt8)).length = 33 := rfl
  have e0 : zRcC.toList = [bv 0] ++ ((List.replicate 32 (0 : UInt8)).map bv ++ [.int .i64 0]) := by simp [zRcC, rcC, rcS, zR]
  rw [built_places placesRc, fill_cons (off := 0) (by rfl) (by show 0 + 1 ≤ zRcC.size; rw [zSizeRc zR, List.size_toArray, len_rc]; decide)]
  have e1 : lay zRcC.toList 0 (bv k).cells.toList = [bv k] ++ ((List.replicate 32 (0 : UInt8)).map bv ++ [.int .i64 0]) := by
    rw [e0]
    exact lay_mid [] [bv 0] _ [bv k] rfl
  show Instr.fill _ (lay zRcC.toList 0 (bv k).cells.toList).toArray _ = _
  rw [e1, fill_cons (off := 33) (by rfl) (by simp [Value.cells])]
  have e2 : lay ([bv k] ++ ((List.replicate 32 (0 : UInt8)).map bv ++ [Value.int .i64 0])) 33 (Value.int .i64 c).cells.toList = rcC ⟨k, ⟨List.replicate 32 0, rfl⟩, c⟩ := by
    have := lay_mid ([bv k] ++ (List.replicate 32 (0 : UInt8)).map bv) [Value.int .i64 0] [] [Value.int .i64 c] rfl
    rw [show ([bv k] ++ (List.replicate 32 (0 : UInt8)).map bv).length = 33 by simp] at this
    simp only [List.append_assoc, List.append_nil] at this
    refine Eq.trans this ?_
    simp [rcC, rcS]
  rw [e2, Instr.fill]
structure BoxR (W : World) (g : Nat) (x : Rc) : Prop where
  all : W.rangeAt g 0 (rcC x)
  k : W.cell? ⟨g, 0, none⟩ = some (bv x.k)
  i : W.rangeAt g 1 (x.i.1.map bv)
  c : W.cell? ⟨g, 33, none⟩ = some (.int .i64 x.c)
theorem BoxR.of {W : World} {g : Nat} {x : Rc} (h : W.rangeAt g 0 (rcC x)) : BoxR W g x := by
  have hr := fun i (hi : i < (rcS x).length) => range_seg (rcS x) 0 i hi h
  have h0 := hr 0 (by simp [rcS])
  have h1 := hr 1 (by simp [rcS])
  have h2 := hr 2 (by simp [rcS])
  simp [rcS, x.i.2] at h0 h1 h2
  exact ⟨h, h0 0 _ rfl, h1, h2 0 _ rfl⟩
theorem BoxR.bel {W W' : World} {g : Nat} {x : Rc} (h : BoxR W g x) (hb : Below W.heap.size W W') : BoxR W' g x := BoxR.of (rangeBel2 hb h.all)
theorem BoxR.new (W : World) (x : Rc) (t : TypeId) : BoxR (W.alloc (.cells (rcC x).toArray t)) W.heap.size x := BoxR.of (rangeOf (heap_alloc_new W _))
theorem set_rc (x : Rc) (j : Nat) (hj : j < 32) (b : UInt8) (d : Dg) (hd : x.i.1.set j b = d.1) : (rcC x).toArray.setIfInBounds (1 + j) (bv b) = (rcC { x with i := d }).toArray := by
  rw [List.setIfInBounds_toArray]
  congr 1
  have hm : (x.i.1.map bv).set j (bv b) = d.1.map bv := by rw [← hd, List.map_set]
  simp only [rcC, rcS, List.flatten_cons, List.flatten_nil, List.append_nil, List.singleton_append]
  rw [Nat.add_comm, List.set_cons_succ, List.set_append_left _ _ (by rw [List.length_map, x.i.2]; exact hj), hm]
def rcL (x : Rc) : List (List Lit) := [[lit8 x.k], x.i.1.map lit8, [litI x.c]]
theorem rc_ext {x y : Rc} (h1 : x.k = y.k) (h2 : x.i = y.i) (h3 : x.c = y.c) : x = y := by cases x; cases y; simp_all
theorem rcL_inj {x y : Rc} : (rcL x).flatten = (rcL y).flatten ↔ x = y := by
  constructor
  · intro h
    simp only [rcL, List.flatten_cons, List.flatten_nil, List.append_nil] at h
    obtain ⟨h1, h⟩ := (app_inj2 (by rfl)).1 h
    obtain ⟨h2, h3⟩ := (app_inj2 (by simp [x.i.2, y.i.2])).1 h
    simp only [List.cons.injEq, and_true] at h1 h3
    exact rc_ext (lit8_inj h1) (dgl_inj.1 h2) (litI_inj.1 h3)
  · rintro rfl; rfl
theorem fitsRc (x : Rc) (h : x.ok) : FitsK Try.prog 3 (Try.prog.fieldsOf 26).toList 0 (rcS x) (rcL x) := by
  have c8 : Try.prog.cellsOf 5 = 1 := by kernel_rfl
  have ce : Try.prog.cellsOf 24 = 1 := by kernel_rfl
  have cd : Try.prog.cellsOf 23 = 32 := by kernel_rfl
  have k8 := fun b => keyLits_u8 Try.underlying5 2 b
  have ki := fun n h1 h2 => keyLits_i64 Try.underlying24 2 n h1 h2
  have kd := fun d : Dg => keyLits_dg 1 d
  have hf : (Try.prog.fieldsOf 26).toList = (match Try.prog.underlying 26 with | some (.struct fs) => fs | _ => #[]).toList := by kernel_rfl
  rw [hf, Try.underlying26]
  simp only [rcS, rcL, FitsK, c8, ce, cd, len_dgv, ki _ h.1 h.2, k8, kd]
  simp
theorem eqrc_is (x y : Rc) (hx : x.ok) (hy : y.ok) (b : Bool) (h : decide (x = y) = b) (w : World) :
    (Op.equalIn 10000 26 (.agg (rcC x).toArray) (.agg (rcC y).toArray)).run Try.prog w = .ok b w := by
  have hu : Try.prog.underlying 26 = some (.struct (Try.prog.fieldsOf 26)) := by kernel_rfl
  exact eq_flat hu 4 (by decide +kernel) (by decide) 3 (rcS x) (rcS y) (rcL x) (rcL y) (by rw [cellsRc]; exact len_rc x) (by rw [cellsRc]; exact len_rc y) (by decide +kernel) (fitsRc x hx) (fitsRc y hy) b (by rw [rcL_inj, ← h, decide_eq_true_eq]) w
end Go.Proofs.Ytciccabhampjlaa
