/-
  Transactions in memory, built and compared.
-/
import Derived.Test.YtpfglincdlmfhaaDoorFlat
import Derived.Test.YtpfglincdlmfhaaDoorTxP
import Derived.Test.YtpfglincdlmfhaaDoorTrN
import Derived.Test.YtpfglincdlmfhaaDoorBits
import Derived.Test.YtpfglincdlmfhaaDoorStepT
import Derived.Test.YtpfglincdlmfhaaDoorStoreB
import Derived.Test.YtpfglincdlmfhaaDoorOpensN
namespace Go.Proofs.YtpfglincdlmfhaaDoor
open Go.RowKit
set_option linter.unusedVariables false
set_option maxRecDepth 100000

def txS (x : Tx) : List (List Value) := [x.p.1.map bv, x.t.1.map bv, [.int .u64 (x.n : Int)], [.int .u64 (x.a : Int)], [.int .u64 (x.f : Int)], x.s.1.map bv]
def txC (x : Tx) : List Value := (txS x).flatten
theorem len_dgv (d : Dg) : (d.1.map bv).length = 32 := by rw [List.length_map]; exact d.2
theorem len_tx (x : Tx) : (txC x).length = 99 := by simp [txC, txS, x.p.2, x.t.2, x.s.2]
instance : Enc Tx := Enc.by_ fun x => (x.p, x.t, x.n, x.a, x.f, x.s)
theorem rep_tx {F : Nat → Prop} {w : World} {x : Tx} {vs : List Value} (h : Enc.rep F w x vs) : vs = txC x ∧ x.ok := by
  obtain ⟨u1, t1, rfl, h1, u2, t2, rfl, h2, u3, t3, rfl, ⟨h3, b3⟩, u4, t4, rfl, ⟨h4, b4⟩, u5, t5, rfl, ⟨h5, b5⟩, h6⟩ := h
  have h1 : u1 = x.p.1.map bv := h1
  have h2 : u2 = x.t.1.map bv := h2
  have h6 : t5 = x.s.1.map bv := h6
  subst h1 h2 h3 h4 h5 h6
  exact ⟨by simp [txC, txS], b3, b4, b5⟩
theorem opensU64x : Opens Tryd.prog 48 Nat := Opens.u64 Tryd.underlying48 (by kernel_rfl)
def zTxC : Array Value := (txC zX).toArray
theorem zSizeTx (x : Tx) : zTxC.size = (txC x).toArray.size := by
  show (txC zX).toArray.size = _
  rw [List.size_toArray, List.size_toArray, len_tx, len_tx]
theorem one_tx (x : Tx) : (txC x).toArray.all (·.oneCell') = true := all_oneCell_toArray fun v hv => by
  simp only [txC, txS, List.mem_flatten, List.mem_cons, List.not_mem_nil, or_false] at hv
  obtain ⟨l, hl, hv⟩ := hv
  rcases hl with rfl | rfl | rfl | rfl | rfl | rfl
  · exact bvs_one _ v hv
  · exact bvs_one _ v hv
  · simp at hv; subst hv; rfl
  · simp at hv; subst hv; rfl
  · simp at hv; subst hv; rfl
  · exact bvs_one _ v hv
def zTx : Value := .agg zTxC
/-- Its parts, where it lies in a box. -/
structure BoxX (W : World) (g : Nat) (x : Tx) : Prop where
  all : W.rangeAt g 0 (txC x)
  p : W.rangeAt g 0 (x.p.1.map bv)
  t : W.rangeAt g 32 (x.t.1.map bv)
  n : W.cell? ⟨g, 64, none⟩ = some (.int .u64 (x.n : Int))
  a : W.cell? ⟨g, 65, none⟩ = some (.int .u64 (x.a : Int))
  f : W.cell? ⟨g, 66, none⟩ = some (.int .u64 (x.f : Int))
  s : W.rangeAt g 67 (x.s.1.map bv)
theorem BoxX.of {W : World} {g : Nat} {x : Tx} (h : W.rangeAt g 0 (txC x)) : BoxX W g x := by
  have hr := fun i (hi : i < (txS x).length) => range_seg (txS x) 0 i hi h
  have h0 := hr 0 (by simp [txS])
  have h1 := hr 1 (by simp [txS])
  have h2 := hr 2 (by simp [txS])
  have h3 := hr 3 (by simp [txS])
  have h4 := hr 4 (by simp [txS])
  have h5 := hr 5 (by simp [txS])
  simp [txS, x.p.2, x.t.2] at h0 h1 h2 h3 h4 h5
  exact ⟨h, h0, h1, h2 0 _ rfl, h3 0 _ rfl, h4 0 _ rfl, h5⟩
theorem BoxX.bel {W W' : World} {g : Nat} {x : Tx} (h : BoxX W g x) (hb : Below W.heap.size W W') : BoxX W' g x := BoxX.of (rangeBel2 hb h.all)
theorem BoxX.new (W : World) (x : Tx) (t : TypeId) : BoxX (W.alloc (.cells (txC x).toArray t)) W.heap.size x := BoxX.of (rangeOf (heap_alloc_new W _))
theorem setA_sign (x : Tx) (d : Dg) : setA (txC x).toArray 67 (d.1.map bv) = (txC { x with s := d }).toArray := by
  have h := setA_seg (x.p.1.map bv ++ (x.t.1.map bv ++ [.int .u64 (x.n : Int), .int .u64 (x.a : Int), .int .u64 (x.f : Int)])) (x.s.1.map bv) [] (d.1.map bv) (by rw [len_dgv, len_dgv])
  rw [show (x.p.1.map bv ++ (x.t.1.map bv ++ [Value.int .u64 (x.n : Int), .int .u64 (x.a : Int), .int .u64 (x.f : Int)])).length = 67 by simp [x.p.2, x.t.2]] at h
  have e1 : txC x = x.p.1.map bv ++ (x.t.1.map bv ++ [.int .u64 (x.n : Int), .int .u64 (x.a : Int), .int .u64 (x.f : Int)]) ++ (x.s.1.map bv ++ []) := by simp [txC, txS]
  have e2 : txC { x with s := d } = x.p.1.map bv ++ (x.t.1.map bv ++ [.int .u64 (x.n : Int), .int .u64 (x.a : Int), .int .u64 (x.f : Int)]) ++ (d.1.map bv ++ []) := by simp [txC, txS]
  rw [e1, e2]
  exact h
def txL (x : Tx) : List (List Lit) := [x.p.1.map lit8, x.t.1.map lit8, [litU x.n], [litU x.a], [litU x.f], x.s.1.map lit8]
theorem app_inj2 {α : Type} {a b c d : List α} (h : a.length = c.length) : a ++ b = c ++ d ↔ a = c ∧ b = d := ⟨fun e => List.append_inj e h, fun ⟨e1, e2⟩ => by rw [e1, e2]⟩
theorem litU_inj {a b : Nat} : litU a = litU b ↔ a = b := ⟨fun h => by unfold litU at h; injection h with _ h; omega, fun h => by rw [h]⟩
theorem dgl_inj {a b : Dg} : a.1.map lit8 = b.1.map lit8 ↔ a = b := ⟨fun h => Subtype.ext (lits8_inj h), fun h => by rw [h]⟩
theorem tx_ext {x y : Tx} (h1 : x.p = y.p) (h2 : x.t = y.t) (h3 : x.n = y.n) (h4 : x.a = y.a) (h5 : x.f = y.f) (h6 : x.s = y.s) : x = y := by cases x; cases y; simp_all
theorem txL_inj {x y : Tx} : (txL x).flatten = (txL y).flatten ↔ x = y := by
  constructor
  · intro h
    simp only [txL, List.flatten_cons, List.flatten_nil, List.append_nil] at h
    obtain ⟨h1, h⟩ := (app_inj2 (by simp [x.p.2, y.p.2])).1 h
    obtain ⟨h2, h⟩ := (app_inj2 (by simp [x.t.2, y.t.2])).1 h
    obtain ⟨h3, h⟩ := (app_inj2 (by rfl)).1 h
    obtain ⟨h4, h⟩ := (app_inj2 (by rfl)).1 h
    obtain ⟨h5, h6⟩ := (app_inj2 (by rfl)).1 h
    simp only [List.cons.injEq, and_true] at h3 h4 h5
    exact tx_ext (dgl_inj.1 h1) (dgl_inj.1 h2) (litU_inj.1 h3) (litU_inj.1 h4) (litU_inj.1 h5) (dgl_inj.1 h6)
  · rintro rfl; rfl
end Go.Proofs.YtpfglincdlmfhaaDoor
