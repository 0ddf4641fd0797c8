/-
  Headers in memory, built and compared.
-/
import Derived.Test.YtpfglincdlmfhaaDoorTx
import Derived.Test.YtpfglincdlmfhaaDoorHdP
import Derived.Test.YtpfglincdlmfhaaDoorOpensN
namespace Go.Proofs.YtpfglincdlmfhaaDoor
open Go.RowKit
set_option linter.unusedVariables false
set_option maxRecDepth 100000

def hdS (x : Hd) : List (List Value) := [[.int .i64 x.h], x.p.1.map bv, x.s.1.map bv, x.r.1.map bv, [.int .i64 x.m]]
def hdC (x : Hd) : List Value := (hdS x).flatten
theorem len_hd (x : Hd) : (hdC x).length = 98 := by simp [hdC, hdS, x.p.2, x.s.2, x.r.2]
instance : Enc Hd := Enc.by_ fun x => (x.h, x.p, x.s, x.r, x.m)
def Hd.ok (x : Hd) : Prop := (-9223372036854775808 ≤ x.h ∧ x.h ≤ 9223372036854775807) ∧ (-9223372036854775808 ≤ x.m ∧ x.m ≤ 9223372036854775807)
theorem rep_hd {F : Nat → Prop} {w : World} {x : Hd} {vs : List Value} (h : Enc.rep F w x vs) : vs = hdC x ∧ x.ok := by
  obtain ⟨u1, t1, rfl, ⟨h1, b1⟩, u2, t2, rfl, h2, u3, t3, rfl, h3, u4, t4, rfl, h4, ⟨h5, b5⟩⟩ := h
  have h2 : u2 = x.p.1.map bv := h2
  have h3 : u3 = x.s.1.map bv := h3
  have h4 : u4 = x.r.1.map bv := h4
  subst h1 h2 h3 h4 h5
  exact ⟨by simp [hdC, hdS], b1, b5⟩
theorem opensI64h : Opens Tryd.prog 3 Int := Opens.i64 Tryd.underlying3 (by kernel_rfl)
theorem opensHd : Opens Tryd.prog 25 Hd :=
  Opens.by_ (fun x : Hd => (x.h, x.p, x.s, x.r, x.m)) (fun b => ⟨b.1, b.2.1, b.2.2.1, b.2.2.2.1, b.2.2.2.2⟩) (fun b => rfl)
    (Opens.struct5 Tryd.underlying25 (by kernel_rfl) rfl rfl rfl rfl rfl opensI64h opensDg opensDg opensDg opensI64h)
theorem sizeHd (x : Hd) : (Tryd.prog.info? 25).map (·.size) = some (hdC x).length := by rw [len_hd]; kernel_rfl
theorem sizeHdA (x : Hd) : (Tryd.prog.info? 25).map (·.size) = some (hdC x).toArray.size := sizeHd x
theorem cellsHd : Tryd.prog.cellsOf 25 = 98 := by kernel_rfl
def zHdC : Array Value := (hdC zH).toArray
theorem zInfoHd : (Tryd.prog.info? 25).map (fun i => (i.zero, i.size)) = some (some (.agg zHdC), zHdC.size) := by kernel_rfl
theorem zSizeHd (x : Hd) : zHdC.size = (hdC x).toArray.size := by
  show (hdC zH).toArray.size = _
  rw [List.size_toArray, List.size_toArray, len_hd, len_hd]
theorem one_hd (x : Hd) : (hdC x).toArray.all (·.oneCell') = true := all_oneCell_toArray fun v hv => by
  simp only [hdC, hdS, List.mem_flatten, List.mem_cons, List.not_mem_nil, or_false] at hv
  obtain ⟨l, hl, hv⟩ := hv
  rcases hl with rfl | rfl | rfl | rfl | rfl
  · simp at hv; subst hv; rfl
  · exact bvs_one _ v hv
  · exact bvs_one _ v hv
  · exact bvs_one _ v hv
  · simp at hv; subst hv; rfl
def zHd : Value := .agg zHdC
theorem placesHd : Places Tryd.prog 25 zHd [(0, 1), (1, 32), (33, 32), (65, 32), (97, 1)] := by unfold Places; kernel_rfl
theorem built_hd (x : Hd) : Tryd.prog.built 25 [(0, .int .i64 x.h), (1, .agg (x.p.1.map bv).toArray), (2, .agg (x.s.1.map bv).toArray), (3, .agg (x.r.1.map bv).toArray), (4, .int .i64 x.m)] = some (hdC x).toArray := by
  rw [built_places placesHd]
  have h := fill_all (place := fun i => ([(0, 1), (1, 32), (33, 32), (65, 32), (97, 1)] : List (Nat × Nat)).toArray[i]?) (hdS zH) [.int .i64 x.h, .agg (x.p.1.map bv).toArray, .agg (x.s.1.map bv).toArray, .agg (x.r.1.map bv).toArray, .int .i64 x.m] 0 [] (by
    have lz : ∀ d : Dg, (d.1.map bv).length = 32 := len_dgv
    refine ⟨?_, ?_, ?_, ?_, ?_, ?_, ?_, ?_, ?_, ?_, trivial⟩ <;> simp [lz, Value.cells, zH])
  exact h
theorem built_hd0 : Tryd.prog.built 25 [] = some zHdC := by kernel_rfl
structure BoxH (W : World) (g : Nat) (x : Hd) : Prop where
  all : W.rangeAt g 0 (hdC x)
  h : W.cell? ⟨g, 0, none⟩ = some (.int .i64 x.h)
  p : W.rangeAt g 1 (x.p.1.map bv)
  s : W.rangeAt g 33 (x.s.1.map bv)
  r : W.rangeAt g 65 (x.r.1.map bv)
  m : W.cell? ⟨g, 97, none⟩ = some (.int .i64 x.m)
theorem BoxH.of {W : World} {g : Nat} {x : Hd} (h : W.rangeAt g 0 (hdC x)) : BoxH W g x := by
  have hr := fun i (hi : i < (hdS x).length) => range_seg (hdS x) 0 i hi h
  have h0 := hr 0 (by simp [hdS])
  have h1 := hr 1 (by simp [hdS])
  have h2 := hr 2 (by simp [hdS])
  have h3 := hr 3 (by simp [hdS])
  have h4 := hr 4 (by simp [hdS])
  simp [hdS, x.p.2, x.s.2, x.r.2] at h0 h1 h2 h3 h4
  exact ⟨h, h0 0 _ rfl, h1, h2, h3, h4 0 _ rfl⟩
theorem BoxH.bel {W W' : World} {g : Nat} {x : Hd} (h : BoxH W g x) (hb : Below W.heap.size W W') : BoxH W' g x := BoxH.of (rangeBel2 hb h.all)
theorem BoxH.new (W : World) (x : Hd) (t : TypeId) : BoxH (W.alloc (.cells (hdC x).toArray t)) W.heap.size x := BoxH.of (rangeOf (heap_alloc_new W _))
def hdL (x : Hd) : List (List Lit) := [[litI x.h], x.p.1.map lit8, x.s.1.map lit8, x.r.1.map lit8, [litI x.m]]
theorem litI_inj {a b : Int} : litI a = litI b ↔ a = b := ⟨fun h => by unfold litI at h; injection h with _ h, fun h => by rw [h]⟩
theorem hd_ext {x y : Hd} (h1 : x.h = y.h) (h2 : x.p = y.p) (h3 : x.s = y.s) (h4 : x.r = y.r) (h5 : x.m = y.m) : x = y := by cases x; cases y; simp_all
theorem hdL_inj {x y : Hd} : (hdL x).flatten = (hdL y).flatten ↔ x = y := by
  constructor
  · intro h
    simp only [hdL, List.flatten_cons, List.flatten_nil, List.append_nil] at h
    obtain ⟨h1, h⟩ := (app_inj2 (by rfl)).1 h
    obtain ⟨h2, h⟩ := (app_inj2 (by simp [x.p.2, y.p.2])).1 h
    obtain ⟨h3, h⟩ := (app_inj2 (by simp [x.s.2, y.s.2])).1 h
    obtain ⟨h4, h5⟩ := (app_inj2 (by simp [x.r.2, y.r.2])).1 h
    simp only [List.cons.injEq, and_true] at h1 h5
    exact hd_ext (litI_inj.1 h1) (dgl_inj.1 h2) (dgl_inj.1 h3) (dgl_inj.1 h4) (litI_inj.1 h5)
  · rintro rfl; rfl
theorem fitsHd (x : Hd) (h : x.ok) : FitsK Tryd.prog 3 (Tryd.prog.fieldsOf 25).toList 0 (hdS x) (hdL x) := by
  have c8 : Tryd.prog.cellsOf 3 = 1 := by kernel_rfl
  have cd : Tryd.prog.cellsOf 23 = 32 := by kernel_rfl
  have ki := fun n h1 h2 => keyLits_i64 Tryd.underlying3 2 n h1 h2
  have kd := fun d : Dg => keyLits_dg 1 d
  have hf : (Tryd.prog.fieldsOf 25).toList = (match Tryd.prog.underlying 25 with | some (.struct fs) => fs | _ => #[]).toList := by kernel_rfl
  rw [hf, Tryd.underlying25]
  simp only [hdS, hdL, FitsK, c8, cd, len_dgv, ki _ h.1.1 h.1.2, ki _ h.2.1 h.2.2, kd]
  simp
theorem eqhd_is (x y : Hd) (hx : x.ok) (hy : y.ok) (b : Bool) (h : decide (x = y) = b) (w : World) :
    (Op.equalIn 10000 25 (.agg (hdC x).toArray) (.agg (hdC y).toArray)).run Tryd.prog w = .ok b w := by
  have hu : Tryd.prog.underlying 25 = some (.struct (Tryd.prog.fieldsOf 25)) := by kernel_rfl
  exact eq_flat hu 4 (by decide +kernel) (by decide) 3 (hdS x) (hdS y) (hdL x) (hdL y) (by rw [cellsHd]; exact len_hd x) (by rw [cellsHd]; exact len_hd y) (by decide +kernel) (fitsHd x hx) (fitsHd y hy) b (by rw [hdL_inj, ← h, decide_eq_true_eq]) w
end Go.Proofs.YtpfglincdlmfhaaDoor
