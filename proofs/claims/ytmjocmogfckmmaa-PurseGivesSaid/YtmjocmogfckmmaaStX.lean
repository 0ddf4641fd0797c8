/-
 Texts laid together: EqS, StepT, RNumber, OpensN, TreeB, Flat, Ac, Tx, Hd, Rc.
-/
import Derived.Test.YtmjocmogfckmmaaBits
import Derived.DeepKeys
import Derived.Deep.RegionWith
import Derived.IntWalk
import Derived.Test.YtmjocmogfckmmaaMem
import Derived.Test.YtmjocmogfckmmaaTrN
import Derived.Test.YtmjocmogfckmmaaPureX
set_option maxRecDepth 100000
set_option linter.unusedVariables false
set_option linter.unusedSimpArgs false
namespace Go.Proofs.Ytmjocmogfckmmaa
/- (EqS)
 Whether two structs are equal: by the literals in their cells (the kit's law on keys of maps, at any type that may be a key).
-/
section
open Go.RowKit

/-- Things at a type whose cells are literals: equal just if the literals are. -/
theorem eq_lits {P : Program} {t : TypeId} (m : Nat) (hk : P.keyTypeAt m t = true) (hm : m ≤ 10000) {D D' : Nat} {cs ds : List Value} {la lb : List Lit} (fa : (Value.agg cs.toArray).formed P t = true) (fb : (Value.agg ds.toArray).formed P t = true)
  (ha : P.keyLits D t cs = some la) (hb : P.keyLits D' t ds = some lb) (b : Bool) (h : b = true ↔ la = lb) (w : World) : (Op.equalIn 10000 t (.agg cs.toArray) (.agg ds.toArray)).run P w = .ok b w := by
 have hE := run_equalIn_deep (P := P) (10000 - m) m t hk
 rw [show 10000 - m + m = 10000 by omega] at hE
 obtain ⟨r, hr, hiff⟩ := hE w D D' (.agg cs.toArray) (.agg ds.toArray) la lb fa fb ha hb
 rw [hr]
 congr 1
 rw [Bool.eq_iff_iff, hiff, h]
def litU (n : Nat) : Lit := .int .u64 (n : Int)
theorem keyLits_u64 {P : Program} {t : TypeId} (ht : P.underlying t = some (.int .u64)) (d n : Nat) (hn : n < 18446744073709551616) : P.keyLits (d + 1) t [.int .u64 (n : Int)] = some [litU n] := by
 have hw : (Lit.int .u64 (n : Int)).wf = true := by
  simp [Lit.wf, IntKind.min, IntKind.max, IntKind.signed, IntKind.bits]
  omega
 simp only [Program.keyLits, ht, hw, true_and, if_true]
 rfl
theorem keyLits_struct {P : Program} {t : TypeId} {fs : Array Field} (ht : P.underlying t = some (.struct fs)) (d : Nat) (cs : List Value) (hl : cs.length = P.cellsOf t) (hn : fs.all (·.name != "_") = true) :
  P.keyLits (d + 1) t cs = (fs.toList.mapM fun f => P.keyLits d f.type ((cs.drop f.offset).take (P.cellsOf f.type))).map List.flatten := by
 simp only [Program.keyLits, ht, hl, hn, and_self, if_true]
end

/- (StepT)
 Steps of drawn regions: a box laid, a whole thing stored. No program is named here.
-/
section
open Go.RowKit

theorem xnewP {w0 w4 : World} {o : Obj} {k : Nat} (hk : k = w0.heap.size) (hb : (w0.alloc o).grownBy w4 (some k)) : Below w0.heap.size w0 w4 :=
 (ext_alloc w0 o).grown hb (ext_alloc w0 o).size (fun g e => by injection e with e; omega)
section
variable {P : Program}
theorem step_store_rowT {ops : Array Oper} {o : Oper} {a : Act} {w : World} {K : Act → World → Prop} {Q : Exit → Act → World → Prop} {X : Prop} (hw : o.guard = none) (ty : TypeId) (x y : Operand) (ho : o.op = .store ty x y)
  (g : Nat) (cs : Array Value) (hx : a.eval x = .pointer (some ⟨g, 0, none⟩)) (hy : a.eval y = .agg cs) (t : TypeId) (old : Array Value) (hg : w.heap[g]? = some (.cells old t (0, 0)))
  (hi : (P.info? ty).map (·.size) = some cs.size) (hold : old.size = cs.size) (h1 : cs.all (·.oneCell') = true)
  (h : ∀ w', w'.heap[g]? = some (.cells cs t (0, 0)) → w.grownBy w' (some g) → K (a.put o.dst undef) w') : if Region.wanted o (yielded ops a.tmps) = true then Oper.wp P o a w K Q else X := by
 rw [if_pos (by simp [Region.wanted, hw])]
 exact wp_store_row ty x y ho g cs hx hy t old hg hi hold h1 fun w' h2 h3 _ => h w' h2 h3
theorem step_alloc_rowT {ops : Array Oper} {o : Oper} {a : Act} {w : World} {K : Act → World → Prop} {Q : Exit → Act → World → Prop} {X : Prop} (hw : o.guard = none) (ty : TypeId) (ho : o.op = .alloc ty)
  (zs : Array Value) (hz : (P.info? ty).map (fun i => (i.zero, i.size)) = some (some (.agg zs), zs.size))
  (h : ∀ g w', w.heap.size ≤ g → w'.heap[g]? = some (.cells zs ty (0, 0)) → Below w.heap.size w w' → K (a.put o.dst (.pointer (some ⟨g, 0, none⟩))) w') : if Region.wanted o (yielded ops a.tmps) = true then Oper.wp P o a w K Q else X := by
 rw [if_pos (by simp [Region.wanted, hw])]
 have hq : ∃ i, P.info? ty = some i ∧ i.zero = some (.agg zs) := by
  cases hq : P.info? ty with
  | none => simp [hq] at hz
  | some i => simp [hq] at hz; exact ⟨i, rfl, hz.1⟩
 obtain ⟨i, hi, hzz⟩ := hq
 unfold Oper.wp execOp
 simp only [ho]
 simp [Instr.alloc, zeroValue, typeInfo, hi, hzz, newVar, Value.cells]
 exact h _ _ (Nat.le_refl _) (heap_alloc_new w (.cells zs ty)) (ext_alloc w _)
end
end

/- (RNumber)
 Contracts of the document's own answers for layer 1: Number.
-/
section
open Go.RowKit

set_option maxHeartbeats 400000 in
theorem Number_any (A : Option Addr) (n c : Nat) (l : List UInt8) (w : World) (hr : Rd w A l) (hn : n = l.length) (h8 : l.length ≤ 8) :
  Calls Try.prog 59 #[.slice A n c] w fun e w' => e = .returned (.int .u64 (num l : Int)) ∧ w = w' := by
 subst hn
 go_enter Try.func59, Try.ntmps59
 go_wp2
 go_loop [3, 4] (fun v i => ∃ j : Nat, j ≤ l.length ∧ i = .int .i64 j ∧ v = .int .u64 (num (l.take j) : Int)) (fun _ i => l.length - (intOf i).toNat)
 case atStart => exact ⟨0, Nat.zero_le _, rfl, rfl⟩
 case round =>
  obtain ⟨j, hj, rfl, rfl⟩ := hrel
  by_cases hlt : j < l.length
  ·obtain ⟨b, o, rfl, hc⟩ := rd_cell hr (by omega)
   have hcell := hc j (by omega)
   clear hc hr
   have Hs := hid (num_take_succ l j (by omega))
   have Ho := hid (add_byte _ l[j] (num_take_lt l j l.length hlt h8))
   go_wp2
   go_round
   case rel => exact ⟨j + 1, by omega, by go_num, by rw [Ho.out, Hs.out]⟩
   case measure => simp [intOf]; omega
  ·obtain rfl : j = l.length := by omega
   rw [List.take_length]
   go_wp2
   go_ret
   exact ⟨rfl, rfl⟩

end

/- (OpensN)
 Structs of three, five, six fields among a law's arguments. No program is named here.
-/
section
open Go.RowKit

theorem cut_drop (cs : List Value) (a s : Nat) : (cs.drop a).take s ++ cs.drop (a + s) = cs.drop a := by
 rw [← List.drop_drop, List.take_append_drop]
theorem Opens.struct5 {P : Program} {t : TypeId} {α β γ δ ε : Type} [Enc α] [Enc β] [Enc γ] [Enc δ] [Enc ε] {f0 f1 f2 f3 f4 : Field} (ht : P.underlying t = some (.struct #[f0, f1, f2, f3, f4]))
  (hc : P.cellsOf t = Enc.size α + Enc.size β + Enc.size γ + Enc.size δ + Enc.size ε) (h0 : f0.offset = 0) (h1 : f1.offset = Enc.size α) (h2 : f2.offset = Enc.size α + Enc.size β) (h3 : f3.offset = Enc.size α + Enc.size β + Enc.size γ) (h4 : f4.offset = Enc.size α + Enc.size β + Enc.size γ + Enc.size δ)
  (o0 : Opens P f0.type α) (o1 : Opens P f1.type β) (o2 : Opens P f2.type γ) (o3 : Opens P f3.type δ) (o4 : Opens P f4.type ε) : Opens P t (α × β × γ × δ × ε) :=
 ⟨by rw [hc]; show _ = Enc.size α + (Enc.size β + (Enc.size γ + (Enc.size δ + Enc.size ε))); omega, Nat.lt_of_lt_of_le o0.pos (Nat.le_add_right _ _), fun {H enc w base sp held fuel cs x} h => by
  obtain ⟨xs, n, _, hx, hl, hxl, hf⟩ := DataW.trod_struct ht h
  have e0 := hf 0 f0 rfl
  have e1 := hf 1 f1 rfl
  have e2 := hf 2 f2 rfl
  have e3 := hf 3 f3 rfl
  have e4 := hf 4 f4 rfl
  have hxl : xs.length = 5 := by simpa using hxl
  rw [List.getElem?_eq_getElem (by omega)] at e0 e1 e2 e3 e4
  obtain ⟨a, ha⟩ := o0.opens e0
  obtain ⟨b, hb⟩ := o1.opens e1
  obtain ⟨c, hc'⟩ := o2.opens e2
  obtain ⟨d, hd⟩ := o3.opens e3
  obtain ⟨e, he⟩ := o4.opens e4
  rw [h0, o0.cells] at ha
  rw [h1, o1.cells] at hb
  rw [h2, o2.cells] at hc'
  rw [h3, o3.cells] at hd
  rw [h4, o4.cells, List.take_of_length_le (by rw [List.length_drop, hl, hc]; omega)] at he
  have c0 := cut_drop cs 0 (Enc.size α)
  have c1 := cut_drop cs (Enc.size α) (Enc.size β)
  have c2 := cut_drop cs (Enc.size α + Enc.size β) (Enc.size γ)
  have c3 := cut_drop cs (Enc.size α + Enc.size β + Enc.size γ) (Enc.size δ)
  rw [Nat.zero_add, List.drop_zero] at c0
  rw [List.drop_zero] at ha
  exact ⟨(a, b, c, d, e), _, _, c0.symm, ha, _, _, c1.symm, hb, _, _, c2.symm, hc', _, _, c3.symm, hd, he⟩⟩
theorem Opens.struct3 {P : Program} {t : TypeId} {α β γ : Type} [Enc α] [Enc β] [Enc γ] {f0 f1 f2 : Field} (ht : P.underlying t = some (.struct #[f0, f1, f2]))
  (hc : P.cellsOf t = Enc.size α + Enc.size β + Enc.size γ) (h0 : f0.offset = 0) (h1 : f1.offset = Enc.size α) (h2 : f2.offset = Enc.size α + Enc.size β)
  (o0 : Opens P f0.type α) (o1 : Opens P f1.type β) (o2 : Opens P f2.type γ) : Opens P t (α × β × γ) :=
 ⟨by rw [hc]; show _ = Enc.size α + (Enc.size β + Enc.size γ); omega, Nat.lt_of_lt_of_le o0.pos (Nat.le_add_right _ _), fun {H enc w base sp held fuel cs x} h => by
  obtain ⟨xs, n, _, hx, hl, hxl, hf⟩ := DataW.trod_struct ht h
  have e0 := hf 0 f0 rfl
  have e1 := hf 1 f1 rfl
  have e2 := hf 2 f2 rfl
  have hxl : xs.length = 3 := by simpa using hxl
  rw [List.getElem?_eq_getElem (by omega)] at e0 e1 e2
  obtain ⟨a, ha⟩ := o0.opens e0
  obtain ⟨b, hb⟩ := o1.opens e1
  obtain ⟨c, hc'⟩ := o2.opens e2
  rw [h0, o0.cells] at ha
  rw [h1, o1.cells] at hb
  rw [h2, o2.cells, List.take_of_length_le (by rw [List.length_drop, hl, hc]; omega)] at hc'
  have c0 := cut_drop cs 0 (Enc.size α)
  have c1 := cut_drop cs (Enc.size α) (Enc.size β)
  rw [Nat.zero_add, List.drop_zero] at c0
  rw [List.drop_zero] at ha
  exact ⟨(a, b, c), _, _, c0.symm, ha, _, _, c1.symm, hb, hc'⟩⟩
end

/- (TreeB)
 The program's facts on nodes and trees: their types, among a law's arguments.
-/
section
open Go.RowKit

def zNdC : Array Value := (ndC nd0 none 0).toArray
def zNd : Value := .agg zNdC
def zTrC : Array Value := #[.slice none 0 0, .int .i64 0]
theorem slotNd : Slot Try.prog Nd 22 43 zNd 80 where
 under := Try.underlying22
 info := by kernel_rfl
 zero := by decide +kernel
 pos := by decide
theorem zInfoNd : (Try.prog.info? 43).map (fun i => (i.zero, i.size)) = some (some (.agg zNdC), zNdC.size) := by kernel_rfl
theorem zSizeNd : zNdC.size = 36 := by decide +kernel
theorem sizeNd : (Try.prog.info? 43).map (·.size) = some 36 := by kernel_rfl
theorem zInfoTr : (Try.prog.info? 24).map (fun i => (i.zero, i.size)) = some (some (.agg zTrC), zTrC.size) := by kernel_rfl
theorem sizeTr : (Try.prog.info? 24).map (·.size) = some 2 := by kernel_rfl
theorem built_dg0 : Try.prog.built 27 [] = some (z0.1.map bv).toArray := by kernel_rfl
theorem sizeDgT (k : Dg) : (Try.prog.info? 27).map (·.size) = some (k.1.map bv).length := by rw [List.length_map, k.2]; exact size32

theorem opensBool : Opens Try.prog 4 Bool := Opens.bool Try.underlying4 (by kernel_rfl)
theorem opensInt : Opens Try.prog 3 Int := Opens.i64 Try.underlying3 (by kernel_rfl)
theorem opensNd : Opens Try.prog 43 Nd :=
 Opens.by_ (fun x : Nd => (x.leaf, x.k, x.v, x.l, x.r)) (fun b => ⟨b.1, b.2.1, b.2.2.1, b.2.2.2.1, b.2.2.2.2⟩) (fun b => rfl) (Opens.struct5 Try.underlying43 (by kernel_rfl) rfl rfl rfl rfl rfl opensBool opensDg opensBytes opensInt opensInt)
theorem opensNds : Opens Try.prog 22 (List Nd) := Opens.slice Try.underlying22 (by kernel_rfl) opensNd
theorem opensTr : Opens Try.prog 24 Tr :=
 Opens.by_ (fun t : Tr => (t.ns, t.root)) (fun b => ⟨b.1, b.2⟩) (fun b => rfl) (Opens.struct2 Try.underlying24 (by kernel_rfl) rfl rfl opensNds opensInt)
end

/- (Flat)
 Structs whose cells are the cells of their fields, one behind the other: built, read, set, compared. No program is named here.
-/
section
open Go.RowKit

/-! ### built -/
def partsFrom : Nat → List Value → List (Nat × Value)
 | _, [] => []
 | k, v :: r => (k, v) :: partsFrom (k + 1) r
/-- Where fields stand, and how long they are. -/
def FitsAt (place : Nat → Option (Nat × Nat)) : Nat → Nat → List (List Value) → List Value → Prop
 | _, _, [], [] => True
 | k, off, z :: zs, v :: vs => place k = some (off, z.length) ∧ v.cells.size = z.length ∧ FitsAt place (k + 1) (off + z.length) zs vs
 | _, _, _, _ => False
theorem fill_all {place : Nat → Option (Nat × Nat)} : ∀ (zs : List (List Value)) (vs : List Value) (k : Nat) (pre : List Value), FitsAt place k pre.length zs vs →
  Instr.fill place (pre ++ zs.flatten).toArray (partsFrom k vs) = some (pre ++ (vs.map fun v => v.cells.toList).flatten).toArray
 | [], [], k, pre, _ => by simp [partsFrom, Instr.fill]
 | z :: zs, v :: vs, k, pre, h => by
  obtain ⟨h1, h2, h3⟩ := h
  have hv : v.cells.toList.length = z.length := by rw [Array.length_toList, h2]
  have ih := fill_all zs vs (k + 1) (pre ++ v.cells.toList) (by rw [List.length_append, hv]; exact h3)
  have hl := lay_mid pre z zs.flatten v.cells.toList hv
  show Instr.fill place (pre ++ (z :: zs).flatten).toArray ((k, v) :: partsFrom (k + 1) vs) = _
  rw [fill_cons (off := pre.length) (by rw [h1, h2]) (by rw [h2]; simp)]
  simp only [List.flatten_cons]
  rw [hl, ← List.append_assoc, ih]
  simp
 | [], _ :: _, _, _, h => h.elim
 | _ :: _, [], _, _, h => h.elim

/-! ### read and set -/
theorem range_seg {W : World} {g : Nat} : ∀ (segs : List (List Value)) (o i : Nat) (hi : i < segs.length), W.rangeAt g o segs.flatten → W.rangeAt g (o + ((segs.take i).flatten).length) segs[i]
 | s :: segs, o, 0, hi, h => by
  intro j v hv
  have hv : s[j]? = some v := hv
  have := h j v (by rw [List.flatten_cons, List.getElem?_append_left (List.getElem?_eq_some_iff.1 hv).1]; exact hv)
  simpa using this
 | s :: segs, o, i + 1, hi, h => by
  have h2 : W.rangeAt g (o + s.length) segs.flatten := fun j v hv => by
   have := h (s.length + j) v (by rw [List.flatten_cons, List.getElem?_append_right (by omega), Nat.add_sub_cancel_left]; exact hv)
   rw [Nat.add_assoc]
   exact this
  have ih := range_seg segs (o + s.length) i (Nat.lt_of_succ_lt_succ hi) h2
  simp only [List.take_succ_cons, List.flatten_cons, List.length_append, List.getElem_cons_succ]
  rw [← Nat.add_assoc]
  exact ih
 | [], _, _, hi, _ => absurd hi (by simp)

/-! ### compared -/
end

/- (Ac)
 Accounts in memory, and compared.
-/
section
open Go.RowKit

instance : Enc Ac := Enc.by_ fun a => (a.n, a.b)
def acC (a : Ac) : List Value := [.int .u64 (a.n : Int), .int .u64 (a.b : Int)]
theorem sizeAc : (Try.prog.info? 63).map (·.size) = some 2 := by kernel_rfl
theorem cellsAc : Try.prog.cellsOf 63 = 2 := by kernel_rfl
theorem zInfoAc : (Try.prog.info? 63).map (fun i => (i.zero, i.size)) = some (some (.agg (acC ac0).toArray), (acC ac0).toArray.size) := by kernel_rfl
theorem built_ac (n b : Nat) : Try.prog.built 63 [(0, .int .u64 (n : Int)), (1, .int .u64 (b : Int))] = some (acC ⟨n, b⟩).toArray := by rfl
theorem built_ac0 : Try.prog.built 63 [] = some (acC ac0).toArray := by kernel_rfl
theorem one_ac (a : Ac) : (acC a).toArray.all (·.oneCell') = true := all_oneCell_toArray (cs := acC a) fun u hu => by
 simp only [acC, List.mem_cons, List.not_mem_nil, or_false] at hu
 rcases hu with rfl | rfl <;> rfl
def litsAc (a : Ac) : List Lit := [litU a.n, litU a.b]
theorem litsAc_inj {a c : Ac} : litsAc a = litsAc c ↔ a = c := by
 constructor
 ·intro h
  unfold litsAc litU at h
  injection h with h1 h2
  injection h2 with h2 _
  injection h1 with _ h1
  injection h2 with _ h2
  exact ac_ext (by omega) (by omega)
 ·rintro rfl; rfl
theorem keyLits_ac (a : Ac) (h : a.ok) : Try.prog.keyLits 3 63 (acC a) = some (litsAc a) := by
 have h1 := keyLits_u64 Try.underlying25 1 a.n h.1
 have h2 := keyLits_u64 Try.underlying25 1 a.b h.2
 have c8 : Try.prog.cellsOf 25 = 1 := by kernel_rfl
 have hl : (acC a).length = Try.prog.cellsOf 63 := by rw [cellsAc]; rfl
 rw [keyLits_struct Try.underlying63 2 (acC a) hl (by decide +kernel)]
 simp only [List.mapM_cons, List.mapM_nil, acC, List.drop_zero, List.drop_succ_cons, List.take_succ_cons, List.take_zero, c8, h1, h2]
 rfl
theorem eqac_is (a c : Ac) (ha : a.ok) (hc : c.ok) (b : Bool) (h : decide (a = c) = b) (w : World) :
  (Op.equalIn 10000 63 (.agg (acC a).toArray) (.agg (acC c).toArray)).run Try.prog w = .ok b w := by
 have hf : ∀ x : Ac, (Value.agg (acC x).toArray).formed Try.prog 63 = true := fun x => by
  simp [Value.formed, Try.underlying63, cellsAc, acC]
 exact eq_lits 3 (by decide +kernel) (by decide) (hf a) (hf c) (keyLits_ac a ha) (keyLits_ac c hc) b (by rw [litsAc_inj, ← h, decide_eq_true_eq]) w
end

/- (Tx)
 Transactions in memory, built and compared.
-/
section
open Go.RowKit

def txS (x : Tx) : List (List Value) := [x.p.1.map bv, x.t.1.map bv, [.int .u64 (x.n : Int)], [.int .u64 (x.a : Int)], [.int .u64 (x.f : Int)], x.s.1.map bv]
def txC (x : Tx) : List Value := (txS x).flatten
instance : Enc Tx := Enc.by_ fun x => (x.p, x.t, x.n, x.a, x.f, x.s)
theorem opensU64x : Opens Try.prog 25 Nat := Opens.u64 Try.underlying25 (by kernel_rfl)
/-- Its parts, where it lies in a box. -/
structure BoxX (W : World) (g : Nat) (x : Tx) : Prop where
 all : W.rangeAt g 0 (txC x)
 p : W.rangeAt g 0 (x.p.1.map bv)
 t : W.rangeAt g 32 (x.t.1.map bv)
 n : W.cell? ⟨g, 64, none⟩ = some (.int .u64 (x.n : Int))
 a : W.cell? ⟨g, 65, none⟩ = some (.int .u64 (x.a : Int))
 f : W.cell? ⟨g, 66, none⟩ = some (.int .u64 (x.f : Int))
 s : W.rangeAt g 67 (x.s.1.map bv)
theorem BoxX.of {W : World} {g : Nat} {x : Tx} (h : W.rangeAt g 0 (txC x)) : BoxX W g x := by
 have hr := fun i (hi : i < (txS x).length) => range_seg (txS x) 0 i hi h
 have h0 := hr 0 (by simp [txS])
 have h1 := hr 1 (by simp [txS])
 have h2 := hr 2 (by simp [txS])
 have h3 := hr 3 (by simp [txS])
 have h4 := hr 4 (by simp [txS])
 have h5 := hr 5 (by simp [txS])
 simp [txS, x.p.2, x.t.2] at h0 h1 h2 h3 h4 h5
 exact ⟨h, h0, h1, h2 0 _ rfl, h3 0 _ rfl, h4 0 _ rfl, h5⟩
theorem BoxX.bel {W W' : World} {g : Nat} {x : Tx} (h : BoxX W g x) (hb : Below W.heap.size W W') : BoxX W' g x := BoxX.of (rangeBel2 hb h.all)
theorem BoxX.new (W : World) (x : Tx) (t : TypeId) : BoxX (W.alloc (.cells (txC x).toArray t)) W.heap.size x := BoxX.of (rangeOf (heap_alloc_new W _))
end

/- (Hd)
 Headers in memory, built and compared.
-/
section
open Go.RowKit

def hdS (x : Hd) : List (List Value) := [[.int .i64 x.h], x.p.1.map bv, x.s.1.map bv, x.r.1.map bv, [.int .i64 x.m]]
def hdC (x : Hd) : List Value := (hdS x).flatten
instance : Enc Hd := Enc.by_ fun x => (x.h, x.p, x.s, x.r, x.m)
def Hd.ok (x : Hd) : Prop := (-9223372036854775808 ≤ x.h ∧ x.h ≤ 9223372036854775807) ∧ (-9223372036854775808 ≤ x.m ∧ x.m ≤ 9223372036854775807)
structure BoxH (W : World) (g : Nat) (x : Hd) : Prop where
 all : W.rangeAt g 0 (hdC x)
 h : W.cell? ⟨g, 0, none⟩ = some (.int .i64 x.h)
 p : W.rangeAt g 1 (x.p.1.map bv)
 s : W.rangeAt g 33 (x.s.1.map bv)
 r : W.rangeAt g 65 (x.r.1.map bv)
 m : W.cell? ⟨g, 97, none⟩ = some (.int .i64 x.m)
theorem BoxH.of {W : World} {g : Nat} {x : Hd} (h : W.rangeAt g 0 (hdC x)) : BoxH W g x := by
 have hr := fun i (hi : i < (hdS x).length) => range_seg (hdS x) 0 i hi h
 have h0 := hr 0 (by simp [hdS])
 have h1 := hr 1 (by simp [hdS])
 have h2 := hr 2 (by simp [hdS])
 have h3 := hr 3 (by simp [hdS])
 have h4 := hr 4 (by simp [hdS])
 simp [hdS, x.p.2, x.s.2, x.r.2] at h0 h1 h2 h3 h4
 exact ⟨h, h0 0 _ rfl, h1, h2, h3, h4 0 _ rfl⟩
theorem BoxH.bel {W W' : World} {g : Nat} {x : Hd} (h : BoxH W g x) (hb : Below W.heap.size W W') : BoxH W' g x := BoxH.of (rangeBel2 hb h.all)
theorem BoxH.new (W : World) (x : Hd) (t : TypeId) : BoxH (W.alloc (.cells (hdC x).toArray t)) W.heap.size x := BoxH.of (rangeOf (heap_alloc_new W _))
end

/- (Rc)
 Deposits and receipts in memory, built and compared.
-/
section
open Go.RowKit

/-! ### deposits -/
def dpS (x : Dp) : List (List Value) := [[.int .u64 (x.n : Int)], x.t.1.map bv, [.int .u64 (x.a : Int)]]
def dpC (x : Dp) : List Value := (dpS x).flatten
theorem len_dp (x : Dp) : (dpC x).length = 34 := by simp [dpC, dpS, x.t.2]
instance : Enc Dp := Enc.by_ fun x => (x.n, x.t, x.a)
theorem rep_dp {F : Nat → Prop} {w : World} {x : Dp} {vs : List Value} (h : Enc.rep F w x vs) : vs = dpC x ∧ x.ok := by
 obtain ⟨u1, t1, rfl, ⟨h1, b1⟩, u2, t2, rfl, h2, ⟨h3, b3⟩⟩ := h
 have h2 : u2 = x.t.1.map bv := h2
 subst h1 h2 h3
 exact ⟨by simp [dpC, dpS], b1, b3⟩
theorem opensDp : Opens Try.prog 29 Dp :=
 Opens.by_ (fun x : Dp => (x.n, x.t, x.a)) (fun b => ⟨b.1, b.2.1, b.2.2⟩) (fun b => rfl) (Opens.struct3 Try.underlying29 (by kernel_rfl) rfl rfl rfl opensU64x opensDg opensU64x)
theorem sizeDp (x : Dp) : (Try.prog.info? 29).map (·.size) = some (dpC x).length := by rw [len_dp]; kernel_rfl
structure BoxD (W : World) (g : Nat) (x : Dp) : Prop where
 all : W.rangeAt g 0 (dpC x)
 n : W.cell? ⟨g, 0, none⟩ = some (.int .u64 (x.n : Int))
 t : W.rangeAt g 1 (x.t.1.map bv)
 a : W.cell? ⟨g, 33, none⟩ = some (.int .u64 (x.a : Int))
theorem BoxD.of {W : World} {g : Nat} {x : Dp} (h : W.rangeAt g 0 (dpC x)) : BoxD W g x := by
 have hr := fun i (hi : i < (dpS x).length) => range_seg (dpS x) 0 i hi h
 have h0 := hr 0 (by simp [dpS])
 have h1 := hr 1 (by simp [dpS])
 have h2 := hr 2 (by simp [dpS])
 simp [dpS, x.t.2] at h0 h1 h2
 exact ⟨h, h0 0 _ rfl, h1, h2 0 _ rfl⟩
theorem BoxD.bel {W W' : World} {g : Nat} {x : Dp} (h : BoxD W g x) (hb : Below W.heap.size W W') : BoxD W' g x := BoxD.of (rangeBel2 hb h.all)
theorem BoxD.new (W : World) (x : Dp) (t : TypeId) : BoxD (W.alloc (.cells (dpC x).toArray t)) W.heap.size x := BoxD.of (rangeOf (heap_alloc_new W _))

/-! ### receipts -/
def rcS (x : Rc) : List (List Value) := [[bv x.k], x.i.1.map bv, [.int .i64 x.c]]
def rcC (x : Rc) : List Value := (rcS x).flatten
instance : Enc Rc := Enc.by_ fun x => (x.k, x.i, x.c)
def Rc.ok (x : Rc) : Prop := -9223372036854775808 ≤ x.c ∧ x.c ≤ 9223372036854775807
structure BoxR (W : World) (g : Nat) (x : Rc) : Prop where
 all : W.rangeAt g 0 (rcC x)
 k : W.cell? ⟨g, 0, none⟩ = some (bv x.k)
 i : W.rangeAt g 1 (x.i.1.map bv)
 c : W.cell? ⟨g, 33, none⟩ = some (.int .i64 x.c)
theorem BoxR.of {W : World} {g : Nat} {x : Rc} (h : W.rangeAt g 0 (rcC x)) : BoxR W g x := by
 have hr := fun i (hi : i < (rcS x).length) => range_seg (rcS x) 0 i hi h
 have h0 := hr 0 (by simp [rcS])
 have h1 := hr 1 (by simp [rcS])
 have h2 := hr 2 (by simp [rcS])
 simp [rcS, x.i.2] at h0 h1 h2
 exact ⟨h, h0 0 _ rfl, h1, h2 0 _ rfl⟩
theorem BoxR.bel {W W' : World} {g : Nat} {x : Rc} (h : BoxR W g x) (hb : Below W.heap.size W W') : BoxR W' g x := BoxR.of (rangeBel2 hb h.all)
theorem BoxR.new (W : World) (x : Rc) (t : TypeId) : BoxR (W.alloc (.cells (rcC x).toArray t)) W.heap.size x := BoxR.of (rangeOf (heap_alloc_new W _))
end
end Go.Proofs.Ytmjocmogfckmmaa
