/-
  Texts laid together: Arr, B8, Dig, U8, EqD, EqG, DigArg, PairArg, DigOne, StrB, Lit, DigCell, DgOps, PairB, Txt, Same.
-/
import Derived.Test.YtpfglincdlmfhaaDoorBy
import Derived.Test.YtpfglincdlmfhaaDoorPlain
import Derived.Laws.Rows
import Derived.Laws.Tables
import Derived.Laws.NewBlocks
import Derived.Deep.RegionLaw
import Derived.Test.YtpfglincdlmfhaaDoorRows
import Derived.WalkLawsBesides
import Derived.WalkSpells
import Derived.Outline
import Derived.Laws.CopyOwn
import Derived.BigQuiet
import Derived.Deep.QuietTactic
import Derived.Deep.RegionWith
import Derived.IntWalk
import Derived.ChangeKeysEq
import Derived.WideShapes
import Derived.Lib.LaidTab
import Derived.Carry
import Derived.OpenShut
import Derived.Test.YtpfglincdlmfhaaDoorMem
import Derived.Lib.ConvBytes
import Derived.Lib.SlBytesConst
set_option maxRecDepth 100000
/- (Arr)
  Laws for the walk on whole arrays: a new one, one stored whole into a block, one read whole. No program is named here.
-/
namespace Go.Proofs.YtpfglincdlmfhaaDoor
open Go.RowKit

section
variable {P : Program}
theorem grown_setRow (w : World) (g : Nat) (cs : Array Value) : w.grownBy (w.setRow g cs) (some g) :=
  ⟨rfl, rfl, rfl, by simp [World.setRow], fun k _ hne => setRow_other w g k cs (fun e => hne (by rw [e]))⟩

theorem wp_store_row {o : Oper} {a : Act} {w : World} {K : Act → World → Prop} {Q : Exit → Act → World → Prop} (ty : TypeId) (x y : Operand) (ho : o.op = .store ty x y)
    (g : Nat) (cs : Array Value) (hx : a.eval x = .pointer (some ⟨g, 0, none⟩)) (hy : a.eval y = .agg cs) (t : TypeId) (old : Array Value) (hg : w.heap[g]? = some (.cells old t (0, 0)))
    (hi : (P.info? ty).map (·.size) = some cs.size) (hold : old.size = cs.size) (h1 : cs.all (·.oneCell') = true)
    (h : ∀ w', w'.heap[g]? = some (.cells cs t (0, 0)) → w.grownBy w' (some g) → w'.heap.size = w.heap.size → K (a.put o.dst undef) w') : o.wp P a w K Q := by
  have hrun := run_storeVar_row (P := P) w g t ty old cs hg hi hold h1
  unfold Oper.wp execOp
  simp only [ho, hx, hy, Instr.storeAt, Instr.sureAddr, Sem.run_bind, Sem.run_pure, Result.andThen_ok, hrun]
  exact h _ (setRow_heap w g old cs t (0, 0) hg) (grown_setRow w g cs) (by simp [World.setRow])
theorem wpList_store_row {ops : Array Oper} {rest : List Oper} {o : Oper} {a : Act} {w : World} {Q : Exit → Act → World → Prop} (hw : Region.wanted o (yielded ops a.tmps) = true) (ty : TypeId) (x y : Operand) (ho : o.op = .store ty x y)
    (g : Nat) (cs : Array Value) (hx : a.eval x = .pointer (some ⟨g, 0, none⟩)) (hy : a.eval y = .agg cs) (t : TypeId) (old : Array Value) (hg : w.heap[g]? = some (.cells old t (0, 0)))
    (hi : (P.info? ty).map (·.size) = some cs.size) (hold : old.size = cs.size) (h1 : cs.all (·.oneCell') = true)
    (h : ∀ w', w'.heap[g]? = some (.cells cs t (0, 0)) → w.grownBy w' (some g) → w'.heap.size = w.heap.size → wpList P ops Q rest (a.put o.dst undef) w') : wpList P ops Q (o :: rest) a w :=
  wpList_step fun K hK => by
    rw [if_pos hw]
    exact wp_store_row ty x y ho g cs hx hy t old hg hi hold h1 fun w' h2 h3 h4 => hK _ _ (h w' h2 h3 h4)

theorem wpList_load_rowg {ops : Array Oper} {rest : List Oper} {o : Oper} {a : Act} {w : World} {Q : Exit → Act → World → Prop} (hw : Region.wanted o (yielded ops a.tmps) = true) (ty : TypeId) (x : Operand) (ho : o.op = .load ty x)
    (g : Nat) (hx : a.eval x = .pointer (some ⟨g, 0, none⟩)) (t : TypeId) (cs : Array Value) (fr : Nat × Nat) (d : TypeDesc) (hg : w.heap[g]? = some (.cells cs t fr))
    (hu : P.underlying ty = some d) (hd : (match d with | .struct _ | .array _ _ => true | _ => false) = true) (hi : (P.info? ty).map (·.size) = some cs.size)
    (h : wpList P ops Q rest (a.put o.dst (.agg cs)) w) : wpList P ops Q (o :: rest) a w :=
  wpList_step fun K hK => by
    rw [if_pos hw]
    exact wp_load_row ty x ho g hx t cs fr d hg hu hd hi (hK _ _ h)

/-- A new variable of an array's type: a new block of its zero cells. -/
theorem wpList_alloc_row {ops : Array Oper} {rest : List Oper} {o : Oper} {a : Act} {w : World} {Q : Exit → Act → World → Prop} (hg : o.guard = none) (ty : TypeId) (ho : o.op = .alloc ty)
    (zs : Array Value) (hz : (P.info? ty).map (fun i => (i.zero, i.size)) = some (some (.agg zs), zs.size))
    (h : wpList P ops Q rest (a.put o.dst (.pointer (some ⟨w.heap.size, 0, none⟩))) (w.alloc (.cells zs ty))) : wpList P ops Q (o :: rest) a w := by
  refine wpList_plain hg fun K hK => ?_
  have hq : ∃ i, P.info? ty = some i ∧ i.zero = some (.agg zs) := by
    cases hq : P.info? ty with
    | none => simp [hq] at hz
    | some i => simp [hq] at hz; exact ⟨i, rfl, hz.1⟩
  obtain ⟨i, hi, hzz⟩ := hq
  unfold Oper.wp execOp
  simp only [ho]
  simp [Instr.alloc, zeroValue, typeInfo, hi, hzz, newVar, Value.cells]
  exact hK _ _ h
end

/-! ### words in a known block -/
theorem wblock_cell {w : World} {g : Nat} {l : List UInt32} {t : TypeId} (h : w.heap[g]? = some (.cells (wvs l) t (0, 0))) (i : Nat) (hi : i < l.length) : w.cell? ⟨g, i, none⟩ = some (.int .u32 (l[i].toNat : Int)) := by
  rw [block_cell h]; simp [wvs, hi, uv]
theorem wblock_set {w : World} {g : Nat} {l : List UInt32} {t : TypeId} (h : w.heap[g]? = some (.cells (wvs l) t (0, 0))) (i : Nat) (x : UInt32) :
    (w.setCell ⟨g, i, none⟩ (.int .u32 (x.toNat : Int))).heap[g]? = some (.cells (wvs (l.set i x)) t (0, 0)) := by
  rw [block_set h]
  simp [wvs, uv]

/-! ### only one row has turned -/
theorem grown_drewN {a w : World} {row : Option Nat} (h : a.grownBy w row) (n : Nat) : a.grownBy (w.drewN n) row := ⟨h.os, h.tape, h.output, h.size, h.block⟩
theorem grown_set {a w : World} {g : Nat} (h : a.grownBy w (some g)) (i : Nat) (u : Value) : a.grownBy (w.setCell ⟨g, i, none⟩ u) (some g) :=
  ⟨h.os, h.tape, h.output, by simpa [World.setCell] using h.size, fun k hk hne => (Below.heap_setCell w _ u k (fun e => hne (by rw [e]))).trans (h.block k hk hne)⟩
theorem Rd.grown {w w' : World} {A : Option Addr} {l : List UInt8} {row : Option Nat} (h : Rd w A l) (hg : w.grownBy w' row) (hne : ∀ a, A = some a → some a.block ≠ row) : Rd w' A l := by
  intro hn
  obtain ⟨b, o, rfl, hc⟩ := h hn
  refine ⟨b, o, rfl, fun j x hx => ?_⟩
  have h1 := hc j x hx
  exact (World.cell?_of_block (hg.block b (World.block_lt_of_cell? _ _ h1) (hne _ rfl))).trans h1

/-- A new block, then a store into it. -/
theorem below_var {w w' : World} {o : Obj} (h : (w.alloc o).grownBy w' (some w.heap.size)) : Below w.heap.size w w' :=
  (ext_alloc w o).grown h (ext_alloc w o).size fun g e => by
    injection e with e
    subst e
    exact Nat.le_refl _
theorem bvs_all (l : List UInt8) : ((l.map bv).toArray).all (·.oneCell') = true := by
  rw [Array.all_eq_true_iff_forall_mem]
  intro v hv
  exact bvs_one l v (by simpa using hv)

end Go.Proofs.YtpfglincdlmfhaaDoor

/- (B8)
  The program's facts on bytes alone.
-/
namespace Go.Proofs.YtpfglincdlmfhaaDoor
open Go.RowKit
set_option linter.unusedVariables false

theorem infoU8 : (Tryd.prog.info? 5).map (fun i => (i.zero, i.size, i.bytes)) = some (some (.int .u8 0), 1, 1) := by kernel_rfl
theorem underU8 : Tryd.prog.underlying 5 = some (.int .u8) := Tryd.underlying5
end Go.Proofs.YtpfglincdlmfhaaDoor

/- (Dig)
  Digests: an array of 32 bytes.
-/
namespace Go.Proofs.YtpfglincdlmfhaaDoor
open Go.RowKit
set_option linter.unusedVariables false

def z32 : Array Value := ((List.replicate 32 (0 : UInt8)).map bv).toArray
theorem info32 : (Tryd.prog.info? 23).map (fun i => (i.zero, i.size)) = some (some (.agg z32), z32.size) := by kernel_rfl
theorem z32_size : z32.size = 32 := by decide +kernel
theorem size32 : (Tryd.prog.info? 23).map (·.size) = some 32 := by kernel_rfl
end Go.Proofs.YtpfglincdlmfhaaDoor

/- (U8)
  The program's facts on bytes: the type of slices of bytes, zeroed rows, copies.
-/
namespace Go.Proofs.YtpfglincdlmfhaaDoor
open Go.RowKit
set_option linter.unusedVariables false

theorem u8s : U8s Tryd.prog 29 5 := ⟨Tryd.underlying29, infoU8⟩

theorem made_bv (n : Nat) : madeCells (Value.int .u8 0).cells n = ((List.replicate n (0 : UInt8)).map bv).toArray := by
  apply Array.ext
  · simp [size_madeCells]
  · intro i h1 h2
    simp [madeCells, Value.cells, Nat.mod_one, bv]
theorem made_block {w : World} {B g n : Nat} {E : TypeId} (h : w.ownsRow B E 1 (.slice (some ⟨g, 0, none⟩) n n) n (madeCells (Value.int .u8 0).cells (n * 1)).toList) : w.heap[g]? = some (.cells ((List.replicate n (0 : UInt8)).map bv).toArray E (0, 0)) := by
  rcases h.2 with ⟨hv, _⟩ | ⟨g', cap, cur, hv, hb, hg, hnc, hcm, hsz, ht⟩
  · cases hv
  · injection hv with hA _ hc
    injection hA with hA
    injection hA with hA
    subst hA hc
    rw [hg, ← made_bv]
    congr 2
    apply Array.ext'
    rw [List.take_of_length_le (by simp [hsz])] at ht
    simpa using ht

theorem splice_all {α : Type} (L cs : List α) (h : cs.length = L.length) : splice L 0 cs = cs := by
  simp [splice, h]

theorem rd_cell {w : World} {A : Option Addr} {l : List UInt8} (h : Rd w A l) (hn : 0 < l.length) : ∃ b o, A = some ⟨b, o, none⟩ ∧ ∀ j (hj : j < l.length), w.cell? ⟨b, o + j, none⟩ = some (.int .u8 (l[j].toNat : Int)) := by
  obtain ⟨b, o, rfl, hc⟩ := h hn
  exact ⟨b, o, rfl, fun j hj => hc j _ (List.getElem?_eq_getElem hj)⟩

theorem underStr : Tryd.prog.underlying 9 = some .string := Tryd.underlying9

end Go.Proofs.YtpfglincdlmfhaaDoor

/- (EqD)
  Equal digests are equal.
-/
namespace Go.Proofs.YtpfglincdlmfhaaDoor
open Go.RowKit
set_option linter.unusedVariables false

section
variable {P : Program}
theorem run_part_byte (E : TypeId) (he : P.underlying E = some (.int .u8)) (l : List UInt8) (i : Nat) (hi : i < l.length) (w : World) : (part E (l.map bv).toArray i).run P w = .ok (bv l[i]) w := by
  simp [part, isAgg, run_underlying he, hi]
theorem run_eqItems_bytes (d : Nat) (E : TypeId) (he : P.underlying E = some (.int .u8)) (l : List UInt8) (w : World) : ∀ is : List Nat, (∀ i ∈ is, i < l.length) → (Op.eqItems (d + 1) E 1 (l.map bv).toArray (l.map bv).toArray is).run P w = .ok true w := by
  intro is
  induction is with
  | nil => intro _; simp [Op.eqItems]
  | cons i is ih =>
    intro h
    have hi := h i (by simp)
    have h2 := ih fun j hj => h j (by simp [hj])
    have h3 : (Op.equalIn (d + 1) E (bv l[i]) (bv l[i])).run P w = .ok true w := by
      unfold bv
      rw [run_equalIn_int w d E .u8 .u8 _ _ he]
      simp
    simp only [Op.eqItems, Nat.mul_one, Sem.run_bind, run_part_byte E he l i hi w, Result.andThen_ok, h3, Bool.not_true, Bool.false_eq_true, if_false]
    exact h2
end
theorem cellsU8 : Tryd.prog.cellsOf 5 = 1 := by kernel_rfl
theorem eq_dig (l : List UInt8) (hl : l.length = 32) (w : World) : (Op.equalIn 10000 23 (.agg (l.map bv).toArray) (.agg (l.map bv).toArray)).run Tryd.prog w = .ok true w := by
  obtain ⟨i0, hi0, hz0, hz1, hz2⟩ := info_parts infoU8
  have h := run_equalIn_array (P := Tryd.prog) w 9999 (l.map bv).toArray (l.map bv).toArray Tryd.underlying23 hi0
  rw [h, cellsU8]
  exact run_eqItems_bytes 9998 5 underU8 l w _ (by intro i hi; rw [List.mem_range] at hi; omega)
end Go.Proofs.YtpfglincdlmfhaaDoor

/- (EqG)
  Whether two digests are equal, whatever they are.
-/
namespace Go.Proofs.YtpfglincdlmfhaaDoor
open Go.RowKit
set_option linter.unusedVariables false

section
variable {P : Program}
theorem run_eqItems_two (d : Nat) (E : TypeId) (he : P.underlying E = some (.int .u8)) (l m : List UInt8) (w : World) : ∀ is : List Nat, (∀ i ∈ is, i < l.length ∧ i < m.length) →
    (Op.eqItems (d + 1) E 1 (l.map bv).toArray (m.map bv).toArray is).run P w = .ok (is.all fun i => l.getD i 0 == m.getD i 0) w := by
  intro is
  induction is with
  | nil => intro _; simp [Op.eqItems]
  | cons i is ih =>
    intro h
    obtain ⟨hi, hi2⟩ := h i (by simp)
    have h2 := ih fun j hj => h j (by simp [hj])
    have e1 : l.getD i 0 = l[i] := by simp [List.getD, hi]
    have e2 : m.getD i 0 = m[i] := by simp [List.getD, hi2]
    have h3 : (Op.equalIn (d + 1) E (bv l[i]) (bv m[i])).run P w = .ok (l[i] == m[i]) w := by
      unfold bv
      rw [run_equalIn_int w d E .u8 .u8 _ _ he]
      congr 1
      rw [Bool.eq_iff_iff, beq_iff_eq]
      simp [← UInt8.toNat_inj, Int.natCast_inj]
    simp only [Op.eqItems, Nat.mul_one, Sem.run_bind, run_part_byte E he l i hi w, run_part_byte E he m i hi2 w, Result.andThen_ok, h3, List.all_cons, e1, e2]
    cases hb : (l[i] == m[i])
    · simp
    · simp only [Bool.not_true, Bool.false_eq_true, if_false, Bool.true_and]
      exact h2
end
theorem eq_dig2 (l m : List UInt8) (hl : l.length = 32) (hm : m.length = 32) (w : World) : (Op.equalIn 10000 23 (.agg (l.map bv).toArray) (.agg (m.map bv).toArray)).run Tryd.prog w = .ok (decide (l = m)) w := by
  obtain ⟨i0, hi0, hz0, hz1, hz2⟩ := info_parts infoU8
  have h := run_equalIn_array (P := Tryd.prog) w 9999 (l.map bv).toArray (m.map bv).toArray Tryd.underlying23 hi0
  rw [h, cellsU8]
  have h2 := run_eqItems_two 9998 5 underU8 l m w (List.range 32) (by intro i hi; rw [List.mem_range] at hi; omega)
  refine h2.trans ?_
  congr 1
  rw [Bool.eq_iff_iff, List.all_eq_true, decide_eq_true_eq]
  constructor
  · intro h
    apply List.ext_getElem (by omega)
    intro i h1 h2
    have := h i (List.mem_range.2 (by omega))
    simpa [List.getD, h1, h2] using this
  · rintro rfl i _
    simp
end Go.Proofs.YtpfglincdlmfhaaDoor

/- (DigArg)
  A digest among a law's arguments.
-/
namespace Go.Proofs.YtpfglincdlmfhaaDoor
open Go.RowKit Go.ChangeShapes Go.WideShapes
set_option linter.unusedVariables false

theorem okWide_dig {P : Program} {W : World} {r : Reach} {b0 n : Nat} {t e : TypeId} {v : Value} (ht : P.underlying t = some (.array n e)) (h : Value.okWide P W r b0 t v) : ∃ cs, v = .agg cs ∧ cs.size = P.cellsOf t := by
  simp only [Value.okWide, ht] at h
  obtain ⟨cs, h1, h2, _⟩ := h
  exact ⟨cs, h1, h2⟩

def byteOf : Value → UInt8
  | .int _ z => UInt8.ofNat z.toNat
  | _ => 0

theorem open_dig {H : Type} {enc : TypeId × Value → H} {P : Program} {W : World} {base : Nat} {sp : Nat → Bool} {held : Bool} {r : Reach} {b0 n : Nat} {t e : TypeId} {v : Value} {d : DataW H} {ps : List MemPlace}
    (ht : P.underlying t = some (.array n e)) (he : P.underlying e = some (.int .u8)) (hce : P.cellsOf e = 1) (hct : P.cellsOf t = n)
    (hval : Value.okWide P W r b0 t v) (hd : DataW.Trod enc P W base sp held t v d ps) : ∃ l : List UInt8, l.length = n ∧ v = .agg (l.map bv).toArray := by
  obtain ⟨cs, rfl, hs⟩ := okWide_dig ht hval
  obtain ⟨fuel, hf⟩ := hd
  rw [hct] at hs
  have hall : ∀ i, i < n → ∃ z, cs[i]? = some (.int .u8 z) ∧ 0 ≤ z ∧ z < 256 := by
    intro i hi
    cases fuel with
    | zero => simp [DataW.trod] at hf
    | succ fuel =>
      simp only [DataW.trod, ht, hce, hct, Nat.mul_one] at hf
      split at hf
      · obtain ⟨xs, hm, hx⟩ := Option.map_eq_some_iff.1 hf
        obtain ⟨b, hb, hf2⟩ := Lib.mapM_at hm i i (by simp [hi])
        obtain ⟨z, hc, -, hw⟩ := DataW.trod_int he hf2
        refine ⟨z, ?_, ?_⟩
        · have := congrArg (·[0]?) hc
          simpa [Value.cells, List.getElem?_take, List.getElem?_drop] using this
        · simp [Lit.wf, IntKind.min, IntKind.max, IntKind.signed, IntKind.bits] at hw
          omega
      · cases hf
  refine ⟨cs.toList.map byteOf, by simp [hs], ?_⟩
  congr 1
  apply Array.ext
  · simp
  · intro i h1 h2
    obtain ⟨z, hz, hz0, hz1⟩ := hall i (by omega)
    have e1 : cs[i] = .int .u8 z := by
      have := Array.getElem?_eq_getElem h1
      rw [this] at hz
      exact Option.some.inj hz
    simp [e1, byteOf, bv]
    omega
theorem cellsDig : Tryd.prog.cellsOf 23 = 32 := by kernel_rfl
theorem cellsByte : Tryd.prog.cellsOf 5 = 1 := by kernel_rfl
end Go.Proofs.YtpfglincdlmfhaaDoor

/- (PairArg)
  Pairs among a law's arguments.
-/
namespace Go.Proofs.YtpfglincdlmfhaaDoor
open Go.RowKit
set_option linter.unusedVariables false

theorem opensByte : Opens Tryd.prog 5 UInt8 := Opens.u8 Tryd.underlying5 (by kernel_rfl)
theorem opensDg : Opens Tryd.prog 23 Dg := Opens.dg Tryd.underlying23 Tryd.underlying5 (by kernel_rfl) (by kernel_rfl)
theorem opensBytes : Opens Tryd.prog 29 (List UInt8) := Opens.slice Tryd.underlying29 (by kernel_rfl) opensByte
end Go.Proofs.YtpfglincdlmfhaaDoor

/- (DigOne)
  A digest of which the first byte is told, built.
-/
namespace Go.Proofs.YtpfglincdlmfhaaDoor
open Go.RowKit
set_option linter.unusedVariables false

def dfst (c : UInt8) : Dg := ⟨c :: List.replicate 31 0, rfl⟩
theorem built_dg1 (c : UInt8) : Tryd.prog.built 23 [(0, .int .u8 (c.toNat : Int))] = some ((dfst c).1.map bv).toArray := by
  have h1 := info32
  have h2 := infoU8
  have hu := Tryd.underlying23
  unfold Program.built
  cases hi : Tryd.prog.info? 23 with
  | none => rw [hi] at h1; cases h1
  | some it =>
    cases he : Tryd.prog.info? 5 with
    | none => rw [he] at h2; cases h2
    | some ie =>
      rw [hi] at h1
      rw [he] at h2
      simp at h1 h2
      rw [hu]
      simp only
      rw [he, h1.1]
      simp only
      have h3 := fill_cons (place := fun i => some (i * ie.size, ie.size)) (cells := z32) (i := 0) (off := 0) (v := .int .u8 (c.toNat : Int)) (rest := []) (by rw [h2.2.1]; rfl) (show 0 + 1 ≤ z32.size by rw [z32_size]; decide)
      refine h3.trans ?_
      rw [Instr.fill]
      rfl
end Go.Proofs.YtpfglincdlmfhaaDoor

/- (StrB)
  Bytes of a string that is no constant. No program is named here.
-/
namespace Go.Proofs.YtpfglincdlmfhaaDoor
open Go.RowKit
set_option linter.unusedVariables false

theorem bytesWorld_heap (w : World) (e : TypeId) (s : ByteArray) : ∃ fr, (Lib.bytesWorld w e s).heap[w.heap.size]? = some (.cells (Lib.bytesCells w e s) e fr) := by
  unfold Lib.bytesWorld World.freeze
  rw [if_neg (by decide)]
  simp only [Array.getElem?_modify, if_true]
  rw [show (w.drew.alloc (.cells (Lib.bytesCells w e s) e)).heap[w.heap.size]? = some (.cells (Lib.bytesCells w e s) e) from heap_alloc_new w.drew _]
  exact ⟨_, rfl⟩
theorem bytesWorld_bel (w : World) (e : TypeId) (s : ByteArray) : Below w.heap.size w (Lib.bytesWorld w e s) := by
  have h : Below w.heap.size w (w.drew.alloc (.cells (Lib.bytesCells w e s) e)) := (below_drewN (Below.refl _ _) 1).alloc (Nat.le_refl _) _
  unfold Lib.bytesWorld World.freeze
  rw [if_neg (by decide)]
  refine ⟨h.os, h.tape, h.output, by simp, fun b hb => ?_⟩
  rw [← h.block b hb]
  simp only [Array.getElem?_modify]
  rw [if_neg (by show ¬ w.heap.size = b; omega)]
theorem bytesWorld_rd (w : World) (e : TypeId) (l : List UInt8) : Rd (Lib.bytesWorld w e (bstr l)) (some ⟨w.heap.size, 0, none⟩) l := fun hn => by
  obtain ⟨fr, h⟩ := bytesWorld_heap w e (bstr l)
  refine ⟨w.heap.size, 0, rfl, fun j x hx => ?_⟩
  rw [cell_of_row _ w.heap.size (0 + j) _ e fr h, Nat.zero_add]
  have hj := (List.getElem?_eq_some_iff.1 hx).1
  have e1 : ((bstr l).data.map fun b => Value.int .u8 b.toNat) = (l.map bv).toArray := by
    apply Array.ext'
    simp [bstr, bv]
  unfold Lib.bytesCells
  rw [e1, Array.getElem?_append_left (by simp; omega)]
  simp [hx]
theorem bstr_size (l : List UInt8) : (bstr l).size = l.length := by simp [bstr, ByteArray.size]
theorem run_str_bytes {P : Program} {S E : TypeId} (h : U8s P S E) (he : P.underlying E = some (.int .u8)) (T : TypeId) (hT : P.underlying T = some .string) (l : List UInt8) (w : World) :
    (convert T S (.string (bstr l))).run P w = .ok (.slice (some ⟨w.heap.size, 0, none⟩) l.length (grownCap w l.length 0 E)) (Lib.bytesWorld w E (bstr l)) := by
  have := Lib.run_convert_string_bytes (P := P) w T S E (bstr l) hT h.under he
  rw [bstr_size] at this
  exact this
end Go.Proofs.YtpfglincdlmfhaaDoor

/- (Lit)
  Literals of bytes, and of slices of bytes.
-/
namespace Go.Proofs.YtpfglincdlmfhaaDoor
open Go.RowKit
set_option linter.unusedVariables false

/-- A literal of slices of bytes, just laid. -/
theorem Rds.lit (w : World) (t : TypeId) (vs : List (Option Addr × Nat × List UInt8)) (cs : Array Value) (g : Nat) (hg : w.heap.size = g) (hcs : cs = (vs.map fun x => Value.slice x.1 x.2.2.length x.2.1).toArray)
    (h : ∀ x ∈ vs, Rd w x.1 x.2.2 ∧ x.2.2.length ≤ x.2.1 ∧ x.2.1 ≤ maxLen) : Rds (w.alloc (.cells cs t)) (some ⟨g, 0, none⟩) (vs.map (·.2.2)) := by
  subst hg hcs
  intro hn
  refine ⟨w.heap.size, 0, rfl, fun j l hl => ?_⟩
  rw [List.getElem?_map] at hl
  obtain ⟨x, hx, rfl⟩ := Option.map_eq_some_iff.1 hl
  obtain ⟨h1, h2, h3⟩ := h x (List.mem_of_getElem? hx)
  refine ⟨x.1, x.2.1, ?_, h1.alloc _, h2, h3⟩
  rw [cell_of_row _ w.heap.size (0 + j) _ t (0, 0) (heap_alloc_new w _), Nat.zero_add, List.getElem?_toArray, List.getElem?_map, hx]
  rfl
theorem Rds.nil (w : World) : Rds w none [] := fun hn => absurd hn (by simp)

theorem Rd.litf (w : World) (t : TypeId) (l : List UInt8) (cs : Array Value) (g : Nat) (fr : Nat × Nat) (hg : w.heap.size = g) (h : cs = (l.map bv).toArray) : Rd (w.alloc (.cells cs t fr)) (some ⟨g, 0, none⟩) l := by
  subst h hg
  intro hn
  refine ⟨w.heap.size, 0, rfl, fun j x hx => ?_⟩
  rw [cell_of_row _ w.heap.size (0 + j) (l.map bv).toArray t fr (heap_alloc_new w _)]
  simp [hx]
theorem conv_lit (w : World) (C : Array Value) (n c : Nat) : (convert 29 29 (.slice (some ⟨w.heap.size, 0, none⟩) n c)).run Tryd.prog (w.alloc (.cells C 5)) = .ok (.slice (some ⟨w.heap.size, 0, none⟩) n c) (w.alloc (.cells C 5 (C.size, C.size + 1))) :=
  Lib.run_convert_bytes_const w 29 5 C n c Tryd.underlying29 Tryd.underlying5
theorem conv_lit2 (w : World) (o : Obj) (C : Array Value) (n c : Nat) : (convert 29 29 (.slice (some ⟨w.heap.size + 1, 0, none⟩) n c)).run Tryd.prog ((w.alloc o).alloc (.cells C 5)) = .ok (.slice (some ⟨w.heap.size + 1, 0, none⟩) n c) ((w.alloc o).alloc (.cells C 5 (C.size, C.size + 1))) := by
  have h := conv_lit (w.alloc o) C n c
  rw [show (w.alloc o).heap.size = w.heap.size + 1 by simp] at h
  exact h
end Go.Proofs.YtpfglincdlmfhaaDoor

/- (DigCell)
  Cells of digests in blocks of their own; quotients and rests by 8 and by 2.
-/
namespace Go.Proofs.YtpfglincdlmfhaaDoor
open Go.RowKit
set_option linter.unusedVariables false
set_option linter.unusedSimpArgs false

theorem dcell (ds : Array Value) (t : TypeId) (w : World) (m : Nat) : (w.alloc (.cells ds t)).cell? ⟨w.heap.size, m, none⟩ = ds[m]? := cell_of_row _ _ _ _ _ (0, 0) (heap_alloc_new w _)
theorem dget (l : List UInt8) (m : Nat) (hm : m < l.length) : (l.map bv).toArray[m]? = some (.int .u8 ((l.getD m 0).toNat : Int)) := by
  simp [bv, List.getD, hm]

theorem tdiv8 (i : Nat) : (i : Int).tdiv 8 = ((i / 8 : Nat) : Int) := by rw [Int.tdiv_eq_ediv_of_nonneg (by omega)]; omega
theorem tmod8 (i : Nat) : (i : Int).tmod 8 = ((i % 8 : Nat) : Int) := by rw [Int.tmod_eq_emod_of_nonneg (by omega)]; omega
theorem tdiv2 (i : Nat) : (i : Int).tdiv 2 = ((i / 2 : Nat) : Int) := by rw [Int.tdiv_eq_ediv_of_nonneg (by omega)]; omega
theorem tmod2 (i : Nat) : (i : Int).tmod 2 = ((i % 2 : Nat) : Int) := by rw [Int.tmod_eq_emod_of_nonneg (by omega)]; omega

theorem res_dig {fn : Func} {p u : Tmp} (h : fn.results = #[.cell p 23, .tmp u]) (tmps : Array Value) (w : World) (g : Nat) (cs : Array Value) (e1 : tmps.getD p undef = .pointer (some ⟨g, 0, none⟩))
    (hg : w.heap[g]? = some (.cells cs 23 (0, 0))) (hs : cs.size = 32) : (results fn tmps).run Tryd.prog w = .ok (.tuple #[.agg cs, tmps.getD u undef]) w := by
  have h2 := run_loadVar_mid (P := Tryd.prog) w g 0 23 cs.toList _ (rangeOf hg) Tryd.underlying23 rfl (by rw [Array.length_toList, hs]; exact size32)
  rw [results_cell_tmp h, e1]
  simp only [asAddr, Sem.run_pure, Result.andThen_ok, h2]
end Go.Proofs.YtpfglincdlmfhaaDoor

/- (DgOps)
  Keys compared, boxed, counted.
-/
namespace Go.Proofs.YtpfglincdlmfhaaDoor
open Go.RowKit
set_option linter.unusedVariables false
set_option linter.unusedSimpArgs false

theorem eqd_is (a b : Dg) (eb : Bool) (h : decide (a = b) = eb) (w : World) : (Op.equalIn 10000 23 (.agg (a.1.map bv).toArray) (.agg (b.1.map bv).toArray)).run Tryd.prog w = .ok eb w := by
  rw [eq_dig2 a.1 b.1 a.2 b.2 w]
  congr 1
  rw [← h]
  exact decide_eq_decide.2 ⟨fun e => Subtype.ext e, fun e => by rw [e]⟩

theorem boxed_range (w : World) (k : Dg) (t : TypeId) : (w.alloc (.cells (k.1.map bv).toArray t)).rangeAt w.heap.size 0 (k.1.map bv) := rangeOf (heap_alloc_new w _)

theorem sizeDg (k : Dg) : (Tryd.prog.info? 23).map (·.size) = some (k.1.map bv).length := by rw [List.length_map, k.2]; exact size32
theorem may_srt {ps : List Pr} (h : mayP ps = true) : Srt ps := (chain_srt ps (by unfold mayP at h; simp at h; exact h.2)).1
end Go.Proofs.YtpfglincdlmfhaaDoor

/- (PairB)
  The program's facts on pairs: their type, a pair built.
-/
namespace Go.Proofs.YtpfglincdlmfhaaDoor
open Go.RowKit
set_option linter.unusedVariables false

def zPrC : Array Value := (((List.replicate 32 (0 : UInt8)).map bv) ++ [Value.slice none 0 0]).toArray
def zPr : Value := .agg zPrC
end Go.Proofs.YtpfglincdlmfhaaDoor

/- (Txt)
  Texts of digests: digits, what is told and what is read. No program is named here.
-/
namespace Go.Proofs.YtpfglincdlmfhaaDoor
open Go.RowKit
set_option linter.unusedVariables false

def hexd : List UInt8 := [48, 49, 50, 51, 52, 53, 54, 55, 56, 57, 97, 98, 99, 100, 101, 102]
def digitI (c : UInt8) : Int := match hexd.idxOf? c with | some i => (i : Int) | none => -1

theorem hexd_at (i : Nat) (h : i < hexd.length) (p : i < (ByteArray.mk hexd.toArray).size) : (ByteArray.mk hexd.toArray)[i] = hexd.getD i 0 := by
  rw [List.getD_eq_getElem?_getD, List.getElem?_eq_getElem h]
  rfl
theorem digit_hit (c : UInt8) (i : Nat) (h : i < 16) (p : i < (ByteArray.mk hexd.toArray).size) (e : ((((ByteArray.mk hexd.toArray)[i]).toNat : Int) == (c.toNat : Int)) = true) : hexd.getD i 0 = c := by
  rw [hexd_at i h] at e
  apply UInt8.toNat_inj.1
  have := beq_iff_eq.1 e
  omega
theorem digit_miss (c : UInt8) (i : Nat) (h : i < 16) (p : i < (ByteArray.mk hexd.toArray).size) (e : ((((ByteArray.mk hexd.toArray)[i]).toNat : Int) == (c.toNat : Int)) = false) : hexd.getD i 0 ≠ c := by
  rw [hexd_at i h] at e
  intro h2
  rw [h2] at e
  simp at e
theorem digitI_hit (c : UInt8) (i : Nat) (h : i < 16) (e : hexd.getD i 0 = c) : digitI c = i := by
  subst e
  have hall : ∀ j : Fin 16, digitI (hexd.getD j.1 0) = (j.1 : Int) := by decide
  exact hall ⟨i, h⟩
theorem digitI_miss (c : UInt8) (h : ∀ k, k < 16 → hexd.getD k 0 ≠ c) : digitI c = -1 := by
  have h2 : hexd.idxOf? c = none := by
    rw [List.idxOf?_eq_none_iff]
    intro hm
    obtain ⟨k, hk, he⟩ := List.mem_iff_getElem.1 hm
    refine h k hk ?_
    rw [List.getD_eq_getElem?_getD, List.getElem?_eq_getElem hk]
    exact he
  simp [digitI, h2]

def hexOf (b : UInt8) : List UInt8 := [hexd.getD (b.toNat / 16) 0, hexd.getD (b.toNat % 16) 0]
def hexL (d : List UInt8) : List UInt8 := (d.map hexOf).flatten
theorem hexL_take_succ (d : List UInt8) (i : Nat) (h : i < d.length) : hexL (d.take (i + 1)) = hexL (d.take i) ++ hexOf d[i] := by
  unfold hexL
  rw [List.take_succ_eq_append_getElem h, List.map_append, List.flatten_append, List.map_cons, List.map_nil, List.flatten_cons, List.flatten_nil, List.append_nil]
theorem hexL_len (d : List UInt8) : (hexL d).length = 2 * d.length := by
  unfold hexL
  induction d with
  | nil => rfl
  | cons b d ih => simp [hexOf, ih]; omega


/-! ### what is read -/
def cAt (s : ByteArray) (k : Nat) : UInt8 := s.data.toList.getD k 0
def okAt (s : ByteArray) (i : Nat) : Bool := decide (0 ≤ digitI (cAt s (2 * i))) && decide (0 ≤ digitI (cAt s (2 * i + 1)))
def byteAt (s : ByteArray) (i : Nat) : UInt8 := UInt8.ofNat (16 * digitI (cAt s (2 * i)) + digitI (cAt s (2 * i + 1))).toNat
def readB (s : ByteArray) : List UInt8 := (List.range 32).map (byteAt s)
def readOk (s : ByteArray) : Bool := decide (s.size = 64) && (List.range 32).all (okAt s)
theorem readB_len (s : ByteArray) : (readB s).length = 32 := by simp [readB]
theorem readB_get (s : ByteArray) (i : Nat) (h : i < 32) : (readB s)[i]? = some (byteAt s i) := by
  simp [readB, h]
def digitV (c : UInt8) : UInt8 := if 0 ≤ digitI c then UInt8.ofNat (digitI c).toNat else 0
theorem all256 {p : UInt8 → Prop} (h : ∀ i : Fin 256, p (UInt8.ofNat i.1)) (c : UInt8) : p c := by
  have h1 := h ⟨c.toNat, c.toNat_lt⟩
  simpa using h1
theorem digit_dec (c : UInt8) (h1 : 48 ≤ c.toNat) (h2 : c.toNat ≤ 57) : digitI c = (c.toNat : Int) - 48 := by
  have h := all256 (p := fun c => 48 ≤ c.toNat → c.toNat ≤ 57 → digitI c = (c.toNat : Int) - 48) (by decide +kernel) c
  exact h h1 h2
theorem digit_hex (c : UInt8) (h1 : 97 ≤ c.toNat) (h2 : c.toNat ≤ 102) : digitI c = (c.toNat : Int) - 87 := by
  have h := all256 (p := fun c => 97 ≤ c.toNat → c.toNat ≤ 102 → digitI c = (c.toNat : Int) - 87) (by decide +kernel) c
  exact h h1 h2
theorem digit_not (c : UInt8) (h1 : c.toNat < 48 ∨ 57 < c.toNat) (h2 : c.toNat < 97 ∨ 102 < c.toNat) : digitI c = -1 := by
  have h := all256 (p := fun c => (c.toNat < 48 ∨ 57 < c.toNat) → (c.toNat < 97 ∨ 102 < c.toNat) → digitI c = -1) (by decide +kernel) c
  exact h h1 h2
theorem digitI_lt (c : UInt8) : digitI c < 16 := by
  exact all256 (p := fun c => digitI c < 16) (by decide +kernel) c
theorem digitI_ge (c : UInt8) : -1 ≤ digitI c := by
  exact all256 (p := fun c => -1 ≤ digitI c) (by decide +kernel) c

theorem run_index_arr {P : Program} (T E : TypeId) (n k : Nat) (kd : IntKind) (cs : Array Value) (v : Value) (w : World) (hu : P.underlying T = some (.array n E)) (he : P.underlying E = some (.int kd)) (hs : (P.info? E).map (·.size) = some 1)
    (hk : k < n) (hv : cs[k]? = some v) : (Instr.index T (.agg cs) (.int .i64 (k : Int))).run P w = .ok v w := by
  cases hq : P.info? E with
  | none => simp [hq] at hs
  | some i =>
    have h1 : i.size = 1 := by simpa [hq] using hs
    simp [Instr.index, asIntOf, run_underlying hu, sizeOf, typeInfo, hq, h1, part, isAgg, run_underlying he, hv]
    intro h
    omega

theorem run_index_str {P : Program} (T : TypeId) (k : Nat) (s : ByteArray) (w : World) (hu : P.underlying T = some .string) (hk : k < s.size) :
    (Instr.index T (.string s) (.int .i64 (k : Int))).run P w = .ok (.int .u8 ((cAt s k).toNat : Int)) w := by
  have h1 : s[k]? = some (cAt s k) := by
    rw [getElem?_pos s k hk]
    congr 1
    unfold cAt
    rw [List.getD_eq_getElem?_getD, List.getElem?_eq_getElem (by simpa using hk)]
    rfl
  simp [Instr.index, asIntOf, run_underlying hu, h1]
end Go.Proofs.YtpfglincdlmfhaaDoor

/- (Same)
  Contract of the document's 'Same': are two texts of bytes the same?
-/
namespace Go.Proofs.YtpfglincdlmfhaaDoor
open Go.RowKit
set_option linter.unusedVariables false

theorem Same_yes (A1 A2 : Option Addr) (n1 n2 c1 c2 : Nat) (l1 l2 : List UInt8) (w : World) (h1 : Rd w A1 l1) (h2 : Rd w A2 l2) (hn1 : n1 = l1.length) (hn2 : n2 = l2.length) (he : l1 = l2) :
    Calls Tryd.prog 15 #[.slice A1 n1 c1, .slice A2 n2 c2] w fun e w' => e = .returned (.bool true) ∧ w = w' := by
  have k1 := run_conv_str u8s underU8 9 underStr h1 n1 c1 hn1
  have k2 := run_conv_str u8s underU8 9 underStr h2 n2 c2 hn2
  have ht := bstr_eql l1 l2 he
  clear hn1 hn2 he h1 h2
  go_enter Tryd.func15, Tryd.ntmps15
  go_wp2
  go_ret
  exact ⟨rfl, rfl⟩
theorem Same_no (A1 A2 : Option Addr) (n1 n2 c1 c2 : Nat) (l1 l2 : List UInt8) (w : World) (h1 : Rd w A1 l1) (h2 : Rd w A2 l2) (hn1 : n1 = l1.length) (hn2 : n2 = l2.length) (he : ¬ l1 = l2) :
    Calls Tryd.prog 15 #[.slice A1 n1 c1, .slice A2 n2 c2] w fun e w' => e = .returned (.bool false) ∧ w = w' := by
  have k1 := run_conv_str u8s underU8 9 underStr h1 n1 c1 hn1
  have k2 := run_conv_str u8s underU8 9 underStr h2 n2 c2 hn2
  have ht := bstr_neql l1 l2 he
  clear hn1 hn2 he h1 h2
  go_enter Tryd.func15, Tryd.ntmps15
  go_wp2
  go_ret
  exact ⟨rfl, rfl⟩

end Go.Proofs.YtpfglincdlmfhaaDoor
