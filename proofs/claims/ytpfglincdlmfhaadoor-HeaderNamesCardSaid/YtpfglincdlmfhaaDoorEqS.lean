/-
  Whether two structs are equal: by the literals in their cells (the kit's law on keys of maps, at any type that may be a key).
-/
import Derived.Test.YtpfglincdlmfhaaDoorBits
import Derived.DeepKeys
namespace Go.Proofs.YtpfglincdlmfhaaDoor
open Go.RowKit
set_option linter.unusedVariables false

/-- Things at a type whose cells are literals: equal just if the literals are. -/
theorem eq_lits {P : Program} {t : TypeId} (m : Nat) (hk : P.keyTypeAt m t = true) (hm : m ≤ 10000) {D D' : Nat} {cs ds : List Value} {la lb : List Lit} (fa : (Value.agg cs.toArray).formed P t = true) (fb : (Value.agg ds.toArray).formed P t = true)
    (ha : P.keyLits D t cs = some la) (hb : P.keyLits D' t ds = some lb) (b : Bool) (h : b = true ↔ la = lb) (w : World) : (Op.equalIn 10000 t (.agg cs.toArray) (.agg ds.toArray)).run P w = .ok b w := by
  have hE := run_equalIn_deep (P := P) (10000 - m) m t hk
  rw [show 10000 - m + m = 10000 by omega] at hE
  obtain ⟨r, hr, hiff⟩ := hE w D D' (.agg cs.toArray) (.agg ds.toArray) la lb fa fb ha hb
  rw [hr]
  congr 1
  rw [Bool.eq_iff_iff, hiff, h]
def litU (n : Nat) : Lit := .int .u64 (n : Int)
def litI (n : Int) : Lit := .int .i64 n
def lit8 (b : UInt8) : Lit := .int .u8 (b.toNat : Int)
theorem lit8_inj {a b : UInt8} (h : lit8 a = lit8 b) : a = b := by
  unfold lit8 at h
  injection h with _ h
  exact UInt8.toNat_inj.1 (by omega)
theorem lits8_inj {l m : List UInt8} (h : l.map lit8 = m.map lit8) : l = m := List.map_inj_right (fun a b => lit8_inj) |>.1 h
theorem keyLits_u64 {P : Program} {t : TypeId} (ht : P.underlying t = some (.int .u64)) (d n : Nat) (hn : n < 18446744073709551616) : P.keyLits (d + 1) t [.int .u64 (n : Int)] = some [litU n] := by
  have hw : (Lit.int .u64 (n : Int)).wf = true := by
    simp [Lit.wf, IntKind.min, IntKind.max, IntKind.signed, IntKind.bits]
    omega
  simp only [Program.keyLits, ht, hw, true_and, if_true]
  rfl
theorem keyLits_i64 {P : Program} {t : TypeId} (ht : P.underlying t = some (.int .i64)) (d : Nat) (n : Int) (h1 : -9223372036854775808 ≤ n) (h2 : n ≤ 9223372036854775807) : P.keyLits (d + 1) t [.int .i64 n] = some [litI n] := by
  have hw : (Lit.int .i64 n).wf = true := by
    simp [Lit.wf, IntKind.min, IntKind.max, IntKind.signed, IntKind.bits]
    omega
  simp only [Program.keyLits, ht, hw, true_and, if_true]
  rfl
theorem keyLits_u8 {P : Program} {t : TypeId} (ht : P.underlying t = some (.int .u8)) (d : Nat) (b : UInt8) : P.keyLits (d + 1) t [bv b] = some [lit8 b] := by
  have hb := b.toNat_lt
  have hw : (Lit.int .u8 (b.toNat : Int)).wf = true := by
    simp [Lit.wf, IntKind.min, IntKind.max, IntKind.signed, IntKind.bits]
    omega
  unfold bv
  simp only [Program.keyLits, ht, hw, true_and, if_true]
  rfl
theorem keyLits_struct {P : Program} {t : TypeId} {fs : Array Field} (ht : P.underlying t = some (.struct fs)) (d : Nat) (cs : List Value) (hl : cs.length = P.cellsOf t) (hn : fs.all (·.name != "_") = true) :
    P.keyLits (d + 1) t cs = (fs.toList.mapM fun f => P.keyLits d f.type ((cs.drop f.offset).take (P.cellsOf f.type))).map List.flatten := by
  simp only [Program.keyLits, ht, hl, hn, and_self, if_true]
theorem mapM_some {α β : Type} (f : α → Option β) (g : α → β) : ∀ l : List α, (∀ x ∈ l, f x = some (g x)) → l.mapM f = some (l.map g)
  | [], _ => rfl
  | x :: l, h => by
    rw [List.mapM_cons, h x (List.mem_cons_self ..), mapM_some f g l fun y hy => h y (List.mem_cons_of_mem _ hy)]
    rfl
theorem flat_ones {α β : Type} (f : α → β) : ∀ xs : List α, (xs.map fun i => [f i]).flatten = xs.map f
  | [] => rfl
  | x :: xs => by rw [List.map_cons, List.flatten_cons, flat_ones f xs]; rfl
theorem flat_bytes (l : List UInt8) (n : Nat) (h : l.length = n) : ((List.range n).map fun i => [lit8 (l.getD i 0)]).flatten = l.map lit8 := by
  rw [flat_ones]
  apply List.ext_getElem
  · simp [h]
  · intro i h1 h2
    have h3 : i < l.length := by simpa using h2
    simp [List.getD, h3]
set_option maxRecDepth 100000 in
theorem keyLits_dg (d : Nat) (k : Dg) : Tryd.prog.keyLits (d + 2) 23 (k.1.map bv) = some (k.1.map lit8) := by
  have hl : (k.1.map bv).length = Tryd.prog.cellsOf 23 := by rw [List.length_map, k.2]; kernel_rfl
  have h8 : Tryd.prog.cellsOf 5 = 1 := by kernel_rfl
  simp only [Program.keyLits, Tryd.underlying23, hl, if_true, h8, Nat.mul_one]
  rw [mapM_some _ (fun i => [lit8 (k.1.getD i 0)])]
  · simp only [Option.map_some]
    congr 1
    exact flat_bytes k.1 32 k.2
  · intro i hi
    rw [List.mem_range] at hi
    have hi2 : i < k.1.length := by rw [k.2]; exact hi
    have e : ((k.1.map bv).drop i).take 1 = [bv (k.1.getD i 0)] := by
      rw [List.drop_eq_getElem_cons (by rw [List.length_map]; exact hi2)]
      simp [hi2]
    rw [e]
    exact keyLits_u8 Tryd.underlying5 d _
theorem formed_dg (k : Dg) : (Value.agg (k.1.map bv).toArray).formed Tryd.prog 23 = true := by
  have hl : Tryd.prog.cellsOf 23 = 32 := by kernel_rfl
  simp [Value.formed, Tryd.underlying23, hl, k.2]
end Go.Proofs.YtpfglincdlmfhaaDoor
