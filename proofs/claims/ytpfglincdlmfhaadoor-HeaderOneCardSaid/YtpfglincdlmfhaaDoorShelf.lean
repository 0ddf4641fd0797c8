/-
  The library's bytes.Join and bytes.Clone at this program: the kit's contracts over its closures, said in the words of XBy.
-/
import Derived.Shelf.Bytes.SlJoin
import Derived.Test.YtpfglincdlmfhaaDoorBits
import Derived.Shelf.Bytes.SlClone
namespace Go.Proofs.YtpfglincdlmfhaaDoor
open Go.RowKit Go.Shelf
set_option linter.unusedVariables false

def ren : Ren where
  f := fun x => match x with
    | 14 => 30
    | 15 => 42
    | y => y
  t := fun x => match x with
    | 0 => 0
    | 3 => 3
    | 4 => 4
    | 5 => 5
    | 9 => 9
    | 20 => 20
    | 22 => 29
    | 26 => 55
    | y => y
  g := fun x => x

theorem laysJ : SlLaysJ.n14 Tryd.prog ren where
  mixed := by kernel_rfl
  f14 := (by kernel_rfl : Tryd.prog.funcs[30]? = some (SlBodyJ.n14 ren))
  f15 := (by kernel_rfl : Tryd.prog.funcs[42]? = some (SlBodyJ.n15 ren))
  t0 := Tryd.underlying0
  a0 := Tryd.isAgg0
  z0 := Tryd.sizeOf0
  v0 := Tryd.zeroValue0
  t3 := Tryd.underlying3
  a3 := Tryd.isAgg3
  z3 := Tryd.sizeOf3
  v3 := Tryd.zeroValue3
  t4 := Tryd.underlying4
  a4 := Tryd.isAgg4
  z4 := Tryd.sizeOf4
  v4 := Tryd.zeroValue4
  t9 := Tryd.underlying9
  a9 := Tryd.isAgg9
  z9 := Tryd.sizeOf9
  v9 := Tryd.zeroValue9
  t20 := Tryd.underlying20
  a20 := Tryd.isAgg20
  z20 := Tryd.sizeOf20
  v20 := Tryd.zeroValue20
  t22 := Tryd.underlying29
  a22 := Tryd.isAgg29
  z22 := Tryd.sizeOf29
  v22 := Tryd.zeroValue29
  t26 := Tryd.underlying55
  a26 := Tryd.isAgg55
  z26 := Tryd.sizeOf55
  v26 := Tryd.zeroValue55
  t5 := Tryd.underlying5
  z5 := Tryd.sizeOf5
  i5 := by kernel_rfl

/-! ### bytes.Join -/
/-- Bytes of the call's own, in a block from B on, the capacity cut: 'Own' without the block's length. -/
def Frs (w : World) (B : Nat) (A : Option Addr) (c : Nat) (l : List UInt8) : Prop := Lib.FreshBytes B w (.slice A l.length c) l
theorem bytesOf_get (l : List UInt8) (zs : List Int) (n : Nat) (h : Lib.bytesOf (zs.take n) = l) (hr : ∀ x ∈ zs, 0 ≤ x ∧ x < 256) (j : Nat) (x : UInt8) (hx : l[j]? = some x) : zs.getD j 0 = (x.toNat : Int) := by
  subst h
  unfold Lib.bytesOf at hx
  rw [List.getElem?_map, Option.map_eq_some_iff] at hx
  obtain ⟨y, hy, rfl⟩ := hx
  rw [List.getElem?_take] at hy
  split at hy
  · have hm := hr y (List.mem_of_getElem? hy)
    rw [List.getD_eq_getElem?_getD, hy]
    simp
    omega
  · cases hy
theorem Frs.rd {w : World} {B : Nat} {A : Option Addr} {c : Nat} {l : List UInt8} (h : Frs w B A c l) : Rd w A l := by
  obtain ⟨g, cap, zs, hv, hB, hlc, hcm, hz, hr, hb, hc, _⟩ := h
  injection hv with hA _ _
  subst hA
  intro hn
  refine ⟨g, 0, rfl, fun j x hx => ?_⟩
  have hj := (List.getElem?_eq_some_iff.1 hx).1
  rw [Nat.zero_add, hc j (by omega), bytesOf_get l zs _ hb hr j x hx]
  rfl
theorem Frs.cap {w : World} {B : Nat} {A : Option Addr} {c : Nat} {l : List UInt8} (h : Frs w B A c l) : l.length ≤ c ∧ c ≤ maxLen := by
  obtain ⟨g, cap, zs, hv, hB, hlc, hcm, _⟩ := h
  injection hv with _ _ hc
  subst hc
  exact ⟨hlc, hcm⟩
theorem Frs.of {w : World} {B : Nat} {v : Value} {l : List UInt8} (h : Lib.FreshBytes B w v l) : ∃ A c, v = .slice A l.length c ∧ Frs w B A c l := by
  obtain ⟨g, cap, zs, rfl, r⟩ := h
  exact ⟨_, _, rfl, g, cap, zs, rfl, r⟩

theorem join_many (b o n c : Nat) (vs : List Value) (ls : List (List UInt8)) (sv : Value) (sep : List UInt8) (w : World) (hn : ls.length = n) (h2 : 2 ≤ n) (hP : Lib.PartsAt w ⟨b, o, none⟩ vs ls) (hcap : n ≤ c) (hS : Lib.HoldsBytes w sv sep)
    (hn47 : n ≤ 140737488355328) (hlen : Lib.lens ls + sep.length * (n - 1) ≤ 140737488355328) :
    Calls Tryd.prog 30 #[.slice (some ⟨b, o, none⟩) n c, sv] w fun e w' => ∃ v', e = .returned v' ∧ Lib.FreshBytes w.heap.size w' v' (Lib.join ls sep) ∧ Below w.heap.size w w' :=
  Any.bytes_Join_many laysJ b o n c vs ls sv sep w hn h2 hP hcap hS hn47 hlen
theorem join_one (b o c : Nat) (ad0 : Addr) (c0 : Nat) (l0 : List UInt8) (sv : Value) (w : World) (hcell : w.cell? ⟨b, o, none⟩ = some (.slice (some ad0) l0.length c0))
    (hc : ∀ (i : Nat) x, l0[i]? = some x → w.cell? (ad0.add i) = some (.int .u8 (x.toNat : Int))) (h0 : 0 < l0.length) (hs : l0.length ≤ 140737488355328) :
    Calls Tryd.prog 30 #[.slice (some ⟨b, o, none⟩) 1 c, sv] w fun e w' => ∃ v', e = .returned v' ∧ Lib.FreshBytes w.heap.size w' v' l0 ∧ Below w.heap.size w w' :=
  Any.bytes_Join_one laysJ b o c ad0 c0 l0 sv w hcell hc h0 hs

theorem holds_of {w : World} {A : Option Addr} {l : List UInt8} (h : Rd w A l) (c : Nat) : Lib.HoldsBytes w (.slice A l.length c) l := by
  refine ⟨A, c, rfl, fun h0 => ?_, fun a ha i x hx => ?_⟩
  · rcases Nat.eq_zero_or_pos l.length with h1 | h1
    · exact List.eq_nil_of_length_eq_zero h1
    · obtain ⟨b, o, hA, _⟩ := h h1
      rw [h0] at hA; cases hA
  · subst ha
    obtain ⟨b, o, hA, hc⟩ := h (by have := (List.getElem?_eq_some_iff.1 hx).1; omega)
    injection hA with hA
    subst hA
    rw [Addr.add_lit, hc i x hx]
    rfl
theorem parts_of {w : World} {b o : Nat} {ls : List (List UInt8)} (h : Rds w (some ⟨b, o, none⟩) ls) (h0 : 0 < ls.length) : ∃ vs, Lib.PartsAt w ⟨b, o, none⟩ vs ls := by
  obtain ⟨b', o', hA, hc⟩ := h h0
  injection hA with hA
  injection hA with h1 h2 _
  subst h1 h2
  refine ⟨(List.range ls.length).map fun j => (w.cell? ⟨b, o + j, none⟩).getD (.bool false), by simp, ?_, ?_⟩
  · intro i v hv
    rw [List.getElem?_map, Option.map_eq_some_iff] at hv
    obtain ⟨j, hj, rfl⟩ := hv
    obtain ⟨hj1, rfl⟩ := List.getElem?_eq_some_iff.1 hj
    simp only [List.length_range] at hj1
    rw [List.getElem_range, Addr.add_lit]
    obtain ⟨A', c', h3, _⟩ := hc i _ (List.getElem?_eq_getElem hj1)
    rw [h3]; rfl
  · intro i v l hv hl
    rw [List.getElem?_map, Option.map_eq_some_iff] at hv
    obtain ⟨j, hj, rfl⟩ := hv
    obtain ⟨hj1, rfl⟩ := List.getElem?_eq_some_iff.1 hj
    rw [List.getElem_range]
    obtain ⟨A', c', h3, h4, _⟩ := hc i l hl
    rw [h3]
    exact holds_of h4 c'
theorem lens_flatten (ls : List (List UInt8)) : Lib.lens ls = ls.flatten.length := by
  induction ls with
  | nil => rfl
  | cons l ls ih => rw [Lib.lens_cons, ih, List.flatten_cons, List.length_append]
theorem join_flatten (ls : List (List UInt8)) : Lib.join ls [] = ls.flatten := by
  cases ls with
  | nil => rfl
  | cons x r => rw [Lib.join_cons]; simp [Lib.joinTail]
theorem Join_any (A : Option Addr) (n c : Nat) (ls : List (List UInt8)) (w : World) (hr : Rds w A ls) (hn : n = ls.length) (h0 : 0 < ls.length) (h1 : ls.length = 1 → ls.flatten ≠ []) (hcap : ls.length ≤ c) (hl1 : ls.length ≤ 3000000) (hl : ls.flatten.length ≤ 3000000) :
    Calls Tryd.prog 30 #[.slice A n c, .slice none 0 0] w fun e w' => ∃ A' c', e = .returned (.slice A' ls.flatten.length c') ∧ Frs w' w.heap.size A' c' ls.flatten ∧ Below w.heap.size w w' := by
  subst hn
  obtain ⟨b, o, rfl, hc⟩ := hr h0
  by_cases h2 : 2 ≤ ls.length
  · obtain ⟨vs, hP⟩ := parts_of hr h0
    refine (join_many b o ls.length c vs ls (.slice none 0 0) [] w rfl h2 hP hcap (holds_of (Rd.nil w none) 0) (by omega) (by rw [lens_flatten, List.length_nil, Nat.zero_mul]; omega)).mono ?_
    rintro e w' ⟨v', rfl, hf, hb⟩
    rw [join_flatten] at hf
    obtain ⟨A', c', rfl, hf⟩ := Frs.of hf
    exact ⟨A', c', rfl, hf, hb⟩
  · obtain ⟨l0, rfl⟩ : ∃ l0, ls = [l0] := List.length_eq_one_iff.1 (by omega)
    have hne : 0 < l0.length := List.length_pos_iff.2 (by simpa using h1 rfl)
    obtain ⟨A', c', h3, h4, _⟩ := hc 0 l0 rfl
    obtain ⟨b', o', rfl, hcc⟩ := h4 hne
    have hfl : [l0].flatten = l0 := by simp
    rw [hfl] at hl ⊢
    refine (join_one b o c ⟨b', o', none⟩ c' l0 _ w h3 (fun i x hx => by rw [Addr.add_lit]; exact hcc i x hx) hne (by omega)).mono ?_
    rintro e w' ⟨v', rfl, hf, hb⟩
    obtain ⟨A', c', rfl, hf⟩ := Frs.of hf
    exact ⟨A', c', rfl, hf, hb⟩
end Go.Proofs.YtpfglincdlmfhaaDoor
