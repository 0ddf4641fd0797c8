/-
  Contracts of the landed package tree: Put.
-/
import Derived.Test.YtfjkcdccnbggnaaDoorTreeLm
import Derived.Test.YtfjkcdccnbggnaaDoorTreeLo
import Derived.Test.YtfjkcdccnbggnaaDoorTreeLz
import Derived.Test.YtfjkcdccnbggnaaDoorBuilt
namespace Go.Proofs.YtfjkcdccnbggnaaDoor
open Go.RowKit
set_option linter.unusedVariables false
set_option linter.unusedSimpArgs false
set_option maxRecDepth 100000

theorem placesNd : Places Tryd.prog 50 zNd [(0, 1), (1, 32), (33, 1), (34, 1), (35, 1)] := by unfold Places; kernel_rfl
theorem zNd_list : zNd.cells.toList = [] ++ ([Value.bool false] ++ (z0.1.map bv ++ [Value.slice none 0 0, .int .i64 0, .int .i64 0])) := by rfl
theorem built_leaf (k : Dg) (v : List UInt8) (A : Option Addr) (c : Nat) : Tryd.prog.built 50 [(0, .bool true), (1, .agg (k.1.map bv).toArray), (2, .slice A v.length c)] = some (ndC (leafN k v) A c).toArray := by
  have hk : (k.1.map bv).length = 32 := by rw [List.length_map]; exact k.2
  have hz : (z0.1.map bv).length = 32 := by rw [List.length_map]; exact z0.2
  have c0 : (Value.bool true).cells = #[Value.bool true] := rfl
  have c1 : (Value.agg (k.1.map bv).toArray).cells = (k.1.map bv).toArray := rfl
  have c2 : (Value.slice A v.length c).cells = #[Value.slice A v.length c] := rfl
  rw [built_places placesNd, fill_cons (off := 0) (by rw [c0]; rfl) (by rw [c0]; decide +kernel)]
  have e0 : lay zNd.cells.toList 0 (Value.bool true).cells.toList = [Value.bool true] ++ (z0.1.map bv ++ [Value.slice none 0 0, .int .i64 0, .int .i64 0]) := by
    rw [zNd_list, c0]
    exact lay_mid [] [Value.bool false] _ [Value.bool true] rfl
  rw [e0, fill_cons (off := 1) (by rw [c1, List.size_toArray, hk]; rfl) (by rw [c1, List.size_toArray, hk]; simp [hz])]
  have e1 : lay ([Value.bool true] ++ (z0.1.map bv ++ [Value.slice none 0 0, .int .i64 0, .int .i64 0])) 1 (Value.agg (k.1.map bv).toArray).cells.toList = ([Value.bool true] ++ k.1.map bv) ++ ([Value.slice none 0 0] ++ [.int .i64 0, .int .i64 0]) := by
    rw [c1]
    have := lay_mid [Value.bool true] (z0.1.map bv) [Value.slice none 0 0, .int .i64 0, .int .i64 0] (k.1.map bv) (by rw [hk, hz])
    simpa using this
  simp only [List.toList_toArray]
  rw [e1, fill_cons (off := 33) (by rw [c2]; rfl) (by rw [c2]; simp [hk])]
  have e2 : lay (([Value.bool true] ++ k.1.map bv) ++ ([Value.slice none 0 0] ++ [.int .i64 0, .int .i64 0])) 33 (Value.slice A v.length c).cells.toList = ndC (leafN k v) A c := by
    rw [c2]
    have := lay_mid ([Value.bool true] ++ k.1.map bv) [Value.slice none 0 0] [.int .i64 0, .int .i64 0] [Value.slice A v.length c] rfl
    rw [show ([Value.bool true] ++ k.1.map bv).length = 33 by rw [List.length_append, hk]; rfl] at this
    rw [this]
    simp [ndC, leafN]
  simp only [List.toList_toArray]
  rw [e2, Instr.fill]
def tputE (t : Tr) (v : List UInt8) : Int := if mayT t = true then (if valB v = true then (if 261844 < t.ns.length then 9 else 0) else 8) else 8
def tputT (t : Tr) (k : Dg) (v : List UInt8) : Tr := if tputE t v = 0 then ⟨(putN t.ns k v 256 t.root).1, (putN t.ns k v 256 t.root).2⟩ else ⟨[], 0⟩
/-- What is put stands for the pairs with it. -/
theorem tputT_spec {t : Tr} {k : Dg} {v : List UInt8} (h : tputE t v = 0) : (∃ ms, (tputT t k v).ns = t.ns ++ ms ∧ ms.length ≤ 257) ∧ mayT (tputT t k v) = true ∧ allT (tputT t k v) = withP (allT t) k v := by
  have hT : tputT t k v = ⟨(putN t.ns k v 256 t.root).1, (putN t.ns k v 256 t.root).2⟩ := by unfold tputT; rw [if_pos h]
  unfold tputE at h
  by_cases hm : mayT t = true
  · rw [if_pos hm] at h
    by_cases hv : valB v = true
    · rw [if_pos hv] at h
      by_cases hf : 261844 < t.ns.length
      · rw [if_pos hf] at h; cases h
      · obtain ⟨m0, m1, m2, ho, m3⟩ := mayT_iff.1 hm
        obtain ⟨⟨ms, a1, a2⟩, a3, a4, a5, a6, a7⟩ := put_spec ho hv 256 t.root z0 (Nat.le_refl _) m1 m2 zr_z0 m3 (fun i hi => by omega)
        rw [hT]
        exact ⟨⟨ms, a1, a2⟩, mayT_iff.2 ⟨by dsimp only; rw [a1, List.length_append]; omega, a4, a5, a3, a6⟩, a7⟩
    · rw [if_neg hv] at h; cases h
  · rw [if_neg hm] at h; cases h
theorem pg_root {t : Tr} (k : Dg) (h : mayT t = true) : PG t.ns k 256 t.root := by
  obtain ⟨m0, m1, m2, ho, m3⟩ := mayT_iff.1 h
  exact ⟨m1, m2, z0, zr_z0, m3, fun i hi => by omega⟩
/-- The trie's row, once nothing writes it any more. -/
theorem TrieAt.out_ {w : World} {g B0 : Nat} {F P : Nat → Prop} {ns : List Nd} {root : Int} (h : TrieAt w g B0 F P ns root) : ∃ A c, w.heap[g]? = some (.cells #[.slice A ns.length c, .int .i64 root] 86 (0, 0)) ∧
    ∀ w' : World, (∀ b, B0 ≤ b → b < w.heap.size → b ≠ g → w'.heap[b]? = w.heap[b]?) → OwnR 50 w' B0 A c ns := by
  obtain ⟨A, c, h1, h2, h3, h4, h5, h6⟩ := h
  refine ⟨A, c, h1, fun w' hk => ⟨F, h2.kept (fun a ha hl => hk _ (h2.blk a ha).1 hl (h4 a ha)) (fun b hb hl => hk b (h3 b hb).1 hl (h3 b hb).2.2), fun b hb => ⟨(h3 b hb).1, (h3 b hb).2.1.kept (hk b (h3 b hb).1 (h3 b hb).2.1.lt (h3 b hb).2.2)⟩⟩⟩
/-- A trie that begins: a row of the call's own, its box made behind it, and blocks that are made later. -/
theorem trie_new {w w1 w2 : World} {g B0 : Nat} {G : Nat → Prop} {ns : List Nd} {root : Int} {A : Option Addr} {c : Nat} (ho : OwnR 50 w B0 A c ns) (hB : B0 ≤ w.heap.size) (hw : Below w.heap.size w w1) (hg : w1.heap[g]? = some (.cells #[.slice A ns.length c, .int .i64 root] 86 (0, 0))) (hge : w.heap.size ≤ g)
    (hw2 : Below w1.heap.size w1 w2) (hG : ∀ b, G b → w1.heap.size ≤ b ∧ Soft w2 b) : ∃ F, TrieAt w2 g B0 F F ns root ∧ ∀ b, G b → F b := by
  obtain ⟨F0, h1, h2⟩ := ho
  have hlt := block_lt hg
  have o2 := (h1.bel hw).bel hw2
  refine ⟨fun b => F0 b ∨ G b, ⟨A, c, (hw2.block g hlt).trans hg, o2.mono (fun b hb _ => .inl hb) (fun a ha hf => ?_), fun b hb => ?_, fun a ha e => ?_, Nat.le_trans hB hge, fun b hb => ?_⟩, fun b hb => .inr hb⟩
  · rcases hf with hf | hf
    · exact o2.apart a ha hf
    · have k1 := (h1.blk a ha).2
      have k2 := (hG _ hf).1
      have k3 := hw.size
      omega
  · rcases hb with hb | hb
    · have hl := (h2 b hb).2.lt
      have k3 := hw.size
      exact ⟨(h2 b hb).1, ((h2 b hb).2.kept (hw.block b hl)).kept (hw2.block b (by omega)), fun e => by omega⟩
    · have k2 := hG b hb
      have k3 := hw.size
      exact ⟨by omega, k2.2, fun e => by omega⟩
  · have k1 := (h1.blk a ha).2
    omega
  · have ha : ∀ a, A = some a → b ≠ a.block := fun a ha e => by
      have k1 := (h1.blk a ha).2
      rcases hb with hb | hb
      · exact o2.apart a ha (by rw [← e]; exact hb)
      · have k2 := (hG b hb).1
        have k3 := hw.size
        omega
    rcases hb with hb | hb
    · have hl := (h2 b hb).2.lt
      have k3 := hw.size
      have k4 := hw2.size
      exact ⟨by omega, fun e => by omega, ha⟩
    · have k2 := hG b hb
      exact ⟨k2.2.lt, fun e => by omega, ha⟩
end Go.Proofs.YtfjkcdccnbggnaaDoor
