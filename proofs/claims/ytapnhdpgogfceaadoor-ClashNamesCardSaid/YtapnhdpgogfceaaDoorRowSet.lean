/-
  A row of the call's own, one of its things stored anew; a row just made. No program is named here.
-/
import Derived.Test.YtapnhdpgogfceaaDoorMem
import Derived.OwnWalk
namespace Go.Proofs.YtapnhdpgogfceaaDoor
open Go.RowKit
set_option linter.unusedVariables false

def setA (cs : Array Value) : Nat → List Value → Array Value
  | _, [] => cs
  | o, v :: r => setA (cs.setIfInBounds o v) (o + 1) r
theorem setCells_block {g : Nat} {t : TypeId} : ∀ (vs : List Value) (o : Nat) (w : World) (cs : Array Value), w.heap[g]? = some (.cells cs t (0, 0)) → (w.setCells g o vs).heap[g]? = some (.cells (setA cs o vs) t (0, 0))
  | [], _, _, _, h => h
  | v :: r, o, w, cs, h => setCells_block r (o + 1) _ _ (block_set h o v)
theorem setCells_other {g b : Nat} (hb : b ≠ g) : ∀ (vs : List Value) (o : Nat) (w : World), (w.setCells g o vs).heap[b]? = w.heap[b]?
  | [], _, _ => rfl
  | v :: r, o, w => (setCells_other hb r (o + 1) _).trans (Below.heap_setCell w ⟨g, o, none⟩ v b hb)
theorem setCells_below {g B : Nat} (hB : B ≤ g) : ∀ (vs : List Value) (o : Nat) {w0 w : World}, Below B w0 w → Below B w0 (w.setCells g o vs)
  | [], _, _, _, h => h
  | v :: r, o, _, _, h => setCells_below hB r (o + 1) (h.setCell (p := ⟨g, o, none⟩) hB v)
theorem setA_lay : ∀ (vs : List Value) (o : Nat) (cs : Array Value), o + vs.length ≤ cs.size → (setA cs o vs).toList = lay cs.toList o vs
  | [], o, cs, h => by simp [setA, lay]
  | v :: r, o, cs, h => by
    simp only [List.length_cons] at h
    have ih := setA_lay r (o + 1) (cs.setIfInBounds o v) (by rw [Array.size_setIfInBounds]; omega)
    rw [setA, ih]
    simp only [lay, Array.toList_setIfInBounds, List.length_cons]
    have hl : o < cs.toList.length := by rw [Array.length_toList]; omega
    have e1 : (cs.toList.set o v).take (o + 1) = cs.toList.take o ++ [v] := by
      rw [List.take_set, List.take_succ_eq_append_getElem hl, List.set_append_right _ _ (by simp; omega)]
      rw [show o - (cs.toList.take o).length = 0 by rw [List.length_take]; omega]
      rfl
    have e2 : (cs.toList.set o v).drop (o + 1 + r.length) = cs.toList.drop (o + (r.length + 1)) := by
      rw [List.drop_set_of_lt (by omega)]
      congr 1; omega
    rw [e1, e2]
    simp
theorem setA_size : ∀ (vs : List Value) (o : Nat) (cs : Array Value), (setA cs o vs).size = cs.size
  | [], _, _ => rfl
  | v :: r, o, cs => (setA_size r (o + 1) _).trans (Array.size_setIfInBounds ..)
theorem lay_take {cs vs : List Value} {o n : Nat} (h : o + vs.length ≤ n) (hn : n ≤ cs.length) : (lay cs o vs).take n = lay (cs.take n) o vs := by
  unfold lay
  have l1 : (cs.take o).length = o := by rw [List.length_take]; omega
  rw [List.take_append, List.take_append, List.take_take, show min n o = o by omega, show n - (cs.take o).length = n - o by rw [l1], List.take_of_length_le (l := vs) (by omega)]
  rw [List.take_take, show min o n = o by omega]
  congr 1
  rw [List.length_append, l1, List.drop_take]
theorem flatten_set {n : Nat} {vs : List Value} (hv : vs.length = n) : ∀ (css : List (List Value)) (j : Nat), (∀ cs ∈ css, cs.length = n) → j < css.length → (css.set j vs).flatten = lay css.flatten (j * n) vs
  | [], j, _, h => by simp at h
  | c :: css, 0, hn, _ => by
    have hc := hn c (by simp)
    simp only [List.set_cons_zero, List.flatten_cons, lay, Nat.zero_mul, List.take_zero, List.nil_append, Nat.zero_add]
    rw [List.drop_append, List.drop_of_length_le (by omega), hv, hc, Nat.sub_self, List.drop_zero, List.nil_append]
  | c :: css, j + 1, hn, hj => by
    have hc := hn c (by simp)
    simp only [List.set_cons_succ, List.flatten_cons]
    rw [flatten_set hv css j (fun cs h => hn cs (by simp [h])) (by simpa using hj)]
    unfold lay
    rw [List.take_append, List.take_of_length_le (l := c) (by rw [hc, Nat.succ_mul]; omega), List.drop_append, List.drop_of_length_le (l := c) (by rw [hc, Nat.succ_mul]; omega)]
    rw [show (j + 1) * n - c.length = j * n by rw [hc, Nat.succ_mul]; omega, show (j + 1) * n + vs.length - c.length = j * n + vs.length by rw [hc, Nat.succ_mul]; omega]
    simp
section
variable {α : Type} [Enc α] {E : TypeId} {F : Nat → Prop} {w : World} {B c g j : Nat} {xs : List α}
theorem RowO.set (h : RowO E F w B (some ⟨g, 0, none⟩) c xs) (hj : j < xs.length) {x : α} {vs : List Value} (hx : Enc.rep F w x vs) : RowO E F (w.setCells g (j * Enc.size α) vs) B (some ⟨g, 0, none⟩) c (xs.set j x) := by
  obtain ⟨css, h1, ⟨h0, h2⟩, h3, h4⟩ := h
  have hlens := rep_lens h1 h3
  have hvl := Enc.len hx
  rcases h2 with ⟨hv, _⟩ | ⟨g', cap, cur, hv, hbg, hg, hnc, hcm, hcs, ht⟩
  · injection hv with e; cases e
  · injection hv with e1 e2 e3
    injection e1 with e1
    injection e1 with e1
    subst e1 e3
    have hle : j * Enc.size α + vs.length ≤ xs.length * Enc.size α := by
      rw [hvl, ← Nat.succ_mul]
      exact Nat.mul_le_mul_right _ hj
    have hle2 : xs.length * Enc.size α ≤ c * Enc.size α := Nat.mul_le_mul_right _ hnc
    have hcl : cur.toList.length = c * Enc.size α := by rw [Array.length_toList]; exact hcs
    have hF : ∀ b, F b → b < w.heap.size → (w.setCells g (j * Enc.size α) vs).heap[b]? = w.heap[b]? := fun b hb _ => setCells_other (fun e => h4 _ rfl (by rw [← e]; exact hb)) vs _ w
    refine ⟨css.set j vs, by simp [h1], ⟨by rw [flatten_len (n := Enc.size α), List.length_set, List.length_set, h1]; intro cs hc; rcases List.mem_or_eq_of_mem_set hc with h | rfl; exact hlens cs h; exact hvl, .inr ⟨g, c, setA cur (j * Enc.size α) vs, by simp, hbg, setCells_block vs _ w cur hg, by simpa using hnc, hcm, by rw [setA_size]; exact hcs, ?_⟩⟩, fun i y us hy hu => ?_, h4⟩
    · rw [setA_lay vs _ cur (by omega), flatten_set hvl css j hlens (by omega), List.length_set, lay_take hle (by rw [hcl]; exact hle2), ht]
    · rw [List.getElem?_set] at hy hu
      by_cases e : j = i
      · subst e
        rw [if_pos rfl, if_pos hj] at hy
        rw [if_pos rfl, if_pos (by omega)] at hu
        injection hy with hy
        injection hu with hu
        subst hy hu
        exact Enc.kept hx hF
      · rw [if_neg e] at hy hu
        exact Enc.kept (h3 i y us hy hu) hF
theorem made_flat (z : List Value) (n : Nat) (hz : 0 < z.length) : (madeCells z.toArray (n * z.length)).toList = (List.replicate n z).flatten := by
  apply List.ext_getElem?
  intro i
  have hl : (madeCells z.toArray (n * z.length)).toList.length = n * z.length := by rw [Array.length_toList, size_madeCells]
  rcases Nat.lt_or_ge i (n * z.length) with hi | hi
  · have hj : i / z.length < n := Nat.div_lt_of_lt_mul (by rw [Nat.mul_comm]; exact hi)
    have hm : i % z.length < z.length := Nat.mod_lt _ hz
    have h2 := flatten_at (n := z.length) (css := List.replicate n z) (j := i / z.length) (i := i % z.length) (vs := z) (fun cs h => by rw [List.eq_of_mem_replicate h]) (by rw [List.getElem?_replicate, if_pos hj]) hm
    rw [show i / z.length * z.length + i % z.length = i by rw [Nat.mul_comm]; exact Nat.div_add_mod i z.length] at h2
    rw [h2]
    unfold madeCells
    simp only [Array.toList_map, Array.toList_range, List.getElem?_map, List.size_toArray]
    rw [List.getElem?_range hi]
    simp only [Option.map_some]
    rw [List.getElem?_eq_getElem hm]
    congr 1
    simp [hm]
  · rw [List.getElem?_eq_none (by omega), List.getElem?_eq_none (by rw [flatten_len (n := z.length) (fun cs h => by rw [List.eq_of_mem_replicate h]), List.length_replicate]; exact hi)]
theorem RowO.made {w : World} {n : Nat} {x0 : α} {z : List Value} (hz : Enc.rep F w x0 z) (hp : 0 < Enc.size α) (h : w.ownsRow B E (Enc.size α) (.slice (some ⟨g, 0, none⟩) n n) n (madeCells z.toArray (n * Enc.size α)).toList) (hF : ¬ F g) : RowO E F w B (some ⟨g, 0, none⟩) n (List.replicate n x0) := by
  have hl := Enc.len hz
  refine ⟨List.replicate n z, by simp, ?_, fun j x vs hx hv => ?_, fun a ha => by injection ha with ha; subst ha; exact hF⟩
  · rw [List.length_replicate, ← made_flat z n (by omega), hl]
    exact h
  · rw [List.getElem?_replicate] at hx hv
    split at hx
    · rename_i hj
      rw [if_pos hj] at hv
      injection hx with hx
      injection hv with hv
      subst hx hv
      exact hz
    · cases hx
end
end Go.Proofs.YtapnhdpgogfceaaDoor
