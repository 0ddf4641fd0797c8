/-
  Texts laid together: Ref05c, Ref05d, Ref05f, Ref05g.
-/
import Derived.Test.YtcifncmfjlbhjaaDoorBits
import Derived.Test.YtcifncmfjlbhjaaDoorMem
import Derived.Test.YtcifncmfjlbhjaaDoorRefE
import Derived.Test.YtcifncmfjlbhjaaDoorPlain
import Derived.IntWalk
set_option maxRecDepth 100000
/- (Ref05c)
  The document's answers of layer 5: Get.
-/
namespace Go.Proofs.YtcifncmfjlbhjaaDoor
open Go.RowKit
set_option linter.unusedVariables false
set_option linter.unusedSimpArgs false

theorem mGet_no {ps : List Pr} {k : Dg} (h : mayP ps = false ∨ hasP ps k = false) : mGetB ps k = false ∧ mGetL ps k = [] := by
  have : mGetB ps k = false := by
    unfold mGetB
    rcases h with h | h <;> rw [h]
    · rfl
    · exact Bool.and_false _
  exact ⟨this, by unfold mGetL; rw [this]; rfl⟩
theorem mGet_yes {ps : List Pr} {k : Dg} (h : mayP ps = true) {j : Nat} (hj : j < ps.length) (hk : ps[j].k = k) : mGetB ps k = true ∧ mGetL ps k = ps[j].v := by
  have h2 : hasP ps k = true := hasP_mem.2 ⟨_, List.getElem_mem hj, hk⟩
  have : mGetB ps k = true := by unfold mGetB; rw [h, h2]; rfl
  refine ⟨this, ?_⟩
  unfold mGetL
  rw [if_pos this, ← hk, getV_mem (may_srt h) (List.getElem_mem hj)]
theorem may_v {ps : List Pr} (h : mayP ps = true) {j : Nat} (hj : j < ps.length) : ps[j].v.length ≤ 64 := by
  have := (chain_srt ps (by unfold mayP at h; simp at h; exact h.2)).2 _ (List.getElem_mem hj)
  unfold valB at this
  simp at this
  exact this.2

end Go.Proofs.YtcifncmfjlbhjaaDoor

/- (Ref05d)
  The document's answers of layer 5: Twin.
-/
namespace Go.Proofs.YtcifncmfjlbhjaaDoor
open Go.RowKit
set_option linter.unusedVariables false
set_option linter.unusedSimpArgs false

theorem sizeDg' (k : Dg) : (Tryd.prog.info? 35).map (·.size) = some (k.1.map bv).length := by rw [List.length_map, k.2]; exact size32
end Go.Proofs.YtcifncmfjlbhjaaDoor

/- (Ref05f)
  The document's answers of layer 5: Without, Drop.
-/
namespace Go.Proofs.YtcifncmfjlbhjaaDoor
open Go.RowKit
set_option linter.unusedVariables false
set_option linter.unusedSimpArgs false

theorem without_take {ps : List Pr} {k : Dg} {j : Nat} (hj : j < ps.length) : withoutP (ps.take (j + 1)) k = withoutP (ps.take j) k ++ (if ps[j].k = k then [] else [ps[j]]) := by
  unfold withoutP
  rw [List.take_succ_eq_append_getElem hj, List.filter_append]
  congr 1
  by_cases h : ps[j].k = k <;> simp [h]
theorem sizePr (k : Dg) (x : Value) : (Tryd.prog.info? 90).map (·.size) = some (k.1.map bv ++ [x]).length := by
  have h := slotPr.info
  rw [len_pr]
  cases hi : Tryd.prog.info? 90 with
  | none => rw [hi] at h; cases h
  | some i =>
    rw [hi] at h
    simp at h
    simp [h.2.1]
theorem cells_agg (cs : List Value) : (Value.agg cs.toArray).cells = cs.toArray := rfl


end Go.Proofs.YtcifncmfjlbhjaaDoor

/- (Ref05g)
  The document's answers of layer 5: With, Put.
-/
namespace Go.Proofs.YtcifncmfjlbhjaaDoor
open Go.RowKit
set_option linter.unusedVariables false
set_option linter.unusedSimpArgs false

theorem ret_sl {A : Option Addr} {n m c : Nat} (h : n = m) : Ending.returned (.slice A n c) = .returned (.slice A m c) := by rw [h]
theorem cnt_step {ps : List Pr} {k : Dg} {j : Nat} (hj : j < ps.length) (h : ∀ p ∈ ps.take j, ahead p.k.1 k.1 = true) (ha : ahead ps[j].k.1 k.1 = true) : ∀ p ∈ ps.take (j + 1), ahead p.k.1 k.1 = true := by
  intro p hp
  rw [List.take_succ_eq_append_getElem hj] at hp
  rcases List.mem_append.1 hp with hp | hp
  · exact h p hp
  · simp at hp; rw [hp]; exact ha
theorem cnt_stop {ps : List Pr} {k : Dg} {j : Nat} (hj : j ≤ ps.length) (h : ∀ p ∈ ps.take j, ahead p.k.1 k.1 = true) (hn : ∀ hl : j < ps.length, ahead ps[j].k.1 k.1 = false) : cnt ps k = j := by
  induction ps generalizing j with
  | nil => simp at hj; subst hj; rfl
  | cons q ps ih =>
    rw [cnt_cons]
    rcases j with _ | j
    · rw [if_neg]
      have := hn (by simp)
      simp at this
      rw [this]; simp
    · rw [if_pos (h q (by simp))]
      rw [ih (by simpa using hj) (fun p hp => h p (by simp [hp])) (fun hl => hn (by simpa using hl))]


end Go.Proofs.YtcifncmfjlbhjaaDoor
