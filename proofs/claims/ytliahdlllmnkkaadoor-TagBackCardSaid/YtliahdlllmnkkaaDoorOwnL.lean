/-
  Slices of slices of bytes that a call has made: the row, and each part in it. No program is named here.
-/
import Derived.Test.YtliahdlllmnkkaaDoorBy
namespace Go.Proofs.YtliahdlllmnkkaaDoor
open Go.RowKit
set_option linter.unusedVariables false

def slv (x : (Option Addr × Nat) × List UInt8) : Value := .slice x.1.1 x.2.length x.1.2
/-- The slice '.slice A ls.length c' is the call's own row of slices (its block from B on), each the call's own bytes. EL, EB: the types of the elements of both. -/
def OwnL (EL EB : TypeId) (w : World) (B : Nat) (A : Option Addr) (c : Nat) (ls : List (List UInt8)) : Prop :=
  ∃ vs : List (Option Addr × Nat), vs.length = ls.length ∧ w.ownsRow B EL 1 (.slice A ls.length c) ls.length ((vs.zip ls).map slv) ∧
    ∀ (j : Nat) (v : Option Addr × Nat) (l : List UInt8), vs[j]? = some v → ls[j]? = some l → Own EB w B v.1 v.2 l

section
variable {P : Program} {S EL EB : TypeId} {w w' : World} {B : Nat} {A : Option Addr} {c : Nat} {ls : List (List UInt8)}
theorem OwnL.nil (w : World) (B : Nat) : OwnL EL EB w B none 0 [] := ⟨[], rfl, World.ownsRow_nil w B EL 1, fun j v l h => by simp at h⟩
theorem OwnL.cap (h : OwnL EL EB w B A c ls) : ls.length ≤ c ∧ c ≤ maxLen := by
  obtain ⟨vs, _, ⟨_, h2⟩, _⟩ := h
  rcases h2 with ⟨hv, h0⟩ | ⟨g, cap, cur, hv, _, _, hnc, hcm, _⟩
  · injection hv with h1 h2 h3
    subst h3
    exact ⟨by omega, Nat.zero_le _⟩
  · injection hv with h1 h2 h3
    subst h3
    exact ⟨hnc, hcm⟩
/-- A part's block is no row's. -/
theorem own_apart {A2 : Option Addr} {c2 n : Nat} {l : List UInt8} {xs : List Value} (hne : EB ≠ EL) (h : w.ownsRow B EL 1 (.slice A n c) n xs) (h2 : Own EB w B A2 c2 l) : ∀ a, A2 = some a → some a.block ≠ (Value.slice A n c).ownBlock := by
  intro a ha he
  rcases h.2 with ⟨hv, _⟩ | ⟨g, cap, cur, hv, _, hg, _⟩
  · rw [hv] at he; cases he
  · injection hv with hA _ _
    subst hA
    have he2 : a.block = g := by simpa [Value.ownBlock] using he
    rcases h2.2 with ⟨hv2, _⟩ | ⟨g2, cap2, cur2, hv2, _, hg2, _⟩
    · injection hv2 with hA2 _ _
      rw [ha] at hA2; cases hA2
    · injection hv2 with hA2 _ _
      rw [ha] at hA2
      injection hA2 with hA2
      subst hA2
      have he3 : g2 = g := he2
      subst he3
      rw [hg] at hg2
      injection hg2 with hg2
      injection hg2 with _ ht _
      exact hne ht.symm
theorem ownsRow_bel {xs : List Value} {n : Nat} (h : w.ownsRow B EL 1 (.slice A n c) n xs) (hb : Below w.heap.size w w') : w'.ownsRow B EL 1 (.slice A n c) n xs := by
  refine ⟨h.1, ?_⟩
  rcases h.2 with hn | ⟨g, cap, cur, hv, hbg, hgg, r⟩
  · exact .inl hn
  · exact .inr ⟨g, cap, cur, hv, hbg, (hb.block g (Array.getElem?_eq_some_iff.1 hgg).1).trans hgg, r⟩
theorem OwnL.bel (h : OwnL EL EB w B A c ls) (hb : Below w.heap.size w w') : OwnL EL EB w' B A c ls := by
  obtain ⟨vs, h1, h2, h3⟩ := h
  exact ⟨vs, h1, ownsRow_bel h2 hb, fun j v l hv hl => (h3 j v l hv hl).bel hb⟩
theorem OwnL.alloc (h : OwnL EL EB w B A c ls) (o : Obj) : OwnL EL EB (w.alloc o) B A c ls := h.bel (ext_alloc w o)
/-- It reads so. -/
theorem OwnL.rds (h : OwnL EL EB w B A c ls) : Rds w A ls := by
  obtain ⟨vs, h1, ⟨_, h2⟩, h3⟩ := h
  intro hn
  rcases h2 with ⟨hv, h0⟩ | ⟨g, cap, cur, hv, _, hg, hnc, _, hsz, ht⟩
  · omega
  · injection hv with hA _ _
    subst hA
    refine ⟨g, 0, rfl, fun j l hl => ?_⟩
    have hj := (List.getElem?_eq_some_iff.1 hl).1
    have hvj : vs[j]? = some (vs[j]'(by omega)) := List.getElem?_eq_getElem (by omega)
    have ho := h3 j _ l hvj hl
    refine ⟨_, _, ?_, ho.rd, ho.cap⟩
    rw [cell_of_row w g (0 + j) cur EL (0, 0) hg, Nat.zero_add]
    have h4 : (cur.toList.take (ls.length * 1))[j]? = ((vs.zip ls).map slv)[j]? := by rw [ht]
    rw [List.getElem?_take, if_pos (by omega), List.getElem?_map] at h4
    have hz : (vs.zip ls)[j]? = some (vs[j]'(by omega), l) := by rw [List.getElem?_zip_eq_some]; exact ⟨hvj, hl⟩
    rw [hz] at h4
    simpa [slv] using h4

theorem run_appL (hS : P.underlying S = some (.slice EL)) (hi : (P.info? EL).map (fun i => (i.zero, i.size, i.bytes)) = some (some (.slice none 0 0), 1, 24)) (hne : EB ≠ EL) (ty : TypeId) (ho : OwnL EL EB w B A c ls)
    (A2 : Option Addr) (c2 cc : Nat) (l : List UInt8) (hl : Own EB w B A2 c2 l) (hlen : ls.length ≤ 1000000000) (hB : B ≤ w.heap.size) (g : Nat) (hc : w.cell? ⟨g, 0, none⟩ = some (.slice A2 l.length c2)) :
    ∃ A' c' w', (Builtin.append_ #[S, S] ty #[.slice A ls.length c, .slice (some ⟨g, 0, none⟩) 1 cc]).run P w = .ok (.slice A' (ls ++ [l]).length c') w' ∧ OwnL EL EB w' B A' c' (ls ++ [l]) ∧ Below B w w' := by
  obtain ⟨i0, hi0, hz0, hz1, hz2⟩ := info_parts hi
  obtain ⟨vs, h1, h2, h3⟩ := ho
  have hnews : ∀ (j : Nat) (u : Value), [Value.slice A2 l.length c2][j]? = some u → w.cell? ((⟨g, 0, none⟩ : Addr).add j) = some u := by
    intro j u hu
    rcases j with _ | j
    · simp at hu
      subst hu
      exact hc
    · simp at hu
  obtain ⟨v', w', hrun, hown, hg, _⟩ := run_append_own (P := P) w B S ty EL i0 (.slice none 0 0) 1 24 hS hi0 hz0 hz1 hz2 rfl (by omega) _ ls.length _ h2 ⟨g, 0, none⟩ 1 cc [.slice A2 l.length c2]
    rfl hnews (by intro u hu; simp at hu; subst hu; rfl) (by unfold maxLen; omega) (by omega) hB
  have hb : Below B w w' := (Below.refl B w).grown hg hB (fun k hk => (World.ownsRow.lt h2 k hk).1)
  have hlen2 : (ls ++ [l]).length = ls.length + 1 := by simp
  have hmap : ((vs ++ [(A2, c2)]).zip (ls ++ [l])).map slv = (vs.zip ls).map slv ++ [.slice A2 l.length c2] := by
    rw [List.zip_append h1, List.map_append]
    rfl
  have hall : ∀ (j : Nat) (v : Option Addr × Nat) (m : List UInt8), (vs ++ [(A2, c2)])[j]? = some v → (ls ++ [l])[j]? = some m → Own EB w' B v.1 v.2 m := by
    intro j v m hv hm
    rcases Nat.lt_or_ge j ls.length with hj | hj
    · rw [List.getElem?_append_left (by omega)] at hv hm
      have h4 := h3 j v m hv hm
      exact h4.kept hg (own_apart hne h2 h4)
    · rw [List.getElem?_append_right (by omega)] at hv hm
      have e0 : j - vs.length = 0 := by
        rcases Nat.eq_zero_or_pos (j - vs.length) with h0 | h0
        · exact h0
        · rw [List.getElem?_eq_none (by simp; omega)] at hv; cases hv
      have e1 : j - ls.length = 0 := by omega
      rw [e0] at hv
      rw [e1] at hm
      simp at hv hm
      subst hv hm
      exact hl.kept hg (own_apart hne h2 hl)
  rcases hown.2 with ⟨hv, h0⟩ | ⟨g', cap, cur, hv, r⟩
  · omega
  · subst hv
    refine ⟨some ⟨g', 0, none⟩, cap, w', ?_, ⟨vs ++ [(A2, c2)], by simp [h1], ?_, hall⟩, hb⟩
    · rw [hrun, hlen2]
    · rw [hlen2, hmap]
      exact hown
theorem wpList_appL (hS : P.underlying S = some (.slice EL)) (hi : (P.info? EL).map (fun i => (i.zero, i.size, i.bytes)) = some (some (.slice none 0 0), 1, 24)) (hne : EB ≠ EL)
    {ops : Array Oper} {rest : List Oper} {o : Oper} {a : Act} {Q : Exit → Act → World → Prop} (hg : Region.wanted o (yielded ops a.tmps) = true) (s x : Operand)
    (hop : o.op = .call { callee := .builtin .append, args := #[s, x], argTypes := #[S, S] })
    (B : Nat) (A A2 : Option Addr) (n c c2 cc g : Nat) (ls : List (List UInt8)) (l : List UInt8) (hs : a.eval s = .slice A n c) (hx : a.eval x = .slice (some ⟨g, 0, none⟩) 1 cc) (hn : n = ls.length)
    (ho : OwnL EL EB w B A c ls) (hl : Own EB w B A2 c2 l) (hc : w.cell? ⟨g, 0, none⟩ = some (.slice A2 l.length c2)) (hlen : ls.length ≤ 1000000000) (hB : B ≤ w.heap.size)
    (hK : ∀ A' c' w', OwnL EL EB w' B A' c' (ls ++ [l]) → Below B w w' → wpList P ops Q rest (a.put o.dst (.slice A' (ls ++ [l]).length c')) w') : wpList P ops Q (o :: rest) a w :=
  wpList_step fun _ hK2 => by
    rw [if_pos hg]
    subst hn
    obtain ⟨A', c', w', hrun, h1, h2⟩ := run_appL hS hi hne o.type ho A2 c2 cc l hl hlen hB g hc
    unfold Oper.wp execOp
    simp only [hop, resolve, invoke, builtin, Sem.run_bind, Sem.run_pure, Result.andThen_ok, List.map_toArray, List.map_cons, List.map_nil, hs, hx, hrun]
    exact hK2 _ _ (hK A' c' w' h1 h2)
end
end Go.Proofs.YtliahdlllmnkkaaDoor
