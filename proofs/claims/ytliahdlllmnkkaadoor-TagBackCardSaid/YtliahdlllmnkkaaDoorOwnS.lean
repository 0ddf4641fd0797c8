/-
  Rows of slices of bytes that a call has made, whose parts are the call's own or lay before: appending to such a row. No program is named here.
-/
import Derived.Test.YtliahdlllmnkkaaDoorOwnL
namespace Go.Proofs.YtliahdlllmnkkaaDoor
open Go.RowKit
set_option linter.unusedVariables false

theorem grown_cell {w w' : World} {row : Option Nat} (hg : w.grownBy w' row) (p : Addr) (hp : p.block < w.heap.size) (hne : some p.block ≠ row) : w'.cell? p = w.cell? p :=
  World.cell?_of_block (hg.block p.block hp hne)

/-- A part: it reads as l; it lies below B, or is the call's own from B on. -/
structure Part (EB : TypeId) (w : World) (B : Nat) (v : Option Addr × Nat) (l : List UInt8) : Prop where
  rd : Rd w v.1 l
  le : l.length ≤ v.2
  max : v.2 ≤ maxLen
  at_ : (∀ a, 0 < l.length → v.1 = some a → a.block < B) ∨ Own EB w B v.1 v.2 l

section
variable {P : Program} {S EL EB : TypeId} {w w' : World} {B : Nat} {A : Option Addr} {c : Nat} {ls : List (List UInt8)} {v : Option Addr × Nat} {l : List UInt8}
theorem Part.bel (h : Part EB w B v l) (hb : Below w.heap.size w w') : Part EB w' B v l :=
  ⟨h.rd.bel hb, h.le, h.max, h.at_.elim .inl fun o => .inr (o.bel hb)⟩
theorem Part.own (h : Own EB w B v.1 v.2 l) : Part EB w B v l := ⟨h.rd, h.cap.1, h.cap.2, .inr h⟩
theorem Part.old (h : Rd w v.1 l) (h1 : l.length ≤ v.2) (h2 : v.2 ≤ maxLen) (hB : w.heap.size ≤ B) : Part EB w B v l := by
  refine ⟨h, h1, h2, .inl fun a h0 ha => ?_⟩
  obtain ⟨b, o, hA, hc⟩ := h h0
  rw [ha] at hA
  injection hA with hA
  subst hA
  have := World.block_lt_of_cell? _ _ (hc 0 _ (List.getElem?_eq_getElem h0))
  exact Nat.lt_of_lt_of_le this hB
/-- Behind a step on a row of slices it is still that part. -/
theorem Part.kept {n : Nat} {xs : List Value} (hne : EB ≠ EL) (h : Part EB w B v l) (hr : w.ownsRow B EL 1 (.slice A n c) n xs) (hg : w.grownBy w' (Value.slice A n c).ownBlock) : Part EB w' B v l := by
  rcases h.at_ with h1 | h1
  · refine ⟨?_, h.le, h.max, .inl h1⟩
    intro h0
    obtain ⟨b, o, hA, hc⟩ := h.rd h0
    refine ⟨b, o, hA, fun j x hx => ?_⟩
    have h2 := hc j x hx
    rw [grown_cell hg _ (World.block_lt_of_cell? _ _ h2) ?_]
    · exact h2
    · intro he
      have h3 := h1 _ h0 hA
      have h4 := World.ownsRow.lt hr b he.symm
      have h5 : b < B := h3
      omega
  · exact Part.own (h1.kept hg (own_apart hne hr h1))

def OwnS (EL EB : TypeId) (w : World) (B : Nat) (A : Option Addr) (c : Nat) (ls : List (List UInt8)) : Prop :=
  ∃ vs : List (Option Addr × Nat), vs.length = ls.length ∧ w.ownsRow B EL 1 (.slice A ls.length c) ls.length ((vs.zip ls).map slv) ∧
    ∀ (j : Nat) (v : Option Addr × Nat) (l : List UInt8), vs[j]? = some v → ls[j]? = some l → Part EB w B v l
theorem OwnS.bel (h : OwnS EL EB w B A c ls) (hb : Below w.heap.size w w') : OwnS EL EB w' B A c ls := by
  obtain ⟨vs, h1, h2, h3⟩ := h
  exact ⟨vs, h1, ownsRow_bel h2 hb, fun j v l hv hl => (h3 j v l hv hl).bel hb⟩
theorem OwnS.alloc (h : OwnS EL EB w B A c ls) (o : Obj) : OwnS EL EB (w.alloc o) B A c ls := h.bel (ext_alloc w o)
theorem OwnS.cap (h : OwnS EL EB w B A c ls) : ls.length ≤ c ∧ c ≤ maxLen := by
  obtain ⟨vs, _, ⟨_, h2⟩, _⟩ := h
  rcases h2 with ⟨hv, h0⟩ | ⟨g, cap, cur, hv, _, _, hnc, hcm, _⟩
  · injection hv with h1 h2 h3
    subst h3
    exact ⟨by omega, Nat.zero_le _⟩
  · injection hv with h1 h2 h3
    subst h3
    exact ⟨hnc, hcm⟩
theorem OwnS.rds (h : OwnS EL EB w B A c ls) : Rds w A ls := by
  obtain ⟨vs, h1, ⟨_, h2⟩, h3⟩ := h
  intro hn
  rcases h2 with ⟨hv, h0⟩ | ⟨g, cap, cur, hv, _, hg, hnc, _, hsz, ht⟩
  · omega
  · injection hv with hA _ _
    subst hA
    refine ⟨g, 0, rfl, fun j l hl => ?_⟩
    have hj := (List.getElem?_eq_some_iff.1 hl).1
    have hvj : vs[j]? = some (vs[j]'(by omega)) := List.getElem?_eq_getElem (by omega)
    have ho := h3 j _ l hvj hl
    refine ⟨_, _, ?_, ho.rd, ho.le, ho.max⟩
    rw [cell_of_row w g (0 + j) cur EL (0, 0) hg, Nat.zero_add]
    have h4 : (cur.toList.take (ls.length * 1))[j]? = ((vs.zip ls).map slv)[j]? := by rw [ht]
    rw [List.getElem?_take, if_pos (by omega), List.getElem?_map] at h4
    have hz : (vs.zip ls)[j]? = some (vs[j]'(by omega), l) := by rw [List.getElem?_zip_eq_some]; exact ⟨hvj, hl⟩
    rw [hz] at h4
    simpa [slv] using h4

theorem run_appS (hS : P.underlying S = some (.slice EL)) (hi : (P.info? EL).map (fun i => (i.zero, i.size, i.bytes)) = some (some (.slice none 0 0), 1, 24)) (hne : EB ≠ EL) (ty : TypeId) (ho : OwnS EL EB w B A c ls)
    (us : List (Option Addr × Nat)) (ms : List (List UInt8)) (hu : us.length = ms.length) (hp : ∀ (j : Nat) (v : Option Addr × Nat) (l : List UInt8), us[j]? = some v → ms[j]? = some l → Part EB w B v l)
    (cc : Nat) (hlen : ls.length + ms.length ≤ 1000000000) (hB : B ≤ w.heap.size) (g : Nat) (hc : ∀ (j : Nat) (u : Value), ((us.zip ms).map slv)[j]? = some u → w.cell? ⟨g, j, none⟩ = some u) :
    ∃ A' c' w', (Builtin.append_ #[S, S] ty #[.slice A ls.length c, .slice (some ⟨g, 0, none⟩) ms.length cc]).run P w = .ok (.slice A' (ls ++ ms).length c') w' ∧ OwnS EL EB w' B A' c' (ls ++ ms) ∧ Below B w w' := by
  obtain ⟨i0, hi0, hz0, hz1, hz2⟩ := info_parts hi
  obtain ⟨vs, h1, h2, h3⟩ := ho
  have hnl : ((us.zip ms).map slv).length = ms.length * 1 := by simp [hu]
  obtain ⟨v', w', hrun, hown, hg, hnil⟩ := run_append_own (P := P) w B S ty EL i0 (.slice none 0 0) 1 24 hS hi0 hz0 hz1 hz2 rfl (by omega) _ ls.length _ h2 ⟨g, 0, none⟩ ms.length cc ((us.zip ms).map slv)
    hnl (fun j u h => by rw [Addr.add_lit, Nat.zero_add]; exact hc j u h) (by intro u hu; obtain ⟨p, _, rfl⟩ := List.mem_map.1 hu; rfl) (by unfold maxLen; omega) (by omega) hB
  have hb : Below B w w' := (Below.refl B w).grown hg hB (fun k hk => (World.ownsRow.lt h2 k hk).1)
  have hlen2 : (ls ++ ms).length = ls.length + ms.length := by simp
  have hmap : ((vs ++ us).zip (ls ++ ms)).map slv = (vs.zip ls).map slv ++ (us.zip ms).map slv := by
    rw [List.zip_append h1, List.map_append]
  have hall : ∀ (j : Nat) (v : Option Addr × Nat) (m : List UInt8), (vs ++ us)[j]? = some v → (ls ++ ms)[j]? = some m → Part EB w' B v m := by
    intro j v m hv hm
    rcases Nat.lt_or_ge j ls.length with hj | hj
    · rw [List.getElem?_append_left (by omega)] at hv hm
      exact (h3 j v m hv hm).kept hne h2 hg
    · rw [List.getElem?_append_right (by omega)] at hv hm
      rw [h1] at hv
      exact (hp _ v m hv hm).kept hne h2 hg
  rcases hown.2 with ⟨hv, h0⟩ | ⟨g', cap, cur, hv, r⟩
  · subst hv
    have e1 : ls = [] := List.eq_nil_of_length_eq_zero (by omega)
    have e2 : ms = [] := List.eq_nil_of_length_eq_zero (by omega)
    subst e1 e2
    exact ⟨none, 0, w', hrun, ⟨[], rfl, World.ownsRow_nil _ _ _ _, fun j v l h => by simp at h⟩, hb⟩
  · subst hv
    refine ⟨some ⟨g', 0, none⟩, cap, w', ?_, ⟨vs ++ us, by simp [h1, hu], ?_, hall⟩, hb⟩
    · rw [hrun, hlen2]
    · rw [hlen2, hmap]
      exact hown
theorem wpList_appS (hS : P.underlying S = some (.slice EL)) (hi : (P.info? EL).map (fun i => (i.zero, i.size, i.bytes)) = some (some (.slice none 0 0), 1, 24)) (hne : EB ≠ EL)
    {ops : Array Oper} {rest : List Oper} {o : Oper} {a : Act} {Q : Exit → Act → World → Prop} (hg : Region.wanted o (yielded ops a.tmps) = true) (s x : Operand)
    (hop : o.op = .call { callee := .builtin .append, args := #[s, x], argTypes := #[S, S] })
    (B : Nat) (A : Option Addr) (n m c cc g : Nat) (ls ms : List (List UInt8)) (us : List (Option Addr × Nat)) (hs : a.eval s = .slice A n c) (hx : a.eval x = .slice (some ⟨g, 0, none⟩) m cc) (hn : n = ls.length) (hm : m = ms.length)
    (ho : OwnS EL EB w B A c ls) (hu : us.length = ms.length) (hp : ∀ (j : Nat) (v : Option Addr × Nat) (l : List UInt8), us[j]? = some v → ms[j]? = some l → Part EB w B v l)
    (hc : ∀ (j : Nat) (u : Value), ((us.zip ms).map slv)[j]? = some u → w.cell? ⟨g, j, none⟩ = some u) (hlen : ls.length + ms.length ≤ 1000000000) (hB : B ≤ w.heap.size)
    (hK : ∀ A' c' w', OwnS EL EB w' B A' c' (ls ++ ms) → Below B w w' → wpList P ops Q rest (a.put o.dst (.slice A' (ls ++ ms).length c')) w') : wpList P ops Q (o :: rest) a w :=
  wpList_step fun _ hK2 => by
    rw [if_pos hg]
    subst hn hm
    obtain ⟨A', c', w', hrun, h1, h2⟩ := run_appS hS hi hne o.type ho us ms hu hp cc hlen hB g hc
    unfold Oper.wp execOp
    simp only [hop, resolve, invoke, builtin, Sem.run_bind, Sem.run_pure, Result.andThen_ok, List.map_toArray, List.map_cons, List.map_nil, hs, hx, hrun]
    exact hK2 _ _ (hK A' c' w' h1 h2)
end
end Go.Proofs.YtliahdlllmnkkaaDoor
