/-
  How many nodes a tree wants for so many pairs. No program is named here.
-/
import Derived.Test.YtfjkcdccnbggnaaDoorTreePut
namespace Go.Proofs.YtfjkcdccnbggnaaDoor
open Go.RowKit
set_option linter.unusedVariables false

/-- The keys of the leaves that a number leads to. -/
inductive Lf (ns : List Nd) : Int → Dg → Prop
  | leaf {n : Int} : n ≠ 0 → (ndAt ns n).leaf = true → Lf ns n (ndAt ns n).k
  | left {n : Int} {k : Dg} : n ≠ 0 → (ndAt ns n).leaf = false → Lf ns (ndAt ns n).l k → Lf ns n k
  | right {n : Int} {k : Dg} : n ≠ 0 → (ndAt ns n).leaf = false → Lf ns (ndAt ns n).r k → Lf ns n k
/-- The nodes that a number leads to. -/
def seen (ns : List Nd) : Nat → Int → List Nat
  | e, n => if n = 0 then [] else if (ndAt ns n).leaf = true then [n.toNat] else match e with
    | 0 => []
    | e + 1 => n.toNat :: (seen ns e (ndAt ns n).l ++ seen ns e (ndAt ns n).r)
section
variable {ns : List Nd} {e : Nat} {n : Int} {b k : Dg}
theorem seen_zero : seen ns e 0 = [] := by cases e <;> simp [seen]
theorem seen_leaf (h : n ≠ 0) (hl : (ndAt ns n).leaf = true) : seen ns e n = [n.toNat] := by cases e <;> simp [seen, h, hl]
theorem seen_fork (h : n ≠ 0) (hl : (ndAt ns n).leaf = false) : seen ns (e + 1) n = n.toNat :: (seen ns e (ndAt ns n).l ++ seen ns e (ndAt ns n).r) := by simp [seen, h, hl]
theorem lf_of_for : ∀ (e : Nat) (n : Int) (p : Pr), p ∈ forP ns e n → Lf ns n p.k := by
  intro e
  induction e with
  | zero =>
    intro n p hp
    by_cases h : n = 0
    · subst h; rw [forP_zero] at hp; simp at hp
    · cases hl : (ndAt ns n).leaf with
      | true => rw [forP_leaf h hl] at hp; simp only [List.mem_singleton] at hp; subst hp; exact Lf.leaf h hl
      | false => simp [forP, h, hl] at hp
  | succ e ih =>
    intro n p hp
    by_cases h : n = 0
    · subst h; rw [forP_zero] at hp; simp at hp
    · cases hl : (ndAt ns n).leaf with
      | true => rw [forP_leaf h hl] at hp; simp only [List.mem_singleton] at hp; subst hp; exact Lf.leaf h hl
      | false =>
        rw [forP_fork h hl] at hp
        rcases List.mem_append.1 hp with q | q
        · exact Lf.left h hl (ih _ _ q)
        · exact Lf.right h hl (ih _ _ q)
theorem for_of_lf (h : Lf ns n k) : ∀ (e : Nat) (b : Dg), 0 ≤ rgt ns e n b → ∃ p ∈ forP ns e n, p.k = k := by
  induction h with
  | leaf h hl => intro e b _; exact ⟨⟨_, _⟩, by rw [forP_leaf h hl]; exact List.mem_singleton.2 rfl, rfl⟩
  | left h hl _ ih =>
    intro e b hr
    obtain ⟨f, rfl, h1, h2, _⟩ := fork_parts h hl hr
    obtain ⟨p, hp, e⟩ := ih f b h1
    exact ⟨p, by rw [forP_fork h hl]; exact List.mem_append_left _ hp, e⟩
  | right h hl _ ih =>
    intro e b hr
    obtain ⟨f, rfl, h1, h2, _⟩ := fork_parts h hl hr
    obtain ⟨p, hp, e⟩ := ih f _ h2
    exact ⟨p, by rw [forP_fork h hl]; exact List.mem_append_right _ hp, e⟩
theorem seen_spec (ho : Ones ns) : ∀ (e : Nat) (n : Int) (b : Dg), e ≤ 256 → Zr (256 - e) b → 0 ≤ n → n ≤ ns.length → 0 ≤ rgt ns e n b →
    (seen ns e n).Nodup ∧ (∀ j ∈ seen ns e n, 0 < j ∧ (j : Int) ≤ n ∧ (∃ k, Lf ns (j : Int) k) ∧ ∀ k, Lf ns (j : Int) k → Lf ns n k) ∧ 2 * (forP ns e n).length ≤ (seen ns e n).length + 1 := by
  have leaf : ∀ (e : Nat) (n : Int), 0 ≤ n → n ≠ 0 → (ndAt ns n).leaf = true → (seen ns e n).Nodup ∧ (∀ j ∈ seen ns e n, 0 < j ∧ (j : Int) ≤ n ∧ (∃ k, Lf ns (j : Int) k) ∧ ∀ k, Lf ns (j : Int) k → Lf ns n k) ∧ 2 * (forP ns e n).length ≤ (seen ns e n).length + 1 := fun e n h0 h hl => by
    rw [seen_leaf h hl, forP_leaf h hl]
    refine ⟨by simp, fun j hj => ?_, by simp⟩
    simp only [List.mem_singleton] at hj
    subst hj
    rw [Int.toNat_of_nonneg h0]
    exact ⟨by omega, by omega, ⟨_, Lf.leaf h hl⟩, fun k hk => hk⟩
  intro e
  induction e with
  | zero =>
    intro n b _ _ h0 hn hr
    by_cases h : n = 0
    · subst h; rw [seen_zero, forP_zero]; simp
    · cases hl : (ndAt ns n).leaf with
      | true => exact leaf 0 n h0 h hl
      | false => rw [rgt_end h hl] at hr; omega
  | succ e ih =>
    intro n b he hz h0 hn hr
    by_cases h : n = 0
    · subst h; rw [seen_zero, forP_zero]; simp
    · cases hl : (ndAt ns n).leaf with
      | true => exact leaf (e + 1) n h0 h hl
      | false =>
        have hs := for_spec (e + 1) n b he hz hr
        obtain ⟨f, hf, h1, h2, h3, h4⟩ := fork_parts h hl hr
        obtain rfl : e = f := by omega
        have hd : 256 - (e + 1) < 256 := by omega
        have hd1 : 256 - e = 256 - (e + 1) + 1 := by omega
        have hd2 : 255 - e = 256 - (e + 1) := by omega
        rw [hd2] at h2
        have z1 : Zr (256 - e) b := by rw [hd1]; exact zr_succ hz
        have z2 : Zr (256 - e) (turnD b (256 - (e + 1))) := by rw [hd1]; exact zr_turn hz hd
        obtain ⟨⟨l0, ln⟩, ⟨r0, rn⟩, _⟩ := ones_kids ho (by omega) hn hl
        obtain ⟨n1, m1, c1⟩ := ih _ b (by omega) z1 l0 (by omega) h1
        obtain ⟨n2, m2, c2⟩ := ih _ _ (by omega) z2 r0 (by omega) h2
        have u1 := (for_spec e _ b (by omega) z1 h1).1
        have u2 := (for_spec e _ _ (by omega) z2 h2).1
        rw [hd1] at u1 u2
        have any : ∃ k, Lf ns n k := by
          have := hs.2.2.2.2.1 h4
          obtain ⟨p, hp⟩ := List.exists_mem_of_length_pos (l := forP ns (e + 1) n) (by omega)
          exact ⟨_, lf_of_for _ _ p hp⟩
        rw [seen_fork h hl, forP_fork h hl]
        refine ⟨List.nodup_cons.2 ⟨fun hj => ?_, List.nodup_append.2 ⟨n1, n2, fun a ha c hc hac => ?_⟩⟩, fun j hj => ?_, ?_⟩
        · rcases List.mem_append.1 hj with q | q
          · have := (m1 _ q).2.1; omega
          · have := (m2 _ q).2.1; omega
        · subst hac
          obtain ⟨_, _, ⟨k, hk⟩, q1⟩ := m1 a ha
          obtain ⟨_, _, _, q2⟩ := m2 a hc
          obtain ⟨p, hp, rfl⟩ := for_of_lf (q1 k hk) e b h1
          obtain ⟨q, hq, e2⟩ := for_of_lf (q2 _ hk) e _ h2
          have a1 := u1 p hp (256 - (e + 1)) (by omega)
          have a2 := u2 q hq (256 - (e + 1)) (by omega)
          rw [e2, a1, turn_self hz hd, hz _ (Nat.le_refl _) hd] at a2
          omega
        · rcases List.mem_cons.1 hj with rfl | hj
          · rw [Int.toNat_of_nonneg h0]
            exact ⟨by omega, by omega, any, fun k hk => hk⟩
          · rcases List.mem_append.1 hj with q | q
            · obtain ⟨q1, q2, q3, q4⟩ := m1 j q
              exact ⟨q1, by omega, q3, fun k hk => Lf.left h hl (q4 k hk)⟩
            · obtain ⟨q1, q2, q3, q4⟩ := m2 j q
              exact ⟨q1, by omega, q3, fun k hk => Lf.right h hl (q4 k hk)⟩
        · simp only [List.length_cons, List.length_append]
          omega
end
/-- Of n pairs, a tree has at least 2 n - 1 nodes. -/
theorem all_count {t : Tr} (h : mayT t = true) : 2 * (allT t).length ≤ t.ns.length + 1 := by
  obtain ⟨h1, h2, h3, h4, h5⟩ := mayT_iff.1 h
  obtain ⟨n, m, c⟩ := seen_spec h4 256 t.root z0 (Nat.le_refl _) zr_z0 h2 h3 h5
  have := nodup_len (seen t.ns 256 t.root) ((List.range t.ns.length).map (· + 1)) n fun x hx => by
    obtain ⟨q1, q2, _⟩ := m x hx
    exact List.mem_map.2 ⟨x - 1, List.mem_range.2 (by omega), by omega⟩
  rw [List.length_map, List.length_range] at this
  unfold allT
  omega
end Go.Proofs.YtfjkcdccnbggnaaDoor
