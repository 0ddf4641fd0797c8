/-
  Contracts of the landed package tag: count, pieces, Bytes.
-/
import Derived.Test.YtliahdlllmnkkaaNumPut
import Derived.Test.YtliahdlllmnkkaaTagP
import Derived.Test.YtliahdlllmnkkaaOwnS
import Derived.Test.YtliahdlllmnkkaaShelf
import Derived.OwnWalk
namespace Go.Proofs.Ytliahdlllmnkkaa
open Go.RowKit
set_option linter.unusedVariables false

theorem tUnderSls : Try.prog.underlying 24 = some (.slice 22) := Try.underlying24
theorem tInfoSl : (Try.prog.info? 22).map (fun i => (i.zero, i.size, i.bytes)) = some (some (.slice none 0 0), 1, 24) := by kernel_rfl
theorem tNeSl : (5 : TypeId) ≠ 22 := by decide

/-! ### count -/
theorem count_any (A : Option Addr) (n c : Nat) (l : List UInt8) (w : World) (hn : n = l.length) :
    Calls Try.prog 23 #[.slice A n c] w fun e w' => ∃ A' c', e = .returned (.slice A' (be 4 (l.length % 4294967296)).length c') ∧ Own 5 w' w.heap.size A' c' (be 4 (l.length % 4294967296)) ∧ Below w.heap.size w w' := by
  subst hn
  have e1 : putE (l.length % 4294967296) 4 = 0 := by simp only [putE]; rw [if_pos (by omega), if_pos (by show _ < 256 ^ 4; omega)]
  have e2 : putB (l.length % 4294967296) 4 = be 4 (l.length % 4294967296) := by simp [putB, e1]
  have e3 : IntKind.u64.wrap (IntKind.u32.wrap (l.length : Int)) = ((l.length % 4294967296 : Nat) : Int) := by
    rw [IntKind.wrap_u64, IntKind.wrap_u32]; omega
  go_enter Try.func23, Try.ntmps23
  go_wp2_with fail
  refine (Put_is (l.length % 4294967296) _ 4 _ 0 _ (by omega) (by omega) e2 e1).mono ?_
  rintro e w1 ⟨A1, c1, rfl, ho, hb⟩
  go_wp2
  go_ret
  exact ⟨_, _, rfl, ho, hb⟩

/-! ### pieces -/
def pcs (k : UInt8) (ls : List (List UInt8)) : List (List UInt8) := [k] :: (ls.map fun l => [be 4 (l.length % 4294967296), l]).flatten
theorem pcs_nil (k : UInt8) : pcs k [] = [[k]] := rfl
theorem pcs_length (k : UInt8) (ls : List (List UInt8)) : (pcs k ls).length = 1 + 2 * ls.length := by
  unfold pcs
  induction ls with
  | nil => rfl
  | cons l ls ih => simp only [List.map_cons, List.flatten_cons, List.length_cons, List.length_append, List.length_nil] at ih ⊢; omega
theorem pcs_take_succ (k : UInt8) (ls : List (List UInt8)) (j : Nat) (h : j < ls.length) : pcs k (ls.take (j + 1)) = pcs k (ls.take j) ++ [be 4 (ls[j].length % 4294967296), ls[j]] := by
  unfold pcs
  rw [List.take_succ_eq_append_getElem h, List.map_append, List.flatten_append]
  simp
theorem pcs_flat (k : UInt8) (ls : List (List UInt8)) : (pcs k ls).flatten = tagB k ls := by
  unfold pcs tagB partB
  simp only [List.flatten_cons, List.singleton_append, List.cons.injEq, true_and]
  induction ls with
  | nil => rfl
  | cons l ls ih => simp only [List.map_cons, List.flatten_cons, List.flatten_append, List.flatten_nil, List.append_nil, ih, List.append_assoc]

theorem part1 {EB : TypeId} {w : World} {B : Nat} {v : Option Addr × Nat} {l : List UInt8} (h : Part EB w B v l) : ∀ (j : Nat) (u : Option Addr × Nat) (m : List UInt8), [v][j]? = some u → [l][j]? = some m → Part EB w B u m := by
  intro j u m hu hm
  rcases j with _ | j
  · simp at hu hm
    subst hu hm
    exact h
  · simp at hm
theorem part2 {EB : TypeId} {w : World} {B : Nat} {v v2 : Option Addr × Nat} {l l2 : List UInt8} (h : Part EB w B v l) (h2 : Part EB w B v2 l2) : ∀ (j : Nat) (u : Option Addr × Nat) (m : List UInt8), [v, v2][j]? = some u → [l, l2][j]? = some m → Part EB w B u m := by
  intro j u m hu hm
  rcases j with _ | _ | j
  · simp at hu hm
    subst hu hm
    exact h
  · simp at hu hm
    subst hu hm
    exact h2
  · simp at hm

set_option maxHeartbeats 1600000 in
theorem pieces_any (k : UInt8) (A : Option Addr) (c n : Nat) (ls : List (List UInt8)) (w : World) (hr : Rds w A ls) (hn : n = ls.length) (hc : ls.length ≤ 1000000) :
    Calls Try.prog 18 #[.int .u8 (k.toNat : Int), .slice A n c] w fun r w' => ∃ A' c', r = .returned (.slice A' (pcs k ls).length c') ∧ OwnS 22 5 w' w.heap.size A' c' (pcs k ls) ∧ Below w.heap.size w w' := by
  subst hn
  obtain ⟨i0, hi0, hz0, hz1, hz2⟩ := info_parts tInfoSl
  go_enter Try.func18, Try.ntmps18
  have one : ∀ (g : Nat) (v : Value) (w : World), w.heap.size = g → ∀ (j : Nat) (u : Value), [v][j]? = some u → (w.alloc (.cells #[v] 22)).cell? ⟨g, j, none⟩ = some u := by
    intro g v w hg j u hu
    subst hg
    rw [cell_of_row _ _ _ _ _ _ (heap_alloc_new w _)]
    simpa using hu
  have two : ∀ (g : Nat) (v1 v2 : Value) (w : World), w.heap.size = g → ∀ (j : Nat) (u : Value), [v1, v2][j]? = some u → (w.alloc (.cells #[v1, v2] 22)).cell? ⟨g, j, none⟩ = some u := by
    intro g v1 v2 w hg j u hu
    subst hg
    rw [cell_of_row _ _ _ _ _ _ (heap_alloc_new w _)]
    simpa using hu
  go_wp2_with (first
    | (at_make; refine wpList_make_own _ rfl _ _ 24 rfl w.heap.size 22 i0 (.slice none 0 0) 1 tUnderSls hi0 hz0 hz1 .i64 .i64 _ (1 + 2 * ls.length) rfl rfl (by omega) (by rw [hz2]; omega) (by unfold maxLen; omega) (Nat.le_refl _) ?_; intro w1 ho1 hg1; have O1 : OwnS 22 5 w1 w.heap.size (some ⟨w.heap.size, 0, none⟩) (1 + 2 * ls.length) [] := ⟨[], rfl, ho1, fun j v l h => by simp at h⟩; have W1 : Below w.heap.size w w1 := (Below.refl _ w).grown hg1 (Nat.le_refl _) (by intro k hk; cases hk); clear ho1 hg1)
    | (at_builtin; refine wpList_appS tUnderSls tInfoSl tNeSl rfl (.tmp 13) (.tmp 16) rfl w.heap.size _ 0 1 _ _ (w1.heap.size + 1) [] [[k]] [(some ⟨w1.heap.size, 0, none⟩, 1)] rfl rfl rfl rfl ((O1.alloc _).alloc _) rfl (part1 ((Part.own (v := (some ⟨w1.heap.size, 0, none⟩, 1)) (l := [k]) (Own.of_block (heap_alloc_new w1 _) W1.size (by simp [maxLen]))).bel (ext_alloc _ _))) (one _ _ _ (by simp)) (by simp) (by have := W1.size; simp; omega) ?_; intro A2 c2 w2 ho2 hb2))
  replace hb2 : Below w.heap.size w w2 := W1.trans (((((Below.refl w.heap.size w1).alloc W1.size _).alloc (by have := W1.size; simp; omega) _)).trans hb2)
  clear O1 W1
  go_loopw [5, 20] (fun v i wr => ∃ (j : Nat) (A' : Option Addr) (c' : Nat), j ≤ ls.length ∧ i = .int .i64 j ∧ v = .slice A' (pcs k (ls.take j)).length c' ∧ OwnS 22 5 wr w.heap.size A' c' (pcs k (ls.take j)) ∧ Below w.heap.size w wr) (fun _ i _ => ls.length - (intOf i).toNat)
  case atStart => exact ⟨0, A2, c2, Nat.zero_le _, rfl, by rw [List.take_zero]; rfl, by rw [List.take_zero]; exact ho2, hb2⟩
  case round =>
    obtain ⟨j, A', c', hj, rfl, rfl, ho, hb⟩ := hrel
    have hx := pcs_length k (ls.take j)
    rw [List.length_take, Nat.min_eq_left hj] at hx
    by_cases hlt : j < ls.length
    · obtain ⟨b, o, rfl, hcc⟩ := hr (by omega)
      obtain ⟨A3, c3, hcell0, hr0, hc3, hm3⟩ := hcc j _ (List.getElem?_eq_getElem hlt)
      have hP : Hid (Part 5 wr w.heap.size (A3, c3) ls[j]) := (Part.old hr0 hc3 hm3 (Nat.le_refl _)).bel hb
      have hcell := (hb.cell (p := ⟨b, o + j, none⟩) (World.block_lt_of_cell? _ _ hcell0)).trans hcell0
      clear hcell0 hr0 hc3 hm3
      have E := hid (pcs_take_succ k ls j hlt)
      generalize hy : pcs k (ls.take (j + 1)) = y at *
      replace hy := hid hy
      generalize pcs k (ls.take j) = x at *
      generalize ls[j] = z at *
      clear hcc hr hb2 ho2
      have hbs := hb.size
      replace hx := hid hx
      go_wp2_with (first
        | (go_at_call 23; refine (count_any A3 z.length c3 z _ rfl).mono ?_; rintro e w3 ⟨A4, c4, rfl, ho4, hb4⟩; replace ho4 := hid ho4; generalize be 4 (z.length % 4294967296) = q at *)
        | (at_builtin; refine wpList_appS tUnderSls tInfoSl tNeSl rfl (.tmp 24) (.tmp 28) rfl w.heap.size A' x.length 2 c' _ w3.heap.size x [q, z] [(A4, c4), (A3, c3)] rfl rfl rfl rfl ((ho.bel hb4).alloc _) rfl (part2 (Part.own (v := (A4, c4)) ((ho4.out.base hbs).alloc _)) ((hP.out.bel hb4).bel (ext_alloc _ _))) (two _ _ _ _ rfl) (by have := hx.out; simp; omega) (by have := hb4.size; simp; omega) ?_; intro A5 c5 w5 ho5 hb5; rw [← E.out] at ho5 ⊢))
      go_roundw
      case rel => rw [← hy.out] at ho5 ⊢; exact ⟨j + 1, A5, c5, by omega, by go_num, rfl, ho5, (hb.trans (hb4.mono hbs)).trans (((Below.refl _ w3).alloc (by have := hb4.size; omega) _).trans hb5)⟩
      case measure => simp [intOf]; omega
    · obtain rfl : j = ls.length := by omega
      rw [List.take_length] at ho ⊢
      generalize hy : pcs k ls = x at *
      replace hy := hid hy
      go_wp2
      go_ret
      rw [hy.out]
      exact ⟨_, _, rfl, ho, hb⟩

/-! ### Bytes -/
theorem pcs_one (k : UInt8) (ls : List (List UInt8)) : (pcs k ls).length = 1 → (pcs k ls).flatten ≠ [] := by
  intro _ h
  rw [pcs_flat] at h
  cases h
theorem TBytes_any (k : UInt8) (A : Option Addr) (c n : Nat) (ls : List (List UInt8)) (w : World) (hr : Rds w A ls) (hn : n = ls.length) (hc : ls.length ≤ 1000000) (hl : (tagB k ls).length ≤ 1000000) :
    Calls Try.prog 13 #[.int .u8 (k.toNat : Int), .slice A n c] w fun r w' => ∃ A' c', r = .returned (.slice A' (tagB k ls).length c') ∧ Frs w' w.heap.size A' c' (tagB k ls) ∧ Below w.heap.size w w' := by
  subst hn
  have hp := pcs_length k ls
  have hf := hid (pcs_flat k ls)
  have h1 := hid (pcs_one k ls)
  go_enter Try.func13, Try.ntmps13
  go_wp2_with fail
  refine (pieces_any k A c ls.length ls _ hr rfl hc).mono ?_
  rintro e w1 ⟨A1, c1, rfl, ho1, hb1⟩
  have r1 := ho1.rds
  have q1 := ho1.cap
  clear ho1
  generalize pcs k ls = x at *
  replace hp := hid hp
  go_wp2_with fail
  refine (Join_any A1 x.length c1 x _ r1 rfl (by have := hp.out; omega) h1.out q1.1 (by have := hp.out; omega) (by rw [hf.out]; omega)).mono ?_
  rintro e w2 ⟨A2, c2, rfl, ho2, hb2⟩
  rw [hf.out] at ho2 ⊢
  go_wp2
  go_ret
  obtain ⟨g, cap, zs, hv, hB, r⟩ := ho2
  exact ⟨_, _, rfl, ⟨g, cap, zs, hv, Nat.le_trans hb1.size hB, r⟩, ext_trans hb1 hb2⟩
end Go.Proofs.Ytliahdlllmnkkaa
