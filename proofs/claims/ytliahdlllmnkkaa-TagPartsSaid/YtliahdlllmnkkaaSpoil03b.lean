/-
  The third law file's 'spoil' over the parts that a call has answered: whichever blocks they lie in.
-/
import Derived.Test.YtliahdlllmnkkaaOwnL
import Derived.Test.YtliahdlllmnkkaaU8
import Derived.Deep.RegionWith
import Derived.IntWalk
namespace Go.Proofs.Ytliahdlllmnkkaa
open Go.RowKit
set_option linter.unusedVariables false

def U8blk (w : World) (g m : Nat) : Prop := ∃ cs : Array Value, w.heap[g]? = some (.cells cs 5 (0, 0)) ∧ ∀ j, j < m → ∃ n : Int, cs[j]? = some (.int .u8 n)

/-- 'spoil' writes over cells of one block; what was a byte stays one. -/
theorem spoil3_blk (g m c : Nat) (w : World) (ho : U8blk w g m) (hc : m ≤ c) (hcm : c ≤ 9223372036854775807) :
    Calls Try.prog 9 #[.slice (some ⟨g, 0, none⟩) m c] w fun e w' => e = .returned (.tuple #[]) ∧ w.grownBy w' (some g) ∧ ∀ k, U8blk w g k → U8blk w' g k := by
  obtain ⟨cs0, hg0, hcs0⟩ := ho
  go_enter Try.func9, Try.ntmps9
  go_wp2
  go_loopw [2] (fun i wr => ∃ k : Nat, k ≤ m ∧ i = .int .i64 k ∧ w.grownBy wr (some g) ∧ ∃ cs : Array Value, wr.heap[g]? = some (.cells cs 5 (0, 0)) ∧ ∀ j : Nat, (∃ n : Int, cs0[j]? = some (Value.int .u8 n)) → ∃ n : Int, cs[j]? = some (Value.int .u8 n)) (fun i _ => m - (intOf i).toNat)
  case atStart => exact ⟨0, Nat.zero_le _, rfl, World.grownBy.refl _ _, cs0, hg0, fun j hj => hj⟩
  case round =>
    obtain ⟨k, hk, rfl, hb, cs, hg2, hcs2⟩ := hrel
    by_cases hlt : k < m
    · obtain ⟨n, hn⟩ := hcs2 k (hcs0 k hlt)
      have hc := block_cell hg2 k
      rw [hn] at hc
      have hf := block_frozen hg2 k
      have Hg2 := hid hg2
      have Hcs2 := hid hcs2
      have Hcs0 := hid hcs0
      clear hn hg2 hcs2 hcs0
      go_wp2
      go_roundw
      case rel =>
        refine ⟨k + 1, by omega, by go_num, ?_, _, block_set Hg2.out _ _, fun j hj => ?_⟩
        · refine ⟨hb.os, hb.tape, hb.output, by simpa [World.setCell] using hb.size, fun i hi hne => (Below.heap_setCell _ _ _ i (fun e => hne (by rw [e]))).trans (hb.block i hi hne)⟩
        · rw [Array.getElem?_setIfInBounds]
          by_cases he : k = j
          · subst he
            obtain ⟨n2, hn2⟩ := Hcs2.out k hj
            have hsz : k < cs.size := (Array.getElem?_eq_some_iff.1 hn2).1
            exact ⟨_, by rw [if_pos rfl, if_pos hsz]⟩
          · rw [if_neg he]
            exact Hcs2.out j hj
      case measure => simp [intOf]; omega
    · obtain rfl : k = m := by omega
      go_wp2
      go_end0
      refine ⟨rfl, hb, fun q hq => ?_⟩
      obtain ⟨cs1, h1, h2⟩ := hq
      rw [hg0] at h1
      injection h1 with h1
      injection h1 with h1 _ _
      subst h1
      exact ⟨cs, hg2, fun j hj => hcs2 j (h2 j hj)⟩
theorem spoil3_none (A : Option Addr) (c : Nat) (w : World) :
    Calls Try.prog 9 #[.slice A 0 c] w fun e w' => e = .returned (.tuple #[]) ∧ w' = w := by
  go_enter Try.func9, Try.ntmps9
  go_wp2
  refine wp_loop_rounds 1 ?_
  rw [rounds_succ]
  go_wp2
  go_end0
  exact ⟨rfl, rfl⟩

/-! ### a list of answered parts -/
def Spo (w : World) (B gr : Nat) (vs : List (Option Addr × Nat)) (ls : List (List UInt8)) : Prop :=
  ∀ (j : Nat) (v : Option Addr × Nat) (l : List UInt8), vs[j]? = some v → ls[j]? = some l → w.cell? ⟨gr, j, none⟩ = some (.slice v.1 l.length v.2) ∧ l.length ≤ v.2 ∧ v.2 ≤ maxLen ∧
    (l.length = 0 ∨ ∃ g, v.1 = some ⟨g, 0, none⟩ ∧ B ≤ g ∧ g ≠ gr ∧ U8blk w g l.length)
theorem OwnL.spo {w : World} {B : Nat} {A : Option Addr} {c : Nat} {ls : List (List UInt8)} (h : OwnL 22 5 w B A c ls) (h0 : 0 < ls.length) : ∃ gr vs, A = some ⟨gr, 0, none⟩ ∧ B ≤ gr ∧ gr < w.heap.size ∧ vs.length = ls.length ∧ Spo w B gr vs ls := by
  have hrd := h.rds
  have hcap := h.cap
  obtain ⟨vs, h1, h2, h3⟩ := h
  rcases h2.2 with ⟨hv, hn⟩ | ⟨g, cap, cur, hv, hb, hg, hnc, _, hsz, ht⟩
  · omega
  · injection hv with hA _ _
    subst hA
    refine ⟨g, vs, rfl, hb, block_lt hg, h1, fun j v l hv hl => ?_⟩
    have hj := (List.getElem?_eq_some_iff.1 hl).1
    have ho := h3 j v l hv hl
    refine ⟨?_, ho.cap.1, ho.cap.2, ?_⟩
    · rw [cell_of_row w g j cur 22 (0, 0) hg]
      have h4 : (cur.toList.take (ls.length * 1))[j]? = ((vs.zip ls).map slv)[j]? := by rw [ht]
      rw [List.getElem?_take, if_pos (by omega), List.getElem?_map] at h4
      have hz : (vs.zip ls)[j]? = some (v, l) := by rw [List.getElem?_zip_eq_some]; exact ⟨hv, hl⟩
      rw [hz] at h4
      simpa [slv] using h4
    · rcases Nat.eq_zero_or_pos l.length with h0 | h0
      · exact .inl h0
      · obtain ⟨g2, cur2, hA2, hB2, hg2, hsz2, ht2⟩ := ho.form h0
        refine .inr ⟨g2, hA2, hB2, ?_, cur2, hg2, fun i hi => ?_⟩
        · intro e
          subst e
          rw [hg] at hg2
          injection hg2 with hg2
          injection hg2 with _ hne _
          exact absurd hne (by decide)
        · have h5 : (l.map bv)[i]? = some (bv l[i]) := by simp [hi]
          rw [← ht2, List.getElem?_take, if_pos hi] at h5
          exact ⟨l[i].toNat, by simpa [bv] using h5⟩
theorem Spo.bel {w w' : World} {B gr : Nat} {vs : List (Option Addr × Nat)} {ls : List (List UInt8)} (h : Spo w B gr vs ls) (hb : Below w.heap.size w w') : Spo w' B gr vs ls := by
  intro j v l hv hl
  obtain ⟨h1, h2, h3, h4⟩ := h j v l hv hl
  refine ⟨(hb.cell (World.block_lt_of_cell? _ _ h1)).trans h1, h2, h3, h4.imp id ?_⟩
  rintro ⟨g, k1, k2, k3, cs, k4, k5⟩
  exact ⟨g, k1, k2, k3, cs, (hb.block g (block_lt k4)).trans k4, k5⟩
theorem Spo.spoiled {w w' : World} {B gr g : Nat} {vs : List (Option Addr × Nat)} {ls : List (List UInt8)} (h : Spo w B gr vs ls) (hne : g ≠ gr) (hg : w.grownBy w' (some g)) (hk : ∀ k, U8blk w g k → U8blk w' g k) : Spo w' B gr vs ls := by
  intro j v l hv hl
  obtain ⟨h1, h2, h3, h4⟩ := h j v l hv hl
  refine ⟨hg.cell h1 (fun e => by injection e with e; exact hne e.symm), h2, h3, h4.imp id ?_⟩
  rintro ⟨g2, k1, k2, k3, k4⟩
  refine ⟨g2, k1, k2, k3, ?_⟩
  by_cases he : g2 = g
  · subst he
    exact hk _ k4
  · obtain ⟨cs, k5, k6⟩ := k4
    exact ⟨cs, (hg.block g2 (block_lt k5) (fun e => he (by injection e))).trans k5, k6⟩
end Go.Proofs.Ytliahdlllmnkkaa
