/-
 Texts laid together: NumDig, NumSize, NumPut, OwnL, OwnS.
-/
import Derived.Test.YtmjocmogfckmmaaBits
import Derived.Test.YtmjocmogfckmmaaBy
set_option maxRecDepth 100000
set_option linter.unusedVariables false
set_option linter.unusedSimpArgs false
namespace Go.Proofs.Ytmjocmogfckmmaa
/- (NumDig)
 Contracts of package num: digits.
-/
section
open Go.RowKit

theorem shr_byte (n k : Nat) : Value.int .u8 ((n : Int) / 2 ^ (8 * k) % 256) = bv (UInt8.ofNat (n / 256 ^ k % 256)) := by
 have e : (2 : Int) ^ (8 * k) = ((256 ^ k : Nat) : Int) := by
  rw [Int.pow_mul]; simp
 have e2 : ((n : Int) / 2 ^ (8 * k) % 256) = ((n / 256 ^ k % 256 : Nat) : Int) := by rw [e]; simp
 rw [e2]
 unfold bv
 congr 1
 simp

set_option maxHeartbeats 400000 in
theorem digits_any (n : Nat) (size : Nat) (w : World) (h1 : 1 ≤ size) (h8 : size ≤ 8) (hn : n < 18446744073709551616) :
  Calls Try.prog 80 #[.int .u64 (n : Int), .int .i64 (size : Int)] w fun e w' => ∃ A c, e = .returned (.slice A size c) ∧ Own 5 w' w.heap.size A c (be size n) ∧ Below w.heap.size w w' := by
 obtain ⟨i0, hi0, hz0, hz1, hz2⟩ := info_parts infoU8
 go_enter Try.func80, Try.ntmps80
 go_wp2_with (at_make; refine wpList_make_full _ rfl _ _ 41 rfl w.heap.size 5 i0 (.int .u8 0) 1 Try.underlying41 hi0 hz0 hz1 _ _ _ _ size rfl rfl rfl rfl (by rw [hz2]; omega) (by unfold maxLen; omega) (Nat.le_refl _) ?_; intro w1 hown1 hgrow1)
 go_loopw [10] (fun i wr => ∃ k : Nat, k ≤ size ∧ i = .int .i64 k ∧ Below w.heap.size w wr ∧ wr.heap[w.heap.size]? = some (.cells ((dcells n size k).map bv).toArray 5 (0, 0))) (fun i _ => size - (intOf i).toNat)
 case atStart =>
  refine ⟨0, Nat.zero_le _, rfl, (Below.refl _ _).grown hgrow1 (Nat.le_refl _) (by simp), ?_⟩
  rw [dcells_zero]
  exact made_block hown1
 case round =>
  obtain ⟨k, hk, rfl, hb, hg⟩ := hrel
  by_cases hlt : k < size
  ·have hc := block_bcell hg (size - 1 - k) (by rw [dcells_len _ _ _ hk]; omega)
   have hf := block_frozen hg (size - 1 - k)
   go_wp2
   go_roundw
   case rel =>
    refine ⟨k + 1, by omega, by go_num, hb.setCell (Nat.le_refl _) _, ?_⟩
    rw [shr_byte, ← dcells_step _ _ _ hlt]
    exact block_bset hg _ _
   case measure => simp [intOf]; omega
  ·obtain rfl : k = size := by omega
   rw [dcells_all] at hg
   go_wp2
   go_ret
   have ho := Own.of_block (B := w.heap.size) hg (Nat.le_refl _) (by rw [be_length]; unfold maxLen; omega)
   rw [be_length] at ho
   exact ⟨_, _, rfl, ho, hb⟩
end

/- (NumSize)
 Contracts of package num: isSize.
-/
section
open Go.RowKit

theorem isSize_yes (k : Int) (w : World) (h1 : 1 ≤ k) (h8 : k ≤ 8) :
  Calls Try.prog 69 #[.int .i64 k] w fun e w' => e = .returned (.bool true) ∧ w = w' := by
 go_enter Try.func69, Try.ntmps69
 go_wp2
 go_ret
 exact ⟨rfl, rfl⟩

theorem isSize_no (k : Int) (w : World) (h : k < 1 ∨ 8 < k) :
  Calls Try.prog 69 #[.int .i64 k] w fun e w' => e = .returned (.bool false) ∧ w = w' := by
 rcases h with h | h
 ·go_enter Try.func69, Try.ntmps69
  go_wp2
  go_ret
  exact ⟨rfl, rfl⟩
 ·have h1 : 1 ≤ k := by omega
  have hd : decide (k ≤ 8) = false := by rw [decide_eq_false_iff_not]; omega
  go_enter Try.func69, Try.ntmps69
  go_wp2
  go_ret
  exact ⟨rfl, rfl⟩
end

/- (NumPut)
 Contracts of package num: Put.
-/
section
open Go.RowKit

theorem shr_zero (n k : Nat) (h8 : k ≤ 8) (h : n < 256 ^ k) : ((n : Int) / 2 ^ (8 * k) != 0) = false := by
 have e : (2 : Int) ^ (8 * k) = ((256 ^ k : Nat) : Int) := by rw [Int.pow_mul]; simp
 rw [e, bne_eq_false_iff_eq]
 have h2 : n / 256 ^ k = 0 := Nat.div_eq_of_lt h
 rw [← Int.natCast_ediv, h2]
 rfl

theorem shr_pos (n k : Nat) (h : ¬ n < 256 ^ k) : ((n : Int) / 2 ^ (8 * k) != 0) = true := by
 have e : (2 : Int) ^ (8 * k) = ((256 ^ k : Nat) : Int) := by rw [Int.pow_mul]; simp
 rw [e]
 have h2 : 0 < n / 256 ^ k := Nat.div_pos (by omega) (Nat.pow_pos (by omega))
 rw [bne_iff_ne, ← Int.natCast_ediv]
 omega

theorem Put_any (n : Nat) (s : Int) (w : World) (hn : n < 18446744073709551616) :
  Calls Try.prog 56 #[.int .u64 (n : Int), .int .i64 s] w fun e w' => ∃ A c, e = .returned (.tuple #[.slice A (putB n s).length c, .int .i64 (putE n s)]) ∧ Own 5 w' w.heap.size A c (putB n s) ∧ Below w.heap.size w w' := by
 by_cases hs : 1 ≤ s ∧ s ≤ 8
 ·obtain ⟨k, rfl⟩ := Int.eq_ofNat_of_zero_le (show 0 ≤ s by omega)
  by_cases hk : n < 256 ^ k
  ·have e1 : putE n k = 0 := by simp only [putE]; rw [if_pos hs, if_pos (by simpa using hk)]
   have e2 : putB n k = be k n := by simp [putB, e1]
   rw [e1, e2, be_length]
   obtain ⟨h1, h8⟩ := hs
   have ht := shr_zero n k (by omega) hk
   clear e1 e2 hk
   go_enter Try.func56, Try.ntmps56
   go_wp2_with (first | (go_at_call 69; refine (isSize_yes _ _ (by omega) (by omega)).mono ?_; rintro e w' ⟨rfl, rfl⟩) | (go_at_call 80; refine (digits_any _ _ _ (by omega) (by omega) hn).mono ?_; rintro e w1 ⟨A, c, rfl, ho, hb⟩))
   go_ret2
   exact ⟨_, _, rfl, ho, hb⟩
  ·have e1 : putE n k = 4 := by simp only [putE]; rw [if_pos hs, if_neg (by simpa using hk)]
   have e2 : putB n k = [] := by simp [putB, e1]
   rw [e1, e2]
   obtain ⟨h1, h8⟩ := hs
   have ht := shr_pos n k hk
   clear e1 e2 hk
   go_enter Try.func56, Try.ntmps56
   go_wp2_with (first | (go_at_call 69; refine (isSize_yes _ _ (by omega) (by omega)).mono ?_; rintro e w' ⟨rfl, rfl⟩))
   go_ret2
   exact ⟨_, _, rfl, Own.nil _ _, Below.refl _ _⟩
 ·have e1 : putE n s = 2 := by simp only [putE]; rw [if_neg hs]
  have e2 : putB n s = [] := by simp [putB, e1]
  rw [e1, e2]
  have hs' : s < 1 ∨ 8 < s := by omega
  clear e1 e2 hs
  go_enter Try.func56, Try.ntmps56
  go_wp2_with (first | (go_at_call 69; refine (isSize_no _ _ hs').mono ?_; rintro e w' ⟨rfl, rfl⟩))
  go_ret2
  exact ⟨_, _, rfl, Own.nil _ _, Below.refl _ _⟩

/-! ### the same contracts with what they answer given by equations -/
theorem Put_is (n : Nat) (ni s : Int) (b : List UInt8) (e : Int) (w : World) (hni : ni = n) (hn : n < 18446744073709551616) (hb : putB n s = b) (he : putE n s = e) :
  Calls Try.prog 56 #[.int .u64 ni, .int .i64 s] w fun r w' => ∃ A c, r = .returned (.tuple #[.slice A b.length c, .int .i64 e]) ∧ Own 5 w' w.heap.size A c b ∧ Below w.heap.size w w' := by
 subst hni hb he
 exact Put_any n s w hn
end

/- (OwnL)
 Slices of slices of bytes that a call has made: the row, and each part in it. No program is named here.
-/
section
open Go.RowKit

def slv (x : (Option Addr × Nat) × List UInt8) : Value := .slice x.1.1 x.2.length x.1.2
/-- The slice '.slice A ls.length c' is the call's own row of slices (its block from B on), each the call's own bytes. EL, EB: the types of the elements of both. -/
def OwnL (EL EB : TypeId) (w : World) (B : Nat) (A : Option Addr) (c : Nat) (ls : List (List UInt8)) : Prop :=
 ∃ vs : List (Option Addr × Nat), vs.length = ls.length ∧ w.ownsRow B EL 1 (.slice A ls.length c) ls.length ((vs.zip ls).map slv) ∧
  ∀ (j : Nat) (v : Option Addr × Nat) (l : List UInt8), vs[j]? = some v → ls[j]? = some l → Own EB w B v.1 v.2 l

section
variable {P : Program} {S EL EB : TypeId} {w w' : World} {B : Nat} {A : Option Addr} {c : Nat} {ls : List (List UInt8)}
theorem OwnL.nil (w : World) (B : Nat) : OwnL EL EB w B none 0 [] := ⟨[], rfl, World.ownsRow_nil w B EL 1, fun j v l h => by simp at h⟩
theorem OwnL.cap (h : OwnL EL EB w B A c ls) : ls.length ≤ c ∧ c ≤ maxLen := by
 obtain ⟨vs, _, ⟨_, h2⟩, _⟩ := h
 rcases h2 with ⟨hv, h0⟩ | ⟨g, cap, cur, hv, _, _, hnc, hcm, _⟩
 ·injection hv with h1 h2 h3
  subst h3
  exact ⟨by omega, Nat.zero_le _⟩
 ·injection hv with h1 h2 h3
  subst h3
  exact ⟨hnc, hcm⟩
/-- A part's block is no row's. -/
theorem own_apart {A2 : Option Addr} {c2 n : Nat} {l : List UInt8} {xs : List Value} (hne : EB ≠ EL) (h : w.ownsRow B EL 1 (.slice A n c) n xs) (h2 : Own EB w B A2 c2 l) : ∀ a, A2 = some a → some a.block ≠ (Value.slice A n c).ownBlock := by
 intro a ha he
 rcases h.2 with ⟨hv, _⟩ | ⟨g, cap, cur, hv, _, hg, _⟩
 ·rw [hv] at he; cases he
 ·injection hv with hA _ _
  subst hA
  have he2 : a.block = g := by simpa [Value.ownBlock] using he
  rcases h2.2 with ⟨hv2, _⟩ | ⟨g2, cap2, cur2, hv2, _, hg2, _⟩
  ·injection hv2 with hA2 _ _
   rw [ha] at hA2; cases hA2
  ·injection hv2 with hA2 _ _
   rw [ha] at hA2
   injection hA2 with hA2
   subst hA2
   have he3 : g2 = g := he2
   subst he3
   rw [hg] at hg2
   injection hg2 with hg2
   injection hg2 with _ ht _
   exact hne ht.symm
theorem ownsRow_bel {xs : List Value} {n : Nat} (h : w.ownsRow B EL 1 (.slice A n c) n xs) (hb : Below w.heap.size w w') : w'.ownsRow B EL 1 (.slice A n c) n xs := by
 refine ⟨h.1, ?_⟩
 rcases h.2 with hn | ⟨g, cap, cur, hv, hbg, hgg, r⟩
 ·exact .inl hn
 ·exact .inr ⟨g, cap, cur, hv, hbg, (hb.block g (Array.getElem?_eq_some_iff.1 hgg).1).trans hgg, r⟩
theorem OwnL.bel (h : OwnL EL EB w B A c ls) (hb : Below w.heap.size w w') : OwnL EL EB w' B A c ls := by
 obtain ⟨vs, h1, h2, h3⟩ := h
 exact ⟨vs, h1, ownsRow_bel h2 hb, fun j v l hv hl => (h3 j v l hv hl).bel hb⟩
theorem OwnL.alloc (h : OwnL EL EB w B A c ls) (o : Obj) : OwnL EL EB (w.alloc o) B A c ls := h.bel (ext_alloc w o)

end
end

/- (OwnS)
 Rows of slices of bytes that a call has made, whose parts are the call's own or lay before: appending to such a row. No program is named here.
-/
section
open Go.RowKit

theorem grown_cell {w w' : World} {row : Option Nat} (hg : w.grownBy w' row) (p : Addr) (hp : p.block < w.heap.size) (hne : some p.block ≠ row) : w'.cell? p = w.cell? p :=
 World.cell?_of_block (hg.block p.block hp hne)

/-- A part: it reads as l; it lies below B, or is the call's own from B on. -/
structure Part (EB : TypeId) (w : World) (B : Nat) (v : Option Addr × Nat) (l : List UInt8) : Prop where
 rd : Rd w v.1 l
 le : l.length ≤ v.2
 max : v.2 ≤ maxLen
 at_ : (∀ a, 0 < l.length → v.1 = some a → a.block < B) ∨ Own EB w B v.1 v.2 l

section
variable {P : Program} {S EL EB : TypeId} {w w' : World} {B : Nat} {A : Option Addr} {c : Nat} {ls : List (List UInt8)} {v : Option Addr × Nat} {l : List UInt8}
theorem Part.bel (h : Part EB w B v l) (hb : Below w.heap.size w w') : Part EB w' B v l :=
 ⟨h.rd.bel hb, h.le, h.max, h.at_.elim .inl fun o => .inr (o.bel hb)⟩
theorem Part.own (h : Own EB w B v.1 v.2 l) : Part EB w B v l := ⟨h.rd, h.cap.1, h.cap.2, .inr h⟩
theorem Part.old (h : Rd w v.1 l) (h1 : l.length ≤ v.2) (h2 : v.2 ≤ maxLen) (hB : w.heap.size ≤ B) : Part EB w B v l := by
 refine ⟨h, h1, h2, .inl fun a h0 ha => ?_⟩
 obtain ⟨b, o, hA, hc⟩ := h h0
 rw [ha] at hA
 injection hA with hA
 subst hA
 have := World.block_lt_of_cell? _ _ (hc 0 _ (List.getElem?_eq_getElem h0))
 exact Nat.lt_of_lt_of_le this hB
/-- Behind a step on a row of slices it is still that part. -/
theorem Part.kept {n : Nat} {xs : List Value} (hne : EB ≠ EL) (h : Part EB w B v l) (hr : w.ownsRow B EL 1 (.slice A n c) n xs) (hg : w.grownBy w' (Value.slice A n c).ownBlock) : Part EB w' B v l := by
 rcases h.at_ with h1 | h1
 ·refine ⟨?_, h.le, h.max, .inl h1⟩
  intro h0
  obtain ⟨b, o, hA, hc⟩ := h.rd h0
  refine ⟨b, o, hA, fun j x hx => ?_⟩
  have h2 := hc j x hx
  rw [grown_cell hg _ (World.block_lt_of_cell? _ _ h2) ?_]
  ·exact h2
  ·intro he
   have h3 := h1 _ h0 hA
   have h4 := World.ownsRow.lt hr b he.symm
   have h5 : b < B := h3
   omega
 ·exact Part.own (h1.kept hg (own_apart hne hr h1))

def OwnS (EL EB : TypeId) (w : World) (B : Nat) (A : Option Addr) (c : Nat) (ls : List (List UInt8)) : Prop :=
 ∃ vs : List (Option Addr × Nat), vs.length = ls.length ∧ w.ownsRow B EL 1 (.slice A ls.length c) ls.length ((vs.zip ls).map slv) ∧
  ∀ (j : Nat) (v : Option Addr × Nat) (l : List UInt8), vs[j]? = some v → ls[j]? = some l → Part EB w B v l
theorem OwnS.bel (h : OwnS EL EB w B A c ls) (hb : Below w.heap.size w w') : OwnS EL EB w' B A c ls := by
 obtain ⟨vs, h1, h2, h3⟩ := h
 exact ⟨vs, h1, ownsRow_bel h2 hb, fun j v l hv hl => (h3 j v l hv hl).bel hb⟩
theorem OwnS.alloc (h : OwnS EL EB w B A c ls) (o : Obj) : OwnS EL EB (w.alloc o) B A c ls := h.bel (ext_alloc w o)
theorem OwnS.cap (h : OwnS EL EB w B A c ls) : ls.length ≤ c ∧ c ≤ maxLen := by
 obtain ⟨vs, _, ⟨_, h2⟩, _⟩ := h
 rcases h2 with ⟨hv, h0⟩ | ⟨g, cap, cur, hv, _, _, hnc, hcm, _⟩
 ·injection hv with h1 h2 h3
  subst h3
  exact ⟨by omega, Nat.zero_le _⟩
 ·injection hv with h1 h2 h3
  subst h3
  exact ⟨hnc, hcm⟩

end
end
end Go.Proofs.Ytmjocmogfckmmaa
