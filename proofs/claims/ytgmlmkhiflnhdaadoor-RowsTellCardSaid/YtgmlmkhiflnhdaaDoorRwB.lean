/-
  Contracts of the landed package rows: the iterator over a list's halves.
-/
import Derived.Test.YtgmlmkhiflnhdaaDoorRwA
import Derived.Test.YtgmlmkhiflnhdaaDoorRwQ
import Derived.Test.YtgmlmkhiflnhdaaDoorInW
namespace Go.Proofs.YtgmlmkhiflnhdaaDoor
open Go.RowKit Go.Shelf
set_option linter.unusedVariables false
set_option linter.unusedSimpArgs false
set_option maxRecDepth 100000
attribute [local go_sem] Oper.semAt_some

/-- What is yielded: a part of a list. -/
structure HItem where
  A : Option Addr
  c : Nat
  ls : List (List UInt8)
def HItem.encs (x : HItem) : Array Value := #[.slice x.A x.ls.length x.c]
def HGood (w : World) (x : HItem) : Prop := Rds w x.A x.ls ∧ x.ls.length ≤ x.c ∧ x.c ≤ maxLen
abbrev HItems (w : World) (ls : List (List UInt8)) : Type := { x : HItem // HGood w x ∧ x.ls.length < ls.length ∧ ∀ y ∈ x.ls, y ∈ ls }
set_option maxHeartbeats 2000000 in
theorem halves1_in (m l : Nat) (n₀ p : Nat) (Z : Nat → Prop) (hZ : ¬ Z p) (A : Option Addr) (c : Nat) (ls : List (List UInt8)) (w0 W : World) (hr : Rds w0 A ls) (h2 : 2 ≤ ls.length) (h256 : ls.length ≤ 256) (hc : ls.length ≤ c) (hm : c ≤ maxLen)
    (hp : W.heap[p]? = some (.cells #[.slice A ls.length c] 26 (0, 0)))
    (J Jx : List (HItems w0 ls) → World → Prop)
    (hY : ∀ m pre x W, J pre W → pre.length < 2 → YieldAt Fence.wide m Tryd.prog l (HItem.encs x.1) W fun e W' => (e = .returned (.bool true) ∧ J (pre ++ [x]) W' ∧ KeepA n₀ Z W W') ∨ (e = .returned (.bool false) ∧ Jx (pre ++ [x]) W'))
    (hj : J [] W) :
    CallsIn Fence.wide m Tryd.prog 45 #[.func (.yield l) #[] #[], .pointer (some ⟨p, 0, none⟩)] W fun e W' => (∃ v, e = .returned v) ∧
      ((∃ xs, xs.map (fun x => x.1.ls) = [ls.take (firstN ls.length), ls.drop (firstN ls.length)] ∧ J xs W') ∨ (∃ pre, True ∧ Jx pre W')) := by
  have f1 := firstN_pos ls.length
  have f2 := firstN_lt h2
  have ht : (ls.take (firstN ls.length)).length = firstN ls.length := by rw [List.length_take]; omega
  have hd : (ls.drop (firstN ls.length)).length = ls.length - firstN ls.length := List.length_drop
  have g1 : HGood w0 ⟨A, c, ls.take (firstN ls.length)⟩ ∧ (ls.take (firstN ls.length)).length < ls.length ∧ ∀ y ∈ ls.take (firstN ls.length), y ∈ ls := ⟨⟨hr.take _, by show (ls.take _).length ≤ c; omega, hm⟩, by omega, fun y h => List.take_subset _ _ h⟩
  have hcut := hr.cutA (firstN ls.length) c (by omega) hc
  obtain ⟨b, o, rfl, -⟩ := hr (by omega)
  have ea : cutA (some ⟨b, o, none⟩) c (firstN ls.length) 1 = some ⟨b, o + firstN ls.length, none⟩ := by unfold cutA; rw [if_neg (by omega)]; rw [Option.map_some, Addr.add_lit, Nat.mul_one]
  rw [ea] at hcut
  have g2 : HGood w0 ⟨some ⟨b, o + firstN ls.length, none⟩, c - firstN ls.length, ls.drop (firstN ls.length)⟩ ∧ (ls.drop (firstN ls.length)).length < ls.length ∧ ∀ y ∈ ls.drop (firstN ls.length), y ∈ ls := ⟨⟨hcut, by show (ls.drop _).length ≤ c - _; omega, by show c - _ ≤ maxLen; omega⟩, by omega, fun y h => List.drop_subset _ _ h⟩
  have hF := hid (fun W => PRwLeft_any ls.length W h2 h256)
  have y1 := fun m => hY m [] ⟨_, g1⟩ W hj (by simp)
  have y2 := fun m W' (h : J [⟨_, g1⟩] W') => hY m [⟨_, g1⟩] ⟨_, g2⟩ W' h (by simp)
  have hres : ∀ W', J [⟨_, g1⟩, ⟨_, g2⟩] W' → ∃ xs : List (HItems w0 ls), xs.map (fun x => x.1.ls) = [ls.take (firstN ls.length), ls.drop (firstN ls.length)] ∧ J xs W' := fun W' h => ⟨_, rfl, h⟩
  replace hres := hid hres
  have y1' : Hid (∀ m, YieldAt Fence.wide m Tryd.prog l #[.slice (some ⟨b, o, none⟩) (firstN ls.length) c] W fun e W' => (e = .returned (.bool true) ∧ J [⟨_, g1⟩] W' ∧ KeepA n₀ Z W W') ∨ (e = .returned (.bool false) ∧ Jx [⟨_, g1⟩] W')) := hid (fun m => by have := y1 m; rw [show HItem.encs ⟨some ⟨b, o, none⟩, c, ls.take (firstN ls.length)⟩ = #[.slice (some ⟨b, o, none⟩) (firstN ls.length) c] from by unfold HItem.encs; rw [ht]] at this; exact this)
  have y2' : Hid (∀ m W', J [⟨_, g1⟩] W' → YieldAt Fence.wide m Tryd.prog l #[.slice (some ⟨b, o + firstN ls.length, none⟩) (ls.length - firstN ls.length) (c - firstN ls.length)] W' fun e W2 => (e = .returned (.bool true) ∧ J [⟨_, g1⟩, ⟨_, g2⟩] W2 ∧ KeepA n₀ Z W' W2) ∨ (e = .returned (.bool false) ∧ Jx [⟨_, g1⟩, ⟨_, g2⟩] W2)) := hid (fun m W' h => by have := y2 m W' h; rw [show HItem.encs ⟨some ⟨b, o + firstN ls.length, none⟩, c - firstN ls.length, ls.drop (firstN ls.length)⟩ = #[.slice (some ⟨b, o + firstN ls.length, none⟩) (ls.length - firstN ls.length) (c - firstN ls.length)] from by unfold HItem.encs; rw [hd]] at this; exact this)
  clear y1 y2 hY ht hd ea
  generalize (⟨_, g1⟩ : HItems w0 ls) = x1 at *
  generalize (⟨_, g2⟩ : HItems w0 ls) = x2 at *
  clear g1 g2 hcut
  have cp := block_cell hp 0
  replace cp : W.cell? ⟨p, 0, none⟩ = some (.slice (some ⟨b, o, none⟩) ls.length c) := cp
  have hc1 : c ≠ firstN ls.length := by omega
  generalize firstN ls.length = fn at *
  refine callsIn_of_wp Tryd.func45 rfl trivial ?_ rfl
  simp only [Tryd.ntmps45, List.size_toArray, List.length_cons, List.length_nil, Nat.reduceAdd, Nat.reduceSub, Array.replicate_succ, Array.replicate_zero, List.push_toArray, List.append_toArray, List.nil_append, List.cons_append]
  gi_wp2_with fail
  refine ⟨trivial, fun h => (by cases h), callsIn_wide.2 ((hF.out _).mono ?_)⟩
  rintro e w1 ⟨rfl, rfl⟩
  obtain ⟨fn1, tmps1, assign1, body1, hy1, hR1⟩ := y1'.out (m - 1)
  gi_wp2
  refine ⟨fun h => (by cases h), hR1.mono ?_⟩
  rintro e W3 (⟨rfl, hJ3, hk3⟩ | ⟨rfl, hJx3⟩)
  · have cq := (World.cell?_of_block (a := ⟨p, 0, none⟩) (hk3.2 p _ _ _ hp hZ)).trans cp
    obtain ⟨fn2, tmps2, assign2, body2, hy2, hR2⟩ := y2'.out (m - 1) _ hJ3
    gi_wp2
    refine ⟨fun h => (by cases h), hR2.mono ?_⟩
    rintro e W4 (⟨rfl, hJ4, hk4⟩ | ⟨rfl, hJx4⟩)
    · gi_wp2
      go_end0
      exact ⟨⟨_, rfl⟩, .inl (hres.out _ hJ4)⟩
    · gi_wp2
      go_end0
      exact ⟨⟨_, rfl⟩, .inr ⟨_, trivial, hJx4⟩⟩
  · gi_wp2
    go_end0
    exact ⟨⟨_, rfl⟩, .inr ⟨_, trivial, hJx3⟩⟩
end Go.Proofs.YtgmlmkhiflnhdaaDoor
