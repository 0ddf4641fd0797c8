/-
  The library's bytes.Clone at this program: the kit's contract over its closure, said in the words of XBy.
-/
import Derived.Shelf.Bytes.SlClone
import Derived.Test.YtiogdenlaelkbaaU8
namespace Go.Proofs.Ytiogdenlaelkbaa
open Go.RowKit Go.Shelf
set_option linter.unusedVariables false

def renK : Ren where
  f := fun x => match x with
    | 4 => 23
    | y => y
  t := fun x => match x with
    | 4 => 4
    | 5 => 5
    | 22 => 25
    | y => y
  g := fun x => x

theorem laysK : SlLaysK.n4 Try.prog renK where
  mixed := by kernel_rfl
  f4 := (by kernel_rfl : Try.prog.funcs[23]? = some (SlBodyK.n4 renK))
  t4 := Try.underlying4
  a4 := Try.isAgg4
  z4 := Try.sizeOf4
  v4 := Try.zeroValue4
  t22 := Try.underlying25
  a22 := Try.isAgg25
  z22 := Try.sizeOf25
  v22 := Try.zeroValue25
  t5 := Try.underlying5
  i5 := by kernel_rfl

/-! ### bytes.Clone -/
theorem clone_nil (n c : Nat) (w : World) : Calls Try.prog 23 #[.slice none n c] w fun e w' => e = .returned (.slice none 0 0) ∧ w' = w := Any.bytes_Clone_nil laysK n c w
theorem clone_at (a : Addr) (n c : Nat) (xs : List Int) (w : World) (hx : xs.length = n) (hbig : n ≤ 140737488355328) (hc : ∀ i, i < n → w.cell? (a.add i) = some (.int .u8 (xs.getD i 0))) :
    Calls Try.prog 23 #[.slice (some a) n c] w fun e w' => ∃ v', e = .returned v' ∧ w'.ownsRow w.heap.size 5 1 v' n (xs.map (Value.int .u8)) ∧ v' ≠ .slice none 0 0 ∧ Below w.heap.size w w' :=
  Any.bytes_Clone_at laysK a n c xs w hx hbig hc
theorem Clone_any (A : Option Addr) (n c : Nat) (l : List UInt8) (w : World) (hr : Rd w A l) (hn : n = l.length) (hl : l.length ≤ 1000000) :
    Calls Try.prog 23 #[.slice A n c] w fun e w' => ∃ A' c', e = .returned (.slice A' l.length c') ∧ Own 5 w' w.heap.size A' c' l ∧ Below w.heap.size w w' := by
  subst hn
  rcases A with _ | a
  · have h0 : l = [] := by
      rcases Nat.eq_zero_or_pos l.length with h0 | h0
      · exact List.eq_nil_of_length_eq_zero h0
      · obtain ⟨b, o, hA, _⟩ := hr h0
        cases hA
    subst h0
    refine (clone_nil 0 c w).mono ?_
    rintro e w' ⟨rfl, rfl⟩
    exact ⟨none, 0, rfl, Own.nil _ _, Below.refl _ _⟩
  · refine (clone_at a l.length c (l.map fun x => (x.toNat : Int)) w (by simp) (by omega) ?_).mono ?_
    · intro i hi
      obtain ⟨b, o, hA, hc⟩ := hr (by omega)
      injection hA with hA
      subst hA
      rw [Addr.add_lit, hc i _ (List.getElem?_eq_getElem hi)]
      simp [bv, List.getD, hi]
    · rintro e w' ⟨v', rfl, ho, hne, hb⟩
      have hm : (l.map fun x => (x.toNat : Int)).map (Value.int .u8) = l.map bv := by rw [List.map_map]; rfl
      rw [hm] at ho
      rcases ho.2 with ⟨rfl, h0⟩ | ⟨g, cap, cur, rfl, r⟩
      · exact absurd rfl hne
      · exact ⟨some ⟨g, 0, none⟩, cap, rfl, ho, hb⟩

end Go.Proofs.Ytiogdenlaelkbaa
