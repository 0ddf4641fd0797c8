/-
  Layer 3's law: the chapter's first examples.
-/
import Derived.Test.YtliahdlllmnkkaaDoorTag
import Derived.Test.YtliahdlllmnkkaaDoorRef03a
import Derived.Test.YtliahdlllmnkkaaDoorTagP
import Derived.Test.YtliahdlllmnkkaaDoorOwnL
import Derived.Test.YtliahdlllmnkkaaDoorLit
namespace Go.Proofs.YtliahdlllmnkkaaDoor
open Go.RowKit
set_option linter.unusedVariables false

set_option maxRecDepth 100000 in
theorem alive3_any (w : World) : Calls Tryd.prog 7 #[] w fun r w' => r = .returned (.bool true) ∧ Below w.heap.size w w' := by
  have kc := conv_lit
  have kc2 := conv_lit2
  obtain ⟨t, ht⟩ : ∃ t, t = tagB 7 [[97, 98], []] := ⟨_, rfl⟩
  have et : t = [7, 0, 0, 0, 2, 97, 98, 0, 0, 0, 0] := by rw [ht]; decide
  obtain ⟨k1, k2, k3⟩ := tag_back 7 [[97, 98], []] (by intro l hl; simp at hl; rcases hl with rfl | rfl <;> simp)
  rw [← ht] at k1 k2 k3
  have lt : t.length = 11 := by rw [et]; rfl
  replace ht := hid ht
  replace et := hid et
  replace lt := hid lt
  replace k1 := hid k1
  replace k2 := hid k2
  replace k3 := hid k3
  go_enter Tryd.func7, Tryd.ntmps7
  go_wp2_with fail
  refine (TBytes_any 7 _ _ _ [[97, 98], []] _ ?_ rfl (by simp) (by decide)).mono ?_
  · exact Rds.lit _ _ [(some ⟨w.heap.size, 0, none⟩, 2, [97, 98]), (none, 0, [])] _ _ (by simp) rfl (by intro x hx; simp only [List.mem_cons, List.not_mem_nil, or_false] at hx; rcases hx with rfl | rfl; exact ⟨Rd.litf _ _ _ _ _ _ rfl rfl, by simp, (by decide : 2 ≤ maxLen)⟩; exact ⟨fun hn => absurd hn (by simp), Nat.le_refl _, Nat.zero_le _⟩)
  rintro e w1 ⟨A1, c1, rfl, ho1, hb1⟩
  rw [← ht.out] at ho1 ⊢
  have W1 : Below w.heap.size w w1 := by (repeat (first | exact Below.refl _ _ | assumption | refine ext_trans ?_ (by assumption) | refine ext_trans ?_ (ext_alloc _ _)))
  have r1 := hid ho1.rd
  have q1 := ho1.cap
  clear ho1 hb1
  have q1b : c1 ≤ 9223372036854775807 := by have := q1.2; unfold maxLen at this; omega
  go_wp2_with fail
  refine (TParts_any A1 c1 _ t _ r1.out rfl (by rw [lt.out]; omega) q1.1 q1b).mono ?_
  rintro e w2 ⟨A2, c2, rfl, ho2, hb2⟩
  rw [k1.out, k2.out, k3.out] at *
  have W2 := ext_trans W1 hb2
  have r1b := hid (r1.out.bel hb2)
  have q2 := ho2.cap
  have l2 := hid ho2.rds
  clear hb2 ho2 W1
  go_wp2_with fail
  refine (Same_yes _ _ _ _ _ _ t [7, 0, 0, 0, 2, 97, 98, 0, 0, 0, 0] _ (r1b.out.alloc _) (Rd.lit_ _ _ _ _ _ rfl rfl) rfl rfl et.out).mono ?_
  rintro e w3 ⟨rfl, rfl⟩
  have q2b : c2 ≤ 9223372036854775807 := by have := q2.2; unfold maxLen at this; omega
  go_wp2_with fail
  refine (SameL_any _ _ _ _ _ _ [[97, 98], []] [[97, 98], []] _ (((l2.out.alloc _).alloc _).alloc _) ?_ rfl rfl (by decide) (by decide)).mono ?_
  · exact Rds.lit _ _ [(some ⟨w2.heap.size + 1, 0, none⟩, 2, [97, 98]), (none, 0, [])] _ _ (by simp) rfl (by intro x hx; simp only [List.mem_cons, List.not_mem_nil, or_false] at hx; rcases hx with rfl | rfl; exact ⟨Rd.litf _ _ _ _ _ _ (by simp) rfl, by simp, (by decide : 2 ≤ maxLen)⟩; exact ⟨fun hn => absurd hn (by simp), Nat.le_refl _, Nat.zero_le _⟩)
  rintro e w4 ⟨rfl, hb4⟩
  go_wp2_with fail
  go_ret
  exact ⟨rfl, by (repeat (first | exact Below.refl _ _ | assumption | refine ext_trans ?_ (by assumption) | refine ext_trans ?_ (ext_alloc _ _)))⟩
end Go.Proofs.YtliahdlllmnkkaaDoor
