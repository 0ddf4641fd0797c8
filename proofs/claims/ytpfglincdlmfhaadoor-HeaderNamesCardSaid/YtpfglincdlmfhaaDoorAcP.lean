/-
  Layer 10, plain: accounts, their bytes, states, totals. No program is named here.
-/
import Derived.Test.YtpfglincdlmfhaaDoorPlain
namespace Go.Proofs.YtpfglincdlmfhaaDoor
open Go.RowKit
set_option linter.unusedVariables false

structure Ac where
  n : Nat
  b : Nat
  deriving DecidableEq
def ac0 : Ac := ⟨0, 0⟩
def Ac.ok (a : Ac) : Prop := a.n < 18446744073709551616 ∧ a.b < 18446744073709551616
theorem ac_ext {a c : Ac} (h1 : a.n = c.n) (h2 : a.b = c.b) : a = c := by cases a; cases c; simp_all
def acB (a : Ac) : List UInt8 := be 8 a.n ++ be 8 a.b
def acE (l : List UInt8) : Int := if l.length < 16 then 10 else if 16 < l.length then 11 else if num (l.take 8) = 0 ∧ num (l.drop 8) = 0 then 8 else 0
def acOf (l : List UInt8) : Ac := if acE l = 0 then ⟨num (l.take 8), num (l.drop 8)⟩ else ac0
theorem ac0_ok : ac0.ok := ⟨by decide, by decide⟩
theorem acE_len {l : List UInt8} (h : acE l = 0) : l.length = 16 := by
  unfold acE at h
  split at h
  · cases h
  · split at h
    · cases h
    · omega
theorem num_lt8 {l : List UInt8} (h : l.length = 8) : num l < 18446744073709551616 := by
  have := num_lt l
  rw [h] at this
  exact this
theorem acOf_ok (l : List UInt8) : (acOf l).ok := by
  unfold acOf
  split
  · rename_i h
    have hl := acE_len h
    exact ⟨num_lt8 (by rw [List.length_take, hl]; rfl), num_lt8 (by rw [List.length_drop, hl])⟩
  · exact ac0_ok
theorem acB_len (a : Ac) : (acB a).length = 16 := by unfold acB; rw [List.length_append, be_length, be_length]
theorem acB_parts {a : Ac} (h : a.ok) : num ((acB a).take 8) = a.n ∧ num ((acB a).drop 8) = a.b := by
  unfold acB
  rw [List.take_left' (be_length 8 a.n), List.drop_left' (be_length 8 a.n), num_be, num_be]
  exact ⟨Nat.mod_eq_of_lt h.1, Nat.mod_eq_of_lt h.2⟩
theorem acE_B {a : Ac} (h : a.ok) : acE (acB a) = if a = ac0 then 8 else 0 := by
  obtain ⟨h1, h2⟩ := acB_parts h
  unfold acE
  rw [acB_len, if_neg (by decide), if_neg (by decide), h1, h2]
  by_cases hz : a = ac0
  · rw [if_pos hz, if_pos ⟨congrArg (·.n) hz, congrArg (·.b) hz⟩]
  · rw [if_neg hz, if_neg fun q => hz (ac_ext q.1 q.2)]
theorem acOf_B {a : Ac} (h : a.ok) : acOf (acB a) = a := by
  obtain ⟨h1, h2⟩ := acB_parts h
  unfold acOf
  rw [acE_B h, h1, h2]
  by_cases hz : a = ac0
  · rw [if_pos hz, hz]; rfl
  · rw [if_neg hz]; rfl
theorem acOf_nz {l : List UInt8} (h : acE l = 0) : acOf l ≠ ac0 := fun q => by
  unfold acOf at q
  rw [if_pos h] at q
  have h1 := congrArg (·.n) q
  have h2 := congrArg (·.b) q
  unfold acE at h
  split at h
  · cases h
  · split at h
    · cases h
    · rw [if_pos ⟨h1, h2⟩] at h
      cases h
theorem acOf_no {l : List UInt8} (h : acE l ≠ 0) : acOf l = ac0 := by unfold acOf; rw [if_neg h]

/-! ### states -/
def heldP (ps : List Pr) : Bool := ps.all fun p => decide (acE p.v = 0)
theorem held_iff {ps : List Pr} : heldP ps = true ↔ ∀ p ∈ ps, acE p.v = 0 := by simp [heldP]
def inA (ps : List Pr) (k : Dg) : Ac := acOf (getV ps k)
def setP (ps : List Pr) (k : Dg) (a : Ac) : List Pr := if a = ac0 then withoutP ps k else withP ps k (acB a)
def totP (ps : List Pr) : Nat := (ps.map fun p => (acOf p.v).b).sum
theorem inA_ok (ps : List Pr) (k : Dg) : (inA ps k).ok := acOf_ok _
theorem acB_val (a : Ac) : valB (acB a) = true := by unfold valB; rw [acB_len]; rfl
theorem held_set {ps : List Pr} {k : Dg} {a : Ac} (h : heldP ps = true) (ha : a.ok) : heldP (setP ps k a) = true := by
  rw [held_iff] at h ⊢
  intro p hp
  unfold setP at hp
  split at hp
  · exact h p (List.filter_sublist.subset hp)
  · rename_i hz
    rcases with_mem.1 hp with rfl | ⟨hp, _⟩
    · show acE (acB a) = 0
      rw [acE_B ha, if_neg hz]
    · exact h p hp
theorem inA_none {ps : List Pr} {k : Dg} (h : hasP ps k = false) : inA ps k = ac0 := by
  unfold inA
  rw [getV_no h]
  exact acOf_no (by decide)
theorem hasP_without_self (ps : List Pr) (k : Dg) : hasP (withoutP ps k) k = false := by
  rw [hasP_none]
  intro p hp
  have := (List.mem_filter.1 hp).2
  simpa using this
theorem hasP_without_other {ps : List Pr} {k o : Dg} (hne : k ≠ o) : hasP (withoutP ps k) o = hasP ps o := by
  rw [Bool.eq_iff_iff, hasP_mem, hasP_mem]
  constructor
  · rintro ⟨p, hp, rfl⟩
    exact ⟨p, List.filter_sublist.subset hp, rfl⟩
  · rintro ⟨p, hp, rfl⟩
    exact ⟨p, List.mem_filter.2 ⟨hp, by simpa using fun q => hne q.symm⟩, rfl⟩
theorem getV_without_other {ps : List Pr} (hs : Srt ps) {k o : Dg} (hne : k ≠ o) : getV (withoutP ps k) o = getV ps o := by
  by_cases hh : hasP ps o = true
  · obtain ⟨p, hp, rfl⟩ := hasP_mem.1 hh
    rw [getV_mem hs hp]
    exact getV_mem (without_srt hs k) (List.mem_filter.2 ⟨hp, by simpa using fun q => hne q.symm⟩)
  · have hh := Bool.eq_false_iff.2 hh
    rw [getV_no hh, getV_no (by rw [hasP_without_other hne]; exact hh)]
theorem in_set_self {ps : List Pr} (hs : Srt ps) (k : Dg) {a : Ac} (ha : a.ok) : inA (setP ps k a) k = a := by
  unfold setP
  split
  · rename_i hz
    rw [hz]
    exact inA_none (hasP_without_self ps k)
  · unfold inA
    rw [getV_with_self hs]
    exact acOf_B ha
theorem in_set_other {ps : List Pr} (hs : Srt ps) {k o : Dg} (a : Ac) (hne : k ≠ o) : inA (setP ps k a) o = inA ps o := by
  unfold setP inA
  split
  · rw [getV_without_other hs hne]
  · rw [getV_with_other hs _ hne]
theorem has_set {ps : List Pr} (k : Dg) (a : Ac) : hasP (setP ps k a) k = decide (a ≠ ac0) := by
  unfold setP
  split
  · rename_i hz
    rw [hasP_without_self, hz]; rfl
  · rename_i hz
    rw [hasP_with, decide_eq_true rfl, Bool.true_or, decide_eq_true hz]
/-- What stands in a state has no zero account: whether a key is there. -/
theorem in_zero {ps : List Pr} (hs : Srt ps) (hh : heldP ps = true) (k : Dg) : inA ps k = ac0 ↔ hasP ps k = false := by
  constructor
  · intro h
    refine Bool.eq_false_iff.2 fun q => ?_
    obtain ⟨p, hp, rfl⟩ := hasP_mem.1 q
    unfold inA at h
    rw [getV_mem hs hp] at h
    exact acOf_nz (held_iff.1 hh p hp) h
  · exact inA_none

/-! ### totals -/
theorem tot_cons (p : Pr) (ps : List Pr) : totP (p :: ps) = (acOf p.v).b + totP ps := by simp [totP]
theorem tot_app (ps qs : List Pr) : totP (ps ++ qs) = totP ps + totP qs := by simp [totP]
theorem tot_without {ps : List Pr} (hs : Srt ps) (k : Dg) : totP (withoutP ps k) + (inA ps k).b = totP ps := by
  by_cases hh : hasP ps k = true
  · obtain ⟨hl, hk⟩ := (has_at hs k).1 hh
    rw [without_at hs hl hk]
    unfold inA
    rw [getV_at hs hl hk]
    have e : ps = ps.take (cnt ps k) ++ ps[cnt ps k] :: ps.drop (cnt ps k + 1) := by rw [List.getElem_cons_drop, List.take_append_drop]
    have e2 : totP ps = totP (ps.take (cnt ps k)) + ((acOf ps[cnt ps k].v).b + totP (ps.drop (cnt ps k + 1))) := by
      rw [← tot_cons, ← tot_app, ← e]
    rw [tot_app, e2]
    omega
  · have hh := Bool.eq_false_iff.2 hh
    rw [without_no hh, inA_none hh]
    rfl
theorem tot_with {ps : List Pr} (hs : Srt ps) (k : Dg) (v : List UInt8) : totP (withP ps k v) + (inA ps k).b = totP ps + (acOf v).b := by
  have e1 : totP (withP ps k v) = totP (withoutP ps k) + (acOf v).b := by
    unfold withP
    rw [tot_app, tot_cons]
    have e : totP (withoutP ps k) = totP ((withoutP ps k).take (cnt (withoutP ps k) k)) + totP ((withoutP ps k).drop (cnt (withoutP ps k) k)) := by rw [← tot_app, List.take_append_drop]
    rw [e]
    dsimp only
    omega
  have := tot_without hs k
  omega
/-- The total turns by what the account's balance does. -/
theorem tot_set {ps : List Pr} (hs : Srt ps) (k : Dg) {a : Ac} (ha : a.ok) : totP (setP ps k a) + (inA ps k).b = totP ps + a.b := by
  unfold setP
  split
  · rename_i hz
    rw [hz]
    exact tot_without hs k
  · rw [tot_with hs, acOf_B ha]
end Go.Proofs.YtpfglincdlmfhaaDoor
