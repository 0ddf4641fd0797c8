/-
  Layer 7's examples: proofs of the chapter's trees, and proofs as literals.
-/
import Derived.Test.YtfjkcdccnbggnaaDoorAlive07
namespace Go.Proofs.YtfjkcdccnbggnaaDoor
open Go.RowKit
set_option linter.unusedVariables false
set_option linter.unusedSimpArgs false
set_option maxRecDepth 100000

theorem side_3 (x s : Value) (w : World) (hx : x = .int .u8 3) (hs : s = .string (bstr [97])) (hT : Tab w) : Calls Tryd.prog 34 #[x, s] w fun e w' => ∃ A, e = .returned (.slice A 1 1) ∧ Row (fun b => w.heap.size ≤ b ∧ b < w'.heap.size) w' A [leafD 3 97] ∧ Below w.heap.size w w' := side_c 3 97 x s w hx hs hT
/-- The chapter's proofs. -/
def pA : Pf := ⟨dfst 4, 2, dfst 3, [97], [leafD 200 98]⟩
def pB : Pf := ⟨dfst 201, 2, dfst 200, [98], [leafD 3 97]⟩
def pC : Pf := ⟨dfst 3, 0, z0, [], []⟩
def pE : Pf := ⟨z0, 1, z0, [], []⟩
theorem two_make4 : makeF twoT (dfst 4) = pA := by decide +kernel
theorem two_make201 : makeF twoT (dfst 201) = pB := by decide +kernel
theorem nil_make3 : makeF ⟨[], 0⟩ (dfst 3) = pC := by decide +kernel
theorem told4 : toldF pA = false := by decide +kernel
theorem told0 : toldF pC = false := by decide +kernel
theorem may_e1 : mayF pE = false := by decide +kernel
theorem built_pfE : Tryd.prog.built 61 [(1, .int .u8 1)] = some (pfC ⟨z0, 1, z0, [], []⟩ none 0 none 0).toArray := by kernel_rfl
theorem built_pfK (k : Dg) : Tryd.prog.built 61 [(0, .agg (k.1.map bv).toArray)] = some (pfC ⟨k, 0, z0, [], []⟩ none 0 none 0).toArray := by
  have hk : (k.1.map bv).length = 32 := by rw [List.length_map]; exact k.2
  have hz : (z0.1.map bv).length = 32 := by rw [List.length_map]; exact z0.2
  have c1 : (Value.agg (k.1.map bv).toArray).cells = (k.1.map bv).toArray := rfl
  rw [built_places placesPf, fill_cons (off := 0) (by rw [c1, List.size_toArray, hk]; rfl) (by rw [c1, List.size_toArray, hk]; decide +kernel)]
  have e0 : lay zPf.cells.toList 0 (Value.agg (k.1.map bv).toArray).cells.toList = pfC ⟨k, 0, z0, [], []⟩ none 0 none 0 := by
    rw [zPf_list, c1]
    exact (lay_mid [] (z0.1.map bv) _ (k.1.map bv) (by rw [hk, hz])).trans (by simp [pfC, bv])
  rw [e0, Instr.fill]
theorem built_pf5 (k o : Dg) (e : UInt8) (v : List UInt8) (A : Option Addr) (c : Nat) (L : List Dg) (D : Option Addr) (d : Nat) : Tryd.prog.built 61 [(0, .agg (k.1.map bv).toArray), (1, bv e), (2, .agg (o.1.map bv).toArray), (3, .slice A v.length c), (4, .slice D L.length d)] = some (pfC ⟨k, e, o, v, L⟩ A c D d).toArray := by
  have hk : (k.1.map bv).length = 32 := by rw [List.length_map]; exact k.2
  have ho : (o.1.map bv).length = 32 := by rw [List.length_map]; exact o.2
  have hz : (z0.1.map bv).length = 32 := by rw [List.length_map]; exact z0.2
  have c1 : ∀ x : Dg, (Value.agg (x.1.map bv).toArray).cells = (x.1.map bv).toArray := fun _ => rfl
  have c2 : (Value.slice D L.length d).cells = #[Value.slice D L.length d] := rfl
  have c3 : (Value.slice A v.length c).cells = #[Value.slice A v.length c] := rfl
  have c4 : (bv e).cells = #[bv e] := rfl
  rw [built_places placesPf, fill_cons (off := 0) (by rw [c1, List.size_toArray, hk]; rfl) (by rw [c1, List.size_toArray, hk]; decide +kernel)]
  have e0 : lay zPf.cells.toList 0 (Value.agg (k.1.map bv).toArray).cells.toList = k.1.map bv ++ ([bv 0] ++ (z0.1.map bv ++ ([Value.slice none 0 0] ++ [Value.slice none 0 0]))) := by
    rw [zPf_list, c1]
    exact lay_mid [] (z0.1.map bv) _ (k.1.map bv) (by rw [hk, hz])
  rw [e0, fill_cons (off := 32) (by rw [c4]; rfl) (by rw [c4]; simp [hk, hz])]
  have e1 : lay (k.1.map bv ++ ([bv 0] ++ (z0.1.map bv ++ ([Value.slice none 0 0] ++ [Value.slice none 0 0])))) 32 (bv e).cells.toList = k.1.map bv ++ ([bv e] ++ (z0.1.map bv ++ ([Value.slice none 0 0] ++ [Value.slice none 0 0]))) := by
    rw [c4]
    have := lay_mid (k.1.map bv) [bv 0] (z0.1.map bv ++ ([Value.slice none 0 0] ++ [Value.slice none 0 0])) [bv e] rfl
    rw [hk] at this
    simpa using this
  simp only [List.toList_toArray]
  rw [e1, fill_cons (off := 33) (by rw [c1, List.size_toArray, ho]; rfl) (by rw [c1, List.size_toArray, ho]; simp [hk, hz])]
  have e15 : lay (k.1.map bv ++ ([bv e] ++ (z0.1.map bv ++ ([Value.slice none 0 0] ++ [Value.slice none 0 0])))) 33 (Value.agg (o.1.map bv).toArray).cells.toList = k.1.map bv ++ ([bv e] ++ (o.1.map bv ++ ([Value.slice none 0 0] ++ [Value.slice none 0 0]))) := by
    rw [c1]
    have := lay_mid (k.1.map bv ++ [bv e]) (z0.1.map bv) ([Value.slice none 0 0] ++ [Value.slice none 0 0]) (o.1.map bv) (by rw [ho, hz])
    rw [show (k.1.map bv ++ [bv e]).length = 33 by simp [hk]] at this
    simpa using this
  simp only [List.toList_toArray]
  rw [e15, fill_cons (off := 65) (by rw [c3]; rfl) (by rw [c3]; simp [hk, ho])]
  have e2 : lay (k.1.map bv ++ ([bv e] ++ (o.1.map bv ++ ([Value.slice none 0 0] ++ [Value.slice none 0 0])))) 65 (Value.slice A v.length c).cells.toList = k.1.map bv ++ ([bv e] ++ (o.1.map bv ++ ([Value.slice A v.length c] ++ [Value.slice none 0 0]))) := by
    rw [c3]
    have := lay_mid (k.1.map bv ++ [bv e] ++ o.1.map bv) [Value.slice none 0 0] [Value.slice none 0 0] [Value.slice A v.length c] rfl
    rw [show (k.1.map bv ++ [bv e] ++ o.1.map bv).length = 65 by simp [hk, ho]] at this
    simpa using this
  simp only [List.toList_toArray]
  rw [e2, fill_cons (off := 66) (by rw [c2]; rfl) (by rw [c2]; simp [hk, ho])]
  have e3 : lay (k.1.map bv ++ ([bv e] ++ (o.1.map bv ++ ([Value.slice A v.length c] ++ [Value.slice none 0 0])))) 66 (Value.slice D L.length d).cells.toList = pfC ⟨k, e, o, v, L⟩ A c D d := by
    rw [c2]
    have := lay_mid (k.1.map bv ++ [bv e] ++ o.1.map bv ++ [Value.slice A v.length c]) [Value.slice none 0 0] [] [Value.slice D L.length d] rfl
    rw [show (k.1.map bv ++ [bv e] ++ o.1.map bv ++ [Value.slice A v.length c]).length = 66 by simp [hk, ho]] at this
    simp only [List.append_assoc, List.append_nil] at this
    rw [this]
    simp [pfC]
  simp only [List.toList_toArray]
  rw [e3, Instr.fill]
end Go.Proofs.YtfjkcdccnbggnaaDoor
