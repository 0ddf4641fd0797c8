/-
  Layer 8's examples: the chapter's proofs and their roots.
-/
import Derived.Test.YtfjkcdccnbggnaaDoorAlive08
import Derived.Test.YtfjkcdccnbggnaaDoorVfX
import Derived.Test.YtfjkcdccnbggnaaDoorTwoOf
import Derived.Test.YtfjkcdccnbggnaaDoorPfM
import Derived.Test.YtfjkcdccnbggnaaDoorBits
import Derived.Test.YtfjkcdccnbggnaaDoorDgB
namespace Go.Proofs.YtfjkcdccnbggnaaDoor
open Go.RowKit
set_option linter.unusedVariables false
set_option linter.unusedSimpArgs false
set_option maxRecDepth 100000

theorem row_heapV {α : Type} [Enc α] {F : Nat → Prop} {w : World} {x : α} {cs : List Value} {g : Nat} {E : TypeId} {fr : Nat × Nat} (h : Enc.rep F w x cs) (hg : w.heap[g]? = some (.cells cs.toArray E fr)) : Row (fun b => F b ∨ b = g) w (some ⟨g, 0, none⟩) [x] := fun _ =>
  ⟨g, 0, rfl, .inr rfl, (Array.getElem?_eq_some_iff.1 hg).1, fun j y hy => by
    rcases j with _ | j
    · injection hy with hy
      subst hy
      refine ⟨cs, Enc.mono h fun b hb _ => .inl hb, fun i v hv => ?_⟩
      rw [cell_of_row w g _ _ E fr hg, Nat.zero_mul, Nat.add_zero, Nat.zero_add, List.getElem?_toArray]
      exact hv
    · cases hy⟩
theorem built_pf4v (k : Dg) (e : UInt8) (v : List UInt8) (A : Option Addr) (c : Nat) (L : List Dg) (D : Option Addr) (d : Nat) : Tryd.prog.built 61 [(0, .agg (k.1.map bv).toArray), (1, bv e), (3, .slice A v.length c), (4, .slice D L.length d)] = some (pfC ⟨k, e, z0, v, L⟩ A c D d).toArray := by
  have hk : (k.1.map bv).length = 32 := by rw [List.length_map]; exact k.2
  have hz : (z0.1.map bv).length = 32 := by rw [List.length_map]; exact z0.2
  have c1 : (Value.agg (k.1.map bv).toArray).cells = (k.1.map bv).toArray := rfl
  have c2 : (Value.slice D L.length d).cells = #[Value.slice D L.length d] := rfl
  have c3 : (Value.slice A v.length c).cells = #[Value.slice A v.length c] := rfl
  have c4 : (bv e).cells = #[bv e] := rfl
  rw [built_places placesPf, fill_cons (off := 0) (by rw [c1, List.size_toArray, hk]; rfl) (by rw [c1, List.size_toArray, hk]; decide +kernel)]
  have e0 : lay zPf.cells.toList 0 (Value.agg (k.1.map bv).toArray).cells.toList = k.1.map bv ++ ([bv 0] ++ (z0.1.map bv ++ ([Value.slice none 0 0] ++ [Value.slice none 0 0]))) := by
    rw [zPf_list, c1]
    exact lay_mid [] (z0.1.map bv) _ (k.1.map bv) (by rw [hk, hz])
  rw [e0, fill_cons (off := 32) (by rw [c4]; rfl) (by rw [c4]; simp [hk, hz])]
  have e1 : lay (k.1.map bv ++ ([bv 0] ++ (z0.1.map bv ++ ([Value.slice none 0 0] ++ [Value.slice none 0 0])))) 32 (bv e).cells.toList = k.1.map bv ++ ([bv e] ++ (z0.1.map bv ++ ([Value.slice none 0 0] ++ [Value.slice none 0 0]))) := by
    rw [c4]
    have := lay_mid (k.1.map bv) [bv 0] (z0.1.map bv ++ ([Value.slice none 0 0] ++ [Value.slice none 0 0])) [bv e] rfl
    rw [hk] at this
    simpa using this
  simp only [List.toList_toArray]
  rw [e1, fill_cons (off := 65) (by rw [c3]; rfl) (by rw [c3]; simp [hk, hz])]
  have e2 : lay (k.1.map bv ++ ([bv e] ++ (z0.1.map bv ++ ([Value.slice none 0 0] ++ [Value.slice none 0 0])))) 65 (Value.slice A v.length c).cells.toList = k.1.map bv ++ ([bv e] ++ (z0.1.map bv ++ ([Value.slice A v.length c] ++ [Value.slice none 0 0]))) := by
    rw [c3]
    have := lay_mid (k.1.map bv ++ [bv e] ++ z0.1.map bv) [Value.slice none 0 0] [Value.slice none 0 0] [Value.slice A v.length c] rfl
    rw [show (k.1.map bv ++ [bv e] ++ z0.1.map bv).length = 65 by simp [hk, hz]] at this
    simpa using this
  simp only [List.toList_toArray]
  rw [e2, fill_cons (off := 66) (by rw [c2]; rfl) (by rw [c2]; simp [hk, hz])]
  have e3 : lay (k.1.map bv ++ ([bv e] ++ (z0.1.map bv ++ ([Value.slice A v.length c] ++ [Value.slice none 0 0])))) 66 (Value.slice D L.length d).cells.toList = pfC ⟨k, e, z0, v, L⟩ A c D d := by
    rw [c2]
    have := lay_mid (k.1.map bv ++ [bv e] ++ z0.1.map bv ++ [Value.slice A v.length c]) [Value.slice none 0 0] [] [Value.slice D L.length d] rfl
    rw [show (k.1.map bv ++ [bv e] ++ z0.1.map bv ++ [Value.slice A v.length c]).length = 66 by simp [hk, hz]] at this
    simp only [List.append_assoc, List.append_nil] at this
    rw [this]
    simp [pfC]
  simp only [List.toList_toArray]
  rw [e3, Instr.fill]
def dS : Dg := ⟨sha256 (tagB 9 []), shaLen _⟩
def dL (c x : UInt8) : Dg := ⟨sha256 (tagB 1 [(dfst c).1, [x]]), shaLen _⟩
def vA : Pf := ⟨dfst 3, 1, z0, [97], [dS]⟩
def vB : Pf := ⟨dfst 200, 1, z0, [97], [dS]⟩
def vC : Pf := ⟨z0, 3, z0, [], []⟩
theorem vA_may : mayF vA = true := by decide +kernel
theorem vB_may : mayF vB = true := by decide +kernel
theorem vC_may : mayF vC = false := by decide +kernel
theorem vA_root : (rootM vA).1 = sha256 (tagB 2 [(dL 3 97).1, dS.1]) := by decide +kernel
theorem vB_root : (rootM vB).1 = sha256 (tagB 2 [dS.1, (dL 200 97).1]) := by decide +kernel
theorem vC_fits : fitsF vC z0 = false := by unfold fitsF; rw [vC_may]; rfl
theorem built_vC : Tryd.prog.built 61 [(1, .int .u8 3)] = some (pfC vC none 0 none 0).toArray := by kernel_rfl
end Go.Proofs.YtfjkcdccnbggnaaDoor
