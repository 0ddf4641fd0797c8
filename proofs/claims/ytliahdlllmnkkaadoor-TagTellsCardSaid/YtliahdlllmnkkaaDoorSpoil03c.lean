/-
  The third law file's 'spoil' over bytes that a call has made, told by their cells.
-/
import Derived.Test.YtliahdlllmnkkaaDoorShelf
import Derived.Deep.RegionWith
import Derived.IntWalk
namespace Go.Proofs.YtliahdlllmnkkaaDoor
open Go.RowKit
set_option linter.unusedVariables false

theorem Frs.bel {w w' : World} {B : Nat} {A : Option Addr} {c : Nat} {l : List UInt8} (h : Frs w B A c l) (hb : Below w.heap.size w w') : Frs w' B A c l := by
  obtain ⟨g, cap, zs, hv, hB, hlc, hcm, hz, hr, hbs, hc, hf⟩ := h
  refine ⟨g, cap, zs, hv, hB, hlc, hcm, hz, hr, hbs, fun i hi => ?_, fun i hi => ?_⟩
  · have h1 := hc i hi
    exact (hb.cell (World.block_lt_of_cell? _ _ h1)).trans h1
  · have h1 := World.block_lt_of_cell? _ _ (hc i hi)
    exact (World.frozen?_of_block (hb.block _ h1)).trans (hf i hi)
theorem Frs.only {w w' : World} {B : Nat} {A : Option Addr} {c : Nat} {l : List UInt8} (h : Frs w B A c l) (hg : w.grownBy w' (A.map (·.block))) (hB : B ≤ w.heap.size) : Below B w w' := by
  obtain ⟨g, cap, zs, hv, hBg, _⟩ := h
  injection hv with hA _ _
  subst hA
  exact (Below.refl B w).grown hg hB fun k hk => by injection hk with hk; subst hk; exact hBg
theorem spoil3_frs (A : Option Addr) (m c B : Nat) (l : List UInt8) (w : World) (ho : Frs w B A c l) (hm : m = l.length) :
    Calls Tryd.prog 18 #[.slice A m c] w fun e w' => e = .returned (.tuple #[]) ∧ w.grownBy w' (A.map (·.block)) := by
  subst hm
  obtain ⟨g, cap, zs, hv, hB, hlc, hcm, hz, hr, hbs, hc0, hf0⟩ := ho
  injection hv with hA _ hcc
  subst hA hcc
  unfold maxLen at hcm
  have HC := hid (fun j (hj : j < l.length) => hc0 j (by omega))
  have HF := hid (fun j (hj : j < l.length) => hf0 j (by omega))
  clear hbs hr hc0 hf0
  go_enter Tryd.func18, Tryd.ntmps18
  go_wp2
  go_loopw [2] (fun i wr => ∃ k : Nat, k ≤ l.length ∧ i = .int .i64 k ∧ w.grownBy wr (some g) ∧ ∀ j, j < l.length → (∃ n : Int, wr.cell? ⟨g, j, none⟩ = some (Value.int .u8 n)) ∧ wr.frozen? ⟨g, j, none⟩ = false) (fun i _ => l.length - (intOf i).toNat)
  case atStart => exact ⟨0, Nat.zero_le _, rfl, World.grownBy.refl _ _, fun j hj => ⟨⟨_, HC.out j hj⟩, HF.out j hj⟩⟩
  case round =>
    obtain ⟨k, hk, rfl, hb, hcs⟩ := hrel
    by_cases hlt : k < l.length
    · obtain ⟨⟨n, hn⟩, hf⟩ := hcs k hlt
      have Hcs := hid hcs
      clear hcs
      have Hn := hid hn
      go_wp2
      go_roundw
      case rel =>
        refine ⟨k + 1, by omega, by go_num, ?_, fun j hj => ?_⟩
        · refine ⟨hb.os, hb.tape, hb.output, by simpa [World.setCell] using hb.size, fun i hi hne => (Below.heap_setCell _ _ _ i (fun e => hne (by rw [e]))).trans (hb.block i hi hne)⟩
        · obtain ⟨⟨n2, h2⟩, h3⟩ := Hcs.out j hj
          refine ⟨?_, by rw [World.frozen?_setCell]; exact h3⟩
          by_cases he : j = k
          · subst he
            exact ⟨_, World.cell?_setCell_same' _ _ _ (by rw [Hn.out]; rfl)⟩
          · exact ⟨n2, (World.cell?_setCell_other _ _ _ _ (by intro e; injection e with _ e _; first | exact he e | exact he e.symm)).trans h2⟩
      case measure => simp [intOf]; omega
    · obtain rfl : k = l.length := by omega
      go_wp2
      go_end0
      exact ⟨rfl, hb⟩
end Go.Proofs.YtliahdlllmnkkaaDoor
