/-
  Contracts of the landed package tag: count, pieces, Bytes.
-/
import Derived.Test.YtpfglincdlmfhaaDoorTagX
import Derived.Test.YtpfglincdlmfhaaDoorShelf
namespace Go.Proofs.YtpfglincdlmfhaaDoor
open Go.RowKit
set_option linter.unusedVariables false
set_option maxRecDepth 100000

theorem pcs_one (k : UInt8) (ls : List (List UInt8)) : (pcs k ls).length = 1 → (pcs k ls).flatten ≠ [] := by
  intro _ h
  rw [pcs_flat] at h
  cases h
theorem TBytes_any (k : UInt8) (A : Option Addr) (c n : Nat) (ls : List (List UInt8)) (w : World) (hr : Rds w A ls) (hn : n = ls.length) (hc : ls.length ≤ 1000000) (hl : (tagB k ls).length ≤ 1000000) :
    Calls Tryd.prog 18 #[.int .u8 (k.toNat : Int), .slice A n c] w fun r w' => ∃ A' c', r = .returned (.slice A' (tagB k ls).length c') ∧ Frs w' w.heap.size A' c' (tagB k ls) ∧ Below w.heap.size w w' := by
  subst hn
  have hp := pcs_length k ls
  have hf := hid (pcs_flat k ls)
  have h1 := hid (pcs_one k ls)
  go_enter Tryd.func18, Tryd.ntmps18
  go_wp2_with fail
  refine (pieces_any k A c ls.length ls _ hr rfl hc).mono ?_
  rintro e w1 ⟨A1, c1, rfl, ho1, hb1⟩
  have r1 := ho1.rds
  have q1 := ho1.cap
  clear ho1
  generalize pcs k ls = x at *
  replace hp := hid hp
  go_wp2_with fail
  refine (Join_any A1 x.length c1 x _ r1 rfl (by have := hp.out; omega) h1.out q1.1 (by have := hp.out; omega) (by rw [hf.out]; omega)).mono ?_
  rintro e w2 ⟨A2, c2, rfl, ho2, hb2⟩
  rw [hf.out] at ho2 ⊢
  go_wp2
  go_ret
  obtain ⟨g, cap, zs, hv, hB, r⟩ := ho2
  exact ⟨_, _, rfl, ⟨g, cap, zs, hv, Nat.le_trans hb1.size hB, r⟩, ext_trans hb1 hb2⟩
end Go.Proofs.YtpfglincdlmfhaaDoor
