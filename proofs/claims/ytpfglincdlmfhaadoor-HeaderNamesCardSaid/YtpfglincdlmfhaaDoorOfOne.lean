/-
  tag.Of at one part that lies in a new row, over the table sha.k.
-/
import Derived.Test.YtpfglincdlmfhaaDoorTagX
import Derived.Test.YtpfglincdlmfhaaDoorMem
namespace Go.Proofs.YtpfglincdlmfhaaDoor
open Go.RowKit
set_option linter.unusedVariables false
set_option linter.unusedSimpArgs false
set_option maxRecDepth 100000

theorem of_one_any (k : UInt8) (A : Option Addr) (c : Nat) (l : List UInt8) (w : World) (h : Rd w A l) (hc : l.length ≤ c ∧ c ≤ maxLen) (hl : l.length ≤ 90000) (hT : Tab w) :
    Calls Tryd.prog 10 #[.int .u8 (k.toNat : Int), .slice (some ⟨w.heap.size, 0, none⟩) 1 1] (w.alloc (.cells #[.slice A l.length c] 29)) fun e w' => e = .returned (.agg ((sha256 (tagB k [l])).map bv).toArray) ∧ Below w.heap.size w w' := by
  have hR := rds_one w A c l 29 h hc
  refine (TOf_any k (some ⟨w.heap.size, 0, none⟩) 1 1 [l] _ hR rfl (by simp) (by unfold tagB partB; simp [be_length]; omega) (hT.bel (ext_alloc w _) hT.low)).mono ?_
  rintro e w' ⟨rfl, hb⟩
  exact ⟨rfl, (ext_alloc w _).trans (hb.mono (ext_alloc w (.cells #[.slice A l.length c] 29)).size)⟩
theorem of_rds_any (k : UInt8) (g : Nat) (l : List UInt8) (w : World) (h : Rds w (some ⟨g, 0, none⟩) [l]) (hl : l.length ≤ 90000) (hT : Tab w) :
    Calls Tryd.prog 10 #[.int .u8 (k.toNat : Int), .slice (some ⟨g, 0, none⟩) 1 1] w fun e w' => e = .returned (.agg ((sha256 (tagB k [l])).map bv).toArray) ∧ Below w.heap.size w w' :=
  TOf_any k (some ⟨g, 0, none⟩) 1 1 [l] w h rfl (by simp) (by unfold tagB partB; simp [be_length]; omega) hT
end Go.Proofs.YtpfglincdlmfhaaDoor
