/-
  Layer 11's law: what the chapter's examples read, and digests of one part in a region that draws.
-/
import Derived.Test.YtaegdiggmgifiaaDoorAlive11
import Derived.Test.YtaegdiggmgifiaaDoorTxQ
namespace Go.Proofs.YtaegdiggmgifiaaDoor
open Go.RowKit
set_option linter.unusedVariables false
set_option linter.unusedSimpArgs false
set_option maxRecDepth 100000

theorem zer119 : readXE (List.replicate 119 0) = 10 ∧ readX (List.replicate 119 0) = zX := by
  have e : readXE (List.replicate 119 0) = 10 := by unfold readXE; rw [List.length_replicate, if_pos (by decide)]
  exact ⟨e, read_err (by rw [e]; decide)⟩
theorem zer121 : readXE (List.replicate 121 0) = 11 ∧ readX (List.replicate 121 0) = zX := by
  have e : readXE (List.replicate 121 0) = 11 := by unfold readXE; rw [List.length_replicate, if_neg (by decide), if_pos (by decide)]
  exact ⟨e, read_err (by rw [e]; decide)⟩
theorem zer120 : readXE (List.replicate 120 0) = 110 ∧ readX (List.replicate 120 0) = zX := by
  have h := read_any zX_okq zero_unsigned
  rw [show bytesX zX = List.replicate 120 0 by decide +kernel] at h
  exact h
def x1N : Tx := { zX with n := 1 }
theorem x1N_ok : x1N.ok := ⟨by decide, by decide, by decide⟩
theorem built_tx1 : Tryd.prog.built 26 [(2, .int .u64 1)] = some (txC x1N).toArray := by kernel_rfl
theorem slotSlX : Slot Tryd.prog (List UInt8) 53 30 (.slice none 0 0) 24 where
  under := tUnderSls
  info := tInfoSl
  zero := rfl
  pos := by decide
theorem step_buildSl {w : World} {ops : Array Oper} {o : Oper} {a : Act} {K : Act → World → Prop} {Q : Exit → Act → World → Prop} {X : Prop} (hg : Region.wanted o (yielded ops a.tmps) = true)
    (x : Operand) (hop : o.op = .buildSlice 53 1 #[(0, x)]) (A : Option Addr) (n c : Nat) (l : List UInt8) (hx : a.eval x = .slice A n c) (hn : n = l.length) (h : Rd w A l) (hc : l.length ≤ c ∧ c ≤ maxLen)
    (hK : ∀ g w', Rds w' (some ⟨g, 0, none⟩) [l] → Below w.heap.size w w' → K (a.put o.dst (.slice (some ⟨g, 0, none⟩) 1 1)) w') : if Region.wanted o (yielded ops a.tmps) = true then Oper.wp Tryd.prog o a w K Q else X := by
  subst hn
  rw [if_pos hg]
  exact wp_buildOne slotSlX (by decide) x hop [.slice A l.length c] (by rw [hx]; rfl) rfl (hK _ _ (rds_one w A c l 30 h hc) (ext_alloc _ _))
theorem of_rds_any (k : UInt8) (g : Nat) (l : List UInt8) (w : World) (h : Rds w (some ⟨g, 0, none⟩) [l]) (hl : l.length ≤ 90000) (hT : Tab w) :
    Calls Tryd.prog 12 #[.int .u8 (k.toNat : Int), .slice (some ⟨g, 0, none⟩) 1 1] w fun e w' => e = .returned (.agg ((sha256 (tagB k [l])).map bv).toArray) ∧ Below w.heap.size w w' :=
  TOf_any k (some ⟨g, 0, none⟩) 1 1 [l] w h rfl (by simp) (by unfold tagB partB; simp [be_length]; omega) hT
end Go.Proofs.YtaegdiggmgifiaaDoor
