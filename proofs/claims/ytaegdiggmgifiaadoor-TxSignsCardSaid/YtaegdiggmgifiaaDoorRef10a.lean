/-
  The document's answers of layer 10: Key, Bytes, Read.
-/
import Derived.Test.YtaegdiggmgifiaaDoorAc
import Derived.Test.YtaegdiggmgifiaaDoorStepT
import Derived.Test.YtaegdiggmgifiaaDoorRNumber
import Derived.Test.YtaegdiggmgifiaaDoorRefC
import Derived.Test.YtaegdiggmgifiaaDoorMem
namespace Go.Proofs.YtaegdiggmgifiaaDoor
open Go.RowKit
set_option linter.unusedVariables false
set_option linter.unusedSimpArgs false
set_option maxRecDepth 100000

theorem slotU8k : Slot Tryd.prog UInt8 30 5 (.int .u8 0) 1 where
  under := Tryd.underlying30
  info := by kernel_rfl
  zero := by decide +kernel
  pos := by decide
/-- A key's digest. -/
def keyD (p : Dg) : Dg := ⟨sha256 (tagB 3 [p.1]), S8.bytes_len _⟩
theorem RAcKey_any (p : Dg) (w : World) : Calls Tryd.prog 37 #[.agg (p.1.map bv).toArray] w fun e w' => e = .returned (.agg ((keyD p).1.map bv).toArray) ∧ Below w.heap.size w w' := by
  have h0 := heap_alloc_new w (.cells (p.1.map bv).toArray 23)
  have b0 := ext_alloc w (.cells (p.1.map bv).toArray 23)
  have h1 := heap_alloc_new (w.alloc (.cells (p.1.map bv).toArray 23)) (.cells z32 23)
  have b1 := ext_alloc (w.alloc (.cells (p.1.map bv).toArray 23)) (.cells z32 23)
  rw [World.size_alloc] at h1
  have hk := hid (rd_blockP ((b1.block _ (block_lt h0)).trans h0))
  have W1 := hid (b0.trans (b1.mono b0.size))
  replace h1 := hid h1
  have hO := hid (fun W (h : Rd W (some ⟨w.heap.size, 0, none⟩) p.1) => ROneD_any 3 (some ⟨w.heap.size, 0, none⟩) 32 p.1 W h ⟨by rw [p.2]; decide, by decide⟩ (by rw [p.2]; decide))
  have hD : sha256 (tagB 3 [p.1]) = (keyD p).1 := rfl
  rw [hD] at hO
  simp only [p.2] at hO
  replace hO := hid hO
  have hsl := run_all32P
  have z1 : (((keyD p).1.map bv).toArray).size = 32 := by simp [(keyD p).2]
  have o1 := bvs_all (keyD p).1
  clear h0 b0 b1 hD
  generalize (keyD p).1.map bv = dk at *
  generalize (p.1.map bv).toArray = dp at *
  go_enter Tryd.func37, Tryd.ntmps37
  go_wp2_with (first
    | (with_reducible refine wpList_alloc_row rfl 23 rfl z32 info32 ?_))
  refine (hO.out.out _ hk.out).mono ?_
  rintro e w3 ⟨rfl, hb3⟩
  have R3 := hid ((hb3.block _ (block_lt h1.out)).trans h1.out)
  have W3 := hid (W1.out.trans (hb3.mono W1.out.size))
  clear hb3
  go_wp2_with (first
    | ((with_reducible refine wpList_store_row rfl 23 (.tmp 2) (.tmp 4) rfl (w.heap.size + 1) _ rfl rfl 23 z32 ?_ ?_ ?_ ?_ ?_); exact R3.out; (rw [z1]; exact size32); (rw [z1]; exact z32_size); exact o1; intro w4 hg4 hb4 hs4))
  refine bodyPost_ret (v := .agg dk.toArray) ?_ rfl ⟨rfl, ?_⟩
  · exact results_cell_row Tryd.results37 _ _ (w.heap.size + 1) 23 _ (0, 0) _ rfl hg4 Tryd.underlying23 rfl (by rw [z1]; exact size32)
  · exact W3.out.grown hb4 W3.out.size (fun g e => by injection e with e; omega)
end Go.Proofs.YtaegdiggmgifiaaDoor
