/-
  The document's answers for layer 3: the digest of a kind and parts; that of nothing.
-/
import Derived.Test.YtliahdlllmnkkaaDoorRef03b
import Derived.Test.YtliahdlllmnkkaaDoorRef02e
namespace Go.Proofs.YtliahdlllmnkkaaDoor
open Go.RowKit
set_option linter.unusedVariables false

theorem ROf_any (k : UInt8) (A : Option Addr) (c n : Nat) (ls : List (List UInt8)) (w : World) (hr : Rds w A ls) (hn : n = ls.length) (hc : ls.length ≤ 1000000) (hl : (tagB k ls).length ≤ 100000) :
    Calls Tryd.prog 16 #[.int .u8 (k.toNat : Int), .slice A n c] w fun r w' => r = .returned (.agg ((sha256 (tagB k ls)).map bv).toArray) ∧ Below w.heap.size w w' := by
  subst hn
  obtain ⟨dg, hdg⟩ : ∃ dg, dg = sha256 (tagB k ls) := ⟨_, rfl⟩
  rw [← hdg]
  have ld : dg.length = 32 := by rw [hdg]; exact S8.bytes_len _
  have z1 : ((dg.map bv).toArray).size = 32 := by simp [ld]
  have o1 := bvs_all dg
  replace hdg := hid hdg
  have hr1 := hr.alloc (.cells z32 29)
  go_enter Tryd.func16, Tryd.ntmps16
  go_wp2_with (first
    | (with_reducible refine wpList_alloc_row rfl 29 rfl z32 info32 ?_))
  refine (RBytes_any k A c _ ls _ hr1 rfl hc (by omega)).mono ?_
  rintro e w2 ⟨A2, c2, rfl, ho2, hb2⟩
  have R2 := hid ((hb2.block w.heap.size (by simp)).trans (heap_alloc_new w (.cells z32 29)))
  have W2 := hid (ext_trans (ext_alloc w _) hb2)
  have r2 := hid ho2.rd
  clear ho2 hb2
  go_wp2_with fail
  refine (Sum_any A2 c2 _ (tagB k ls) _ r2.out rfl (by omega)).mono ?_
  rintro e w3 ⟨rfl, hb3⟩
  rw [← hdg.out]
  have R3 := hid ((hb3.block _ (block_lt R2.out)).trans R2.out)
  have W3 := hid (ext_trans W2.out hb3)
  clear hb3
  go_wp2_with (first
    | ((with_reducible refine wpList_store_row rfl 29 (.tmp 4) (.tmp 8) rfl w.heap.size _ rfl rfl 29 z32 ?_ ?_ ?_ ?_ ?_); exact R3.out; (rw [z1]; exact size32); (rw [z1]; exact z32_size); exact o1; intro w4 hg4 hb4 hs4))
  refine bodyPost_ret (v := .agg ((dg.map bv).toArray)) ?_ rfl ⟨rfl, ?_⟩
  · exact results_cell_row Tryd.results16 _ _ w.heap.size 29 _ (0, 0) _ rfl hg4 Tryd.underlying29 rfl (by rw [z1]; exact size32)
  · exact W3.out.grown hb4 W3.out.size (by simp)

theorem RNone_any (w : World) : Calls Tryd.prog 17 #[] w fun r w' => r = .returned (.agg ((sha256 [0]).map bv).toArray) ∧ Below w.heap.size w w' := by
  obtain ⟨dg, hdg⟩ : ∃ dg, dg = sha256 [0] := ⟨_, rfl⟩
  rw [← hdg]
  have ld : dg.length = 32 := by rw [hdg]; exact S8.bytes_len _
  have z1 : ((dg.map bv).toArray).size = 32 := by simp [ld]
  have o1 := bvs_all dg
  replace hdg := hid (show dg = sha256 (tagB 0 []) from hdg)
  go_enter Tryd.func17, Tryd.ntmps17
  go_wp2_with (first
    | (with_reducible refine wpList_alloc_row rfl 29 rfl z32 info32 ?_))
  refine (ROf_any 0 none 0 0 [] _ (fun hn => absurd hn (by simp)) rfl (by simp) (by simp [tagB])).mono ?_
  rintro e w3 ⟨rfl, hb3⟩
  rw [← hdg.out]
  have R3 := hid ((hb3.block w.heap.size (by simp)).trans (heap_alloc_new w (.cells z32 29)))
  have W3 := hid (ext_trans (ext_alloc w _) hb3)
  clear hb3
  go_wp2_with (first
    | ((with_reducible refine wpList_store_row rfl 29 (.tmp 0) (.tmp 1) rfl w.heap.size _ rfl rfl 29 z32 ?_ ?_ ?_ ?_ ?_); exact R3.out; (rw [z1]; exact size32); (rw [z1]; exact z32_size); exact o1; intro w4 hg4 hb4 hs4))
  refine bodyPost_ret (v := .agg ((dg.map bv).toArray)) ?_ rfl ⟨rfl, ?_⟩
  · exact results_cell_row Tryd.results17 _ _ w.heap.size 29 _ (0, 0) _ rfl hg4 Tryd.underlying29 rfl (by rw [z1]; exact size32)
  · exact W3.out.grown hb4 W3.out.size (by simp)
end Go.Proofs.YtliahdlllmnkkaaDoor
