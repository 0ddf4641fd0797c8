/-
  Contracts of the document's own answers for layer 2.
-/
import Derived.Test.YtliahdlllmnkkaaDoorU8
import Derived.Test.YtliahdlllmnkkaaDoorW32
import Derived.Test.YtliahdlllmnkkaaDoorArr
import Derived.Test.YtliahdlllmnkkaaDoorSame
import Derived.Test.YtliahdlllmnkkaaDoorTwin
namespace Go.Proofs.YtliahdlllmnkkaaDoor
open Go.RowKit
set_option linter.unusedVariables false

theorem turn_any (x : UInt32) (n : Nat) (ni : Int) (w : World) (hn : ni = n) (h1 : 1 ≤ n) (h2 : n ≤ 31) :
    Calls Tryd.prog 46 #[.int .u32 (x.toNat : Int), .int .u32 ni] w fun e w' => e = .returned (.int .u32 ((rotr x n).toNat : Int)) ∧ w = w' := by
  subst hn
  have hx := x.toNat_lt
  have hr := rotr_bits x n
  have hx' : x.toNat < 4294967296 := hx
  clear hx
  go_enter Tryd.func46, Tryd.ntmps46
  go_wp2
  go_ret
  exact ⟨rfl, rfl⟩

theorem turn_i (x : UInt32) (ni : Int) (w : World) (h1 : 1 ≤ ni) (h2 : ni ≤ 31) :
    Calls Tryd.prog 46 #[.int .u32 (x.toNat : Int), .int .u32 ni] w fun e w' => e = .returned (.int .u32 ((rotr x ni.toNat).toNat : Int)) ∧ w = w' :=
  turn_any x ni.toNat ni w (by omega) (by omega) (by omega)

set_option maxHeartbeats 1600000 in
theorem round_any (s : S8) (k t : UInt32) (w : World) :
    Calls Tryd.prog 40 #[.agg s.vals, .int .u32 (k.toNat : Int), .int .u32 (t.toNat : Int)] w fun r w' => r = .returned (.agg (s.round k t).vals) ∧ Below w.heap.size w w' := by
  obtain ⟨a, b, c, d, e, f, g, h⟩ := s
  have am := add_mod
  have xb := xor_bits
  have ab := and_bits
  have ns := not_sub
  have md := mod_self
  obtain ⟨v, hv⟩ : ∃ v, v = (S8.round ⟨a, b, c, d, e, f, g, h⟩ k t).vals := ⟨_, rfl⟩
  rw [← hv]
  replace hv := hid hv
  unfold S8.vals uv
  go_enter Tryd.func40, Tryd.ntmps40
  go_wp2
  go_quiet (fail)
  go_wp2_with (go_at_call 46; refine (turn_i _ _ _ (by omega) (by omega)).mono ?_; rintro e' w' ⟨rfl, rfl⟩)
  have hv2 := hv.out
  simp only [S8.vals, S8.round, uv, rT, rU] at hv2
  refine bodyPost_ret (v := .agg v) ?_ rfl ⟨rfl, ?_⟩
  · rw [hv2]
    simp [results, Tryd.results40, go_sem]
  · clear am xb ab ns md hv hv2
    repeat (first | refine Below.setCell ?_ (by simp) _ | refine below_drewN ?_ _ | refine Below.alloc ?_ (by simp; try omega) _ | exact Below.refl _ _)

def z64 : Array Value := wvs (List.replicate 64 0)
theorem z64_size : z64.size = 64 := by decide +kernel
theorem info64 : (Tryd.prog.info? 67).map (fun i => (i.zero, i.size)) = some (some (.agg z64), z64.size) := by kernel_rfl
theorem size64 : (Tryd.prog.info? 67).map (·.size) = some 64 := by kernel_rfl

set_option maxRecDepth 100000 in
set_option maxHeartbeats 1600000 in
theorem words_any (w : World) : Calls Tryd.prog 38 #[] w fun r w' => r = .returned (.agg (wvs Kw)) ∧ Below w.heap.size w w' := by
  go_enter Tryd.func38, Tryd.ntmps38
  go_wp2_with (first
    | (with_reducible refine wpList_alloc_row rfl 67 rfl z64 info64 ?_)
    | ((with_reducible refine wpList_store_row rfl 67 (.tmp 0) (.tmp 1) rfl w.heap.size _ rfl rfl 67 z64 ?_ ?_ ?_ ?_ ?_); exact heap_alloc_new w _; exact size64; exact z64_size; decide +kernel; intro w1 hg1 hb1 hs1))
  refine bodyPost_ret (v := .agg (wvs Kw)) ?_ rfl ⟨rfl, ?_⟩
  · exact results_cell_row Tryd.results38 _ _ w.heap.size 67 _ (0, 0) _ rfl hg1 Tryd.underlying67 rfl size64
  · exact ((ext_alloc w _).grown hb1 (by simp) (by simp))
end Go.Proofs.YtliahdlllmnkkaaDoor
