/-
  The document's answers of layer 6: All.
-/
import Derived.Test.YtnoglodggchgpaaDoorRef06d
namespace Go.Proofs.YtnoglodggchgpaaDoor
open Go.RowKit
set_option linter.unusedVariables false
set_option linter.unusedSimpArgs false
set_option maxRecDepth 100000

theorem RAllT_any (F : Nat → Prop) (A : Option Addr) (c : Nat) (ns : List Nd) (root : Int) (w : World) (hr : Row F w A ns) (hc : ns.length ≤ 1000000) (hm : mayT ⟨ns, root⟩ = true) :
    Calls Tryd.prog 82 #[.agg #[.slice A ns.length c, .int .i64 root]] w fun e w' => ∃ A' c', e = .returned (.slice A' (allT ⟨ns, root⟩).length c') ∧ OwnR 26 w' w.heap.size A' c' (allT ⟨ns, root⟩) ∧ Below w.heap.size w w' := by
  obtain ⟨-, m1, m2, ho, m3⟩ := mayT_iff.1 hm
  dsimp only at m1 m2 ho m3
  have T0 := BoxT.new w A ns.length c root 44
  have W0 := ext_alloc w (.cells #[.slice A ns.length c, .int .i64 root] 44)
  have hF := hid (RFor_any F A c ns root ho hc 256 root z0 _ (Nat.le_refl _) zr_z0 m1 m2 m3 (hr.bel W0))
  have hut := Tryd.underlying44
  have hiT := hid (show (Tryd.prog.info? 44).map (·.size) = some ([Value.slice A ns.length c, .int .i64 root]).length from sizeTr)
  have y1 := T0.rt
  unfold allT
  dsimp only
  generalize forP ns 256 root = L at *
  go_enter Tryd.func82, Tryd.ntmps82
  go_wp2_with (first
    | ((with_reducible refine wpList_load_rng rfl 44 (.tmp 1) rfl w.heap.size 0 rfl [Value.slice A ns.length c, .int .i64 root] _ ?_ hut rfl hiT.out ?_); exact T0.all))
  refine hF.out.mono ?_
  rintro e w2 ⟨A2, c2, rfl, ho2, hb⟩
  go_wp2
  go_ret
  exact ⟨A2, c2, rfl, OwnR.base ho2 W0.size, W0.trans (hb.mono W0.size)⟩
end Go.Proofs.YtnoglodggchgpaaDoor
