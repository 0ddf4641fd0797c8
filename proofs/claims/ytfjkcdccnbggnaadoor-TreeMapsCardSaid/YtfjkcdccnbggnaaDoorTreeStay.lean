/-
  Versions: what stands behind a number stays where nodes come behind. No program is named here.
-/
import Derived.Test.YtfjkcdccnbggnaaDoorTreeLr
import Derived.Test.YtfjkcdccnbggnaaDoorTrB
import Derived.Test.YtfjkcdccnbggnaaDoorTreeLj
import Derived.Test.YtfjkcdccnbggnaaDoorTreeLt
import Derived.Test.YtfjkcdccnbggnaaDoorTreeMb
namespace Go.Proofs.YtfjkcdccnbggnaaDoor
open Go.RowKit
set_option linter.unusedVariables false
set_option maxRecDepth 100000

theorem may_app {ns ms : List Nd} {root r' : Int} (h : mayT ⟨ns, root⟩ = true) (h2 : mayT ⟨ns ++ ms, r'⟩ = true) : mayT ⟨ns ++ ms, root⟩ = true ∧ allT ⟨ns ++ ms, root⟩ = allT ⟨ns, root⟩ := by
  obtain ⟨a0, a1, a2, ho, a3⟩ := mayT_iff.1 h
  obtain ⟨b0, _, _, ho2, _⟩ := mayT_iff.1 h2
  dsimp only at *
  refine ⟨mayT_iff.2 ⟨b0, a1, by dsimp only; rw [List.length_append]; omega, ho2, ?_⟩, ?_⟩
  · dsimp only
    rw [rgt_app ho _ _ _ a1 a2]
    exact a3
  · exact forP_app ho 256 root a1 a2
theorem sum_all {t u : Tr} (ht : mayT t = true) (hu : mayT u = true) (h : allT t = allT u) : sumM t = sumM u := by
  unfold sumM
  rw [if_pos ht, if_pos hu]
  apply Subtype.ext
  show sumP _ _ _ = sumP _ _ _
  rw [(all_spec ht).2.2.2, (all_spec hu).2.2.2, h]
theorem at_ok {t : Tr} {r : Int} (hm : mayT t = true) (h : mayT ⟨t.ns, r⟩ = true) : atE t r = 0 ∧ atT t r = ⟨t.ns, r⟩ := by
  have : atE t r = 0 := by unfold atE; rw [if_pos hm, if_pos h]
  exact ⟨this, by unfold atT; rw [if_pos this]⟩
theorem stays {t : Tr} {a b : Dg} {v w : List UInt8} (hl : t.ns.length ≤ 600) (hm : mayT t = true) (hg : tputE t v = 0) (hh : tputE (tputT t a v) w = 0) :
    tdropE (tputT (tputT t a v) b w) a = 0 ∧ (tdropT (tputT (tputT t a v) b w) a).ns.length ≤ 1000000 ∧
    (atE (tdropT (tputT (tputT t a v) b w) a) t.root = 0 ∧ atT (tdropT (tputT (tputT t a v) b w) a) t.root = ⟨(tdropT (tputT (tputT t a v) b w) a).ns, t.root⟩ ∧ mayT ⟨(tdropT (tputT (tputT t a v) b w) a).ns, t.root⟩ = true ∧
      pairsM ⟨(tdropT (tputT (tputT t a v) b w) a).ns, t.root⟩ = pairsM t ∧ sumM ⟨(tdropT (tputT (tputT t a v) b w) a).ns, t.root⟩ = sumM t) ∧
    (atE (tdropT (tputT (tputT t a v) b w) a) (tputT t a v).root = 0 ∧ atT (tdropT (tputT (tputT t a v) b w) a) (tputT t a v).root = ⟨(tdropT (tputT (tputT t a v) b w) a).ns, (tputT t a v).root⟩ ∧
      getTB ⟨(tdropT (tputT (tputT t a v) b w) a).ns, (tputT t a v).root⟩ a = true ∧ getTL ⟨(tdropT (tputT (tputT t a v) b w) a).ns, (tputT t a v).root⟩ a = v) := by
  obtain ⟨⟨m1, e1, l1⟩, x1, x2⟩ := tputT_spec (k := a) hg
  obtain ⟨⟨m2, e2, l2⟩, y1, y2⟩ := tputT_spec (k := b) hh
  generalize tputT t a v = x at *
  generalize tputT x b w = y at *
  have hp : hasP (allT y) a = true := by rw [y2, hasP_with, x2, hasP_with]; simp
  have hd : tdropE y a = 0 := by
    unfold tdropE
    rw [if_pos y1, if_pos hp, if_neg]
    rw [e2, e1, List.length_append, List.length_append]
    omega
  obtain ⟨⟨m3, e3, l3⟩, z1, z2⟩ := tdropT_spec hd
  generalize tdropT y a = z at *
  have hs := (all_spec hm).1
  obtain ⟨tn, tr⟩ := t
  obtain ⟨xn, xr⟩ := x
  obtain ⟨yn, yr⟩ := y
  obtain ⟨zn, zr⟩ := z
  dsimp only at *
  have ez1 : zn = tn ++ (m1 ++ (m2 ++ m3)) := by rw [e3, e2, e1]; simp
  have ez2 : zn = xn ++ (m2 ++ m3) := by rw [e3, e2]; simp
  have zt := may_app (ms := m1 ++ (m2 ++ m3)) (r' := zr) hm (by rw [← ez1]; exact z1)
  have zx := may_app (ms := m2 ++ m3) (r' := zr) x1 (by rw [← ez2]; exact z1)
  rw [← ez1] at zt
  rw [← ez2] at zx
  obtain ⟨p1, p2⟩ := at_ok (t := ⟨zn, zr⟩) (r := tr) z1 zt.1
  obtain ⟨q1, q2⟩ := at_ok (t := ⟨zn, zr⟩) (r := xr) z1 zx.1
  have hg1 : getTB ⟨zn, xr⟩ a = true := by
    unfold getTB
    rw [zx.1, zx.2, x2, hasP_with]
    simp
  refine ⟨hd, Nat.le_trans (mayT_iff.1 z1).1 (by decide), ⟨p1, p2, zt.1, ?_, sum_all zt.1 hm zt.2⟩, q1, q2, hg1, ?_⟩
  · unfold pairsM
    rw [if_pos zt.1, if_pos hm, zt.2]
  · unfold getTL
    rw [if_pos hg1, zx.2, x2]
    exact getV_with_self hs a v
end Go.Proofs.YtfjkcdccnbggnaaDoor
