import Derived.Test.YtnnclggeifnomaaGreatDoorAcL
set_option linter.all false
namespace Go.Proofs.YtnnclggeifnomaaGreatDoor
open Go.RowKit
set_option maxRecDepth 100000
theorem back{t:Tr}{k o:Dg}{a:Ac}(ha:a.ok)(hm:mayA t=true)(hl:t.ns.length≤100000):
  getA (setT t k a) k=a∧(o≠k→getA (setT t k a) o=getA t o)∧getTB (setT t k a) k=decide (a≠ac0):=by
 obtain⟨h1,h2,h3,-⟩:=ZdB (k:=k) ha hm hl
 have hs:=(Zbp (Zft hm).1).1
 refine⟨?_,fun hne=>?_,?_⟩
 ·unfold getA
  rw[if_pos h1,h3]
  exact ZeN hs k ha
 ·unfold getA
  rw[if_pos h1,if_pos hm,h3]
  exact ZcY hs a (fun e=>hne e.symm)
 ·unfold getTB
  rw[h2,Bool.true_and,h3]
  exact has_set k a
end Go.Proofs.YtnnclggeifnomaaGreatDoor
