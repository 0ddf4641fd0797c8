import Derived.Test.YtnnclggeifnomaaGreatDoorRf10
set_option linter.all false
namespace Go.Proofs.YtnnclggeifnomaaGreatDoor
open Go.RowKit
def giveTE(t:Tr):Int:=if mayA t=true then (if 260944<t.ns.length then 9 else 0) else 8
def giveTC(t:Tr)(x:Dp):Int:=if giveTE t=0 then giveC (allT t) x.t x.a else 0
theorem Zcm{t:Tr}(h:mayA t=true):mayT t=true∧St (allT t):=by
 unfold mayA at h
 rw[Bool.and_eq_true]at h
 exact⟨h.1,(Zbp h.1).1,h.2⟩
def payTE(t:Tr)(x:Tx):Int:=if mayA t=true then (if decide (x.s=signD x)=true then (if nextB (allT t) x=true then (if decide (260944<t.ns.length)=true then 9 else 0) else 2) else 110) else 8
def payTC(t:Tr)(x:Tx)(box:Dg):Int:=if payTE t x=0 then paidC (allT t) x box else 0
def PayOk(t:Tr)(x:Tx)(box:Dg)(o:Tr):Prop:=if payTE t x=0 then (mayA o=true∧allT o=paidL (allT t) x box∧o.ns.length≤t.ns.length+1200∧∃r,o.ns=t.ns++r) else o=⟨[],0⟩
def GiveOk(t:Tr)(x:Dp)(o:Tr):Prop:=if giveTE t=0 then (mayA o=true∧allT o=giveL (allT t) x.t x.a∧o.ns.length≤t.ns.length+1200∧∃r,o.ns=t.ns++r) else o=⟨[],0⟩
theorem Zff{t:Tr}(h:mayA t=true):mayT t=true∧heldP (allT t)=true:=by
 unfold mayA at h
 simpa using h
theorem Zdv{t:Tr}(h:mayA t=true)(k:Dg):getA t k=inA (allT t) k:=by unfold getA;rw[if_pos h]
section
variable{t o:Tr}{x:Tx}{box:Dg}{d:Dp}
theorem Zel(h:payTE t x=0):mayA t=true∧x.s=signD x∧nextB (allT t) x=true:=by
 unfold payTE at h
 split at h
 ·rename_i h1
  split at h
  ·rename_i h2
   split at h
   ·rename_i h3
    exact⟨h1,of_decide_eq_true h2,h3⟩
   ·cases h
  ·cases h
 ·cases h
theorem Zd7(h:payTE t x=0)(ho:PayOk t x box o):mayA o=true∧allT o=paidL (allT t) x box∧o.ns.length≤t.ns.length+1200∧∃r,o.ns=t.ns++r:=by unfold PayOk at ho;rwa [if_pos h]at ho
theorem Yay(h:¬payTE t x=0)(ho:PayOk t x box o):o=⟨[],0⟩:=by unfold PayOk at ho;rwa [if_neg h]at ho
theorem ZjS(h:giveTE t=0)(ho:GiveOk t d o):mayA o=true∧allT o=giveL (allT t) d.t d.a∧o.ns.length≤t.ns.length+1200∧∃r,o.ns=t.ns++r:=by unfold GiveOk at ho;rwa [if_pos h]at ho
theorem Zej(h:t.ns.length≤100000):giveTE t=if mayA t=true then 0 else 8:=by
 unfold giveTE
 split
 ·rw[if_neg (by omega)]
 ·rfl
end
end Go.Proofs.YtnnclggeifnomaaGreatDoor
