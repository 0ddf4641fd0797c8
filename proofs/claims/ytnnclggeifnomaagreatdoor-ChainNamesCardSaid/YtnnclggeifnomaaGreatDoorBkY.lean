import Derived.Test.YtnnclggeifnomaaGreatDoorRf16
import Derived.Test.YtnnclggeifnomaaGreatDoorAcS
import Derived.Test.YtnnclggeifnomaaGreatDoorAcK
set_option maxRecDepth 100000
set_option linter.all false
namespace Go.Proofs.YtnnclggeifnomaaGreatDoor
open Go.RowKit
structure Bd where
 ds:List Dp
 xs:List Tx
instance:Enc Bd:=Enc.by_ fun x=>(x.ds,x.xs)
theorem Zvg{F:Nat→Prop}{w:World}{x:Bd}{vs:List Value}(h:Enc.rep F w x vs):∃D d X e,vs=[.slice D x.ds.length d,.slice X x.xs.length e]∧(x.ds.length≤d∧d≤maxLen∧Row F w D x.ds)∧(x.xs.length≤e∧e≤maxLen∧Row F w X x.xs):=by
 obtain⟨u1,t1,rfl,⟨D,d,rfl,h4⟩,⟨X,e,rfl,h5⟩⟩:=h
 exact⟨D,d,X,e,rfl,h4,h5⟩
def ApplyOk(t:Tr)(x:Hd)(ds:List Dp)(xs:List Tx)(box:Dg)(o:Tr):Prop:=if applyE t x ds xs box=0 then (mayA o=true∧allT o=applyL t x ds xs box∧o.ns.length≤t.ns.length+1200 * ds.length+1200 * xs.length∧∃r,o.ns=t.ns++r) else o=⟨[],0⟩
section
variable{t o:Tr}{x:Hd}{ds:List Dp}{xs:List Tx}{box:Dg}
theorem ZeI(h:applyE t x ds xs box=0):mayA t=true∧mayH x=true∧x.h≠1073741824∧ds.length≤16∧xs.length≤16∧madeE (allT t) ds xs box=0:=by
 unfold applyE at h
 split at h
 ·rename_i h1
  split at h
  ·rename_i h2
   split at h
   ·cases h
   ·rename_i h3
    split at h
    ·cases h
    ·rename_i h4
     split at h
     ·cases h
     ·rename_i h5
      simp only[decide_eq_true_eq]at h4 h5
      exact⟨h1,h2,fun e=>h3 (by rw[e];rfl),by omega,by omega,h⟩
  ·cases h
 ·cases h
theorem Zbx(h:applyE t x ds xs box=0):applyL t x ds xs box=payAll box (giveAll (allT t) ds) xs∧applyR t x ds xs box=giveRs (allT t) ds++payRs box (giveAll (allT t) ds) xs∧applyH t x ds xs box=headB x (payAll box (giveAll (allT t) ds) xs) (giveRs (allT t) ds++payRs box (giveAll (allT t) ds) xs):=by
 have hm:=(ZeI h).2.2.2.2.2
 have e1:madeL (allT t) ds xs box=payAll box (giveAll (allT t) ds) xs:=by unfold madeL;rw[if_pos hm]
 have e2:madeRs (allT t) ds xs box=giveRs (allT t) ds++payRs box (giveAll (allT t) ds) xs:=by unfold madeRs;rw[if_pos hm]
 refine⟨?_,?_,?_⟩
 ·unfold applyL;rw[if_pos h,e1]
 ·unfold applyR;rw[if_pos h,e2]
 ·unfold applyH;rw[if_pos h,e1,e2]
theorem Zc4(h:applyE t x ds xs box=0)(ho:ApplyOk t x ds xs box o):mayA o=true∧allT o=payAll box (giveAll (allT t) ds) xs∧o.ns.length≤t.ns.length+1200 * ds.length+1200 * xs.length∧∃r,o.ns=t.ns++r:=by
 unfold ApplyOk at ho
 rw[if_pos h,(Zbx h).1]at ho
 exact ho
theorem ZgK(h:applyE t x ds xs box=0):(applyR t x ds xs box).length=ds.length+xs.length:=by
 rw[(Zbx h).2.1,Vx3,Zde,Zh3]
end
def BkPost(t:Tr)(x:Hd)(ds:List Dp)(xs:List Tx)(box:Dg)(w:World)(e:Ending)(w':World):Prop:=∃(o:Tr) (A':Option Addr) (c':Nat) (R:Option Addr) (rc:Nat),
 e=.returned (.tuple #[.agg #[.slice A' o.ns.length c',.int .i64 o.root],.agg (hdC (applyH t x ds xs box)).toArray,.slice R (applyR t x ds xs box).length rc,.int .i64 (applyE t x ds xs box)])∧
 OwnR 106 w' w.heap.size A' c' o.ns∧OwnR 148 w' w.heap.size R rc (applyR t x ds xs box)∧Below w.heap.size w w'∧ApplyOk t x ds xs box o
def BkQ(z:Int)(H:Hd)(rs:List Rc)(P:Tr→Prop)(w:World)(e:Ending)(w':World):Prop:=∃(o:Tr) (A':Option Addr) (c':Nat) (R:Option Addr) (rc:Nat),
 e=.returned (.tuple #[.agg #[.slice A' o.ns.length c',.int .i64 o.root],.agg (hdC H).toArray,.slice R rs.length rc,.int .i64 z])∧
 OwnR 106 w' w.heap.size A' c' o.ns∧OwnR 148 w' w.heap.size R rc rs∧Below w.heap.size w w'∧P o
def zDpC:Array Value:=(dpC ⟨0,⟨List.replicate 32 0,rfl⟩,0⟩).toArray
theorem YbV:(Tryz.prog.info? 142).map (fun i=>(i.zero,i.size))=some (some (.agg zDpC),zDpC.size):=by kernel_rfl
theorem Ybj(x:Dp):(Tryz.prog.info? 142).map (·.size)=some (dpC x).toArray.size:=Zia x
theorem YbY(x:Dp):zDpC.size=(dpC x).toArray.size:=by
 show (dpC ⟨0,⟨List.replicate 32 0,rfl⟩,0⟩).toArray.size=_
 rw[Vx7,Vx7,ZoJ,ZoJ]
theorem Yad(x:Dp):(dpC x).toArray.all (·.oneCell')=true:=all_oneCell_toArray fun v hv=>by
 simp only[dpC,dpS,List.mem_flatten,List.mem_cons,List.not_mem_nil,or_false]at hv
 obtain⟨l,hl,hv⟩:=hv
 rcases hl with rfl|rfl|rfl
 ·simp at hv;subst hv;rfl
 ·exact Zbn _ v hv
 ·simp at hv;subst hv;rfl
theorem ZmQ:Tryz.prog.built 35 []=some #[.slice none 0 0,.slice none 0 0]:=by kernel_rfl
theorem ZmW{place:Nat→Option (Nat×Nat)}(post:List Value):∀(zs:List (List Value)) (vs:List Value) (k:Nat) (pre:List Value),FitsAt place k pre.length zs vs→
  Instr.fill place (pre++(zs.flatten++post)).toArray (partsFrom k vs)=some (pre++((vs.map fun v=>v.cells.toList).flatten++post)).toArray
 |[],[],k,pre,_=>by simp[partsFrom,Instr.fill]
 |z::zs,v::vs,k,pre,h=>by
  obtain⟨h1,h2,h3⟩:=h
  have hv:v.cells.toList.length=z.length:=by rw[Array.length_toList,h2]
  have ih:=ZmW post zs vs (k+1) (pre++v.cells.toList) (by rw[Vx3,hv];exact h3)
  have hl:=Zbt pre z (zs.flatten++post) v.cells.toList hv
  show Instr.fill place (pre++((z::zs).flatten++post)).toArray ((k,v)::partsFrom (k+1) vs)=_
  rw[ZaQ (off:=pre.length) (by rw[h1,h2]) (by rw[h2];simp<;>omega)]
  simp only[List.flatten_cons,List.append_assoc]
  rw[hl,←List.append_assoc,ih]
  simp
 |[],_::_,_,_,h=>h.elim
 |_::_,[],_,_,h=>h.elim
theorem YdB:mayT ⟨[],0⟩=true:=by decide +kernel
theorem Zhi:allT ⟨[],0⟩=[]:=by decide +kernel
theorem Zev:mayA ⟨[],0⟩=true:=by unfold mayA;rw[YdB,Zhi];rfl
def zBox:Dg:=⟨List.replicate 32 0,rfl⟩
end Go.Proofs.YtnnclggeifnomaaGreatDoor
