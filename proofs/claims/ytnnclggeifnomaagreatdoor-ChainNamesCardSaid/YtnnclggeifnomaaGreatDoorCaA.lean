import Derived.Test.YtnnclggeifnomaaGreatDoorBkY
import Derived.Test.YtnnclggeifnomaaGreatDoorHdL
set_option maxRecDepth 100000
set_option linter.all false
set_option maxHeartbeats 4000000
namespace Go.Proofs.YtnnclggeifnomaaGreatDoor
open Go.RowKit
structure Lk where
 h:Hd
 root:Int
 ds:List Dp
 xs:List Tx
 rs:List Rc
 deriving DecidableEq
structure Ch where
 t:Tr
 ls:List Lk
def verT(ns:List Nd)(r:Int):Tr:=⟨ns.take r.toNat,r⟩
def placedB(a:Option Lk)(l:Lk):Bool:=match a with
 |none=>decide (l.h.h=0)
 |some y=>follows l.h y.h
def stateB(ns:List Nd)(l:Lk):Bool:=decide (0≤l.root)&&(decide (l.root≤ns.length)&&mayA (verT ns l.root))
def signedB(xs:List Tx):Bool:=xs.all fun x=>decide (x=signX x)
def partsB(l:Lk):Bool:=decide ((l.rs.length:Int)=l.h.m)&&(decide (l.ds.length≤16)&&(decide (l.xs.length≤16)&&signedB l.xs))
def fitsB(ns:List Nd)(a:Option Lk)(l:Lk):Bool:=placedB a l&&(stateB ns l&&partsB l)
def aheadK(ls:List Lk)(i:Nat):Option Lk:=if i=0 then none else ls[i-1]?
def HeldTo(f:Option Lk→Lk→Bool)(ls:List Lk)(j:Nat):Prop:=∀i (hi:i<ls.length),i<j→f (aheadK ls i) ls[i]=true
instance(f:Option Lk→Lk→Bool)(ls:List Lk)(j:Nat):Decidable (HeldTo f ls j):=by unfold HeldTo;infer_instance
def heldB(f:Option Lk→Lk→Bool)(ls:List Lk):Bool:=decide (HeldTo f ls ls.length)
theorem YkL{f:Option Lk→Lk→Bool}{ls:List Lk}:heldB f ls=true↔∀i (hi:i<ls.length),f (aheadK ls i) ls[i]=true:=by
 unfold heldB
 rw[decide_eq_true_eq]
 exact⟨fun h i hi=>h i hi hi,fun h i hi _=>h i hi⟩
theorem Ymu{f:Option Lk→Lk→Bool}{ls:List Lk}{j:Nat}(hj:j<ls.length)(hf:f (aheadK ls j) ls[j]=false):heldB f ls=false:=Bool.eq_false_iff.2 fun h=>by
 rw[YkL]at h
 rw[h j hj]at hf
 cases hf
theorem Ylm(ls:List Lk){i k:Nat}(h:i<k):aheadK (ls.take k) i=aheadK ls i:=by
 unfold aheadK
 split
 ·rfl
 ·rw[List.getElem?_take,if_pos (by omega)]
theorem YlE(ls ms:List Lk){i:Nat}(h:i≤ls.length):aheadK (ls++ms) i=aheadK ls i:=by
 unfold aheadK
 split
 ·rfl
 ·rw[List.getElem?_append_left (by omega)]
theorem Ymn{ls:List Lk}{i:Nat}{y:Lk}(h:aheadK ls i=some y):y∈ls:=by
 unfold aheadK at h
 split at h
 ·cases h
 ·exact List.mem_of_getElem? h
def mayC(c:Ch):Bool:=match c.ls.getLast? with
 |none=>false
 |some l=>decide (c.ls.length≤256)&&(mayT c.t&&(decide (c.t.root=l.root)&&heldB (fitsB c.t.ns) c.ls))
def noneK:Dg:=⟨sha256 [0],S8.bytes_len _⟩
def firstK(t:Tr):Lk:=⟨⟨0,z0,sumM t,noneK,0⟩,t.root,[],[],[]⟩
def appliedB(ns:List Nd)(box:Dg)(y l:Lk):Bool:=decide (applyE (verT ns y.root) y.h l.ds l.xs box=0)&&(decide (applyH (verT ns y.root) y.h l.ds l.xs box=l.h)&&
 (decide (applyR (verT ns y.root) y.h l.ds l.xs box=l.rs)&&decide (applyL (verT ns y.root) y.h l.ds l.xs box=allT (verT ns l.root))))
def mdK(ns:List Nd)(box:Dg)(a:Option Lk)(l:Lk):Bool:=match a with
 |none=>decide (l=firstK (verT ns l.root))
 |some y=>appliedB ns box y l
def soundC(c:Ch)(box:Dg):Bool:=mayC c&&heldB (mdK c.t.ns box) c.ls
theorem Yk6{ns ms:List Nd}{r:Int}(h:r≤ns.length):verT (ns++ms) r=verT ns r:=by
 unfold verT
 rw[List.take_append_of_le_length (by omega)]
theorem Ymj{ns:List Nd}(h:Ones ns)(k:Nat):Ones (ns.take k):=fun i hi=>by
 rw[List.length_take]at hi
 rw[List.getElem_take]
 exact h i (by omega)
theorem Ylv{ns:List Nd}{root r:Int}(h:mayT ⟨ns,root⟩=true)(h0:0≤r)(h1:r≤ns.length):mayT (verT ns r)=mayT ⟨ns,r⟩∧allT (verT ns r)=allT ⟨ns,r⟩:=by
 obtain⟨a0,_,_,ho,_⟩:=ZaX.1 h
 dsimp only at a0 ho
 have hl:(ns.take r.toNat).length=r.toNat:=by rw[List.length_take];omega
 have ho':=Ymj ho r.toNat
 have hr:=Zjl (ms:=ns.drop r.toNat) ho' 256 r z0 h0 (by rw[hl];omega)
 have hf:=Zhd (ms:=ns.drop r.toNat) ho' 256 r h0 (by rw[hl];omega)
 rw[List.take_append_drop]at hr hf
 refine⟨?_,hf.symm⟩
 rw[Bool.eq_iff_iff,ZaX,ZaX]
 dsimp only[verT]
 rw[hl,←hr]
 exact⟨fun h=>⟨a0,h0,h1,ho,h.2.2.2.2⟩,fun h=>⟨by omega,h0,by omega,ho',h.2.2.2.2⟩⟩
theorem YlH{ns:List Nd}{root:Int}(h:mayA ⟨ns,root⟩=true):mayA (verT ns root)=true∧allT (verT ns root)=allT ⟨ns,root⟩:=by
 unfold mayA at h
 simp only[Bool.and_eq_true]at h
 obtain⟨_,a1,a2,_,_⟩:=ZaX.1 h.1
 obtain⟨e1,e2⟩:=Ylv h.1 a1 a2
 refine⟨?_,e2⟩
 unfold mayA
 rw[e1,e2,h.1,h.2]
 rfl
theorem YlF{t u:Tr}(hm:mayA t=mayA u)(ha:allT t=allT u)(x:Hd)(ds:List Dp)(xs:List Tx)(box:Dg):applyE t x ds xs box=applyE u x ds xs box∧applyL t x ds xs box=applyL u x ds xs box∧
  applyR t x ds xs box=applyR u x ds xs box∧applyH t x ds xs box=applyH u x ds xs box:=by
 have e:applyE t x ds xs box=applyE u x ds xs box:=by unfold applyE;rw[hm,ha]
 unfold applyL applyR applyH
 rw[e,ha]
 exact⟨rfl,rfl,rfl,rfl⟩
theorem YkM{c:Ch}:mayC c=true↔∃l,c.ls.getLast? =some l∧c.ls.length≤256∧mayT c.t=true∧c.t.root=l.root∧heldB (fitsB c.t.ns) c.ls=true:=by
 unfold mayC
 cases h:c.ls.getLast? with
 |none=>simp
 |some l=>simp
theorem Ymf{ns:List Nd}{a:Option Lk}{l:Lk}(h:fitsB ns a l=true):placedB a l=true∧(0≤l.root∧l.root≤ns.length∧mayA (verT ns l.root)=true)∧partsB l=true:=by
 unfold fitsB stateB at h
 simp only[Bool.and_eq_true,decide_eq_true_eq]at h
 exact⟨h.1,h.2.1,h.2.2⟩
theorem Yk4{c:Ch}(h:mayC c=true){i:Nat}(hi:i<c.ls.length):placedB (aheadK c.ls i) c.ls[i]=true∧(0≤c.ls[i].root∧c.ls[i].root≤c.t.ns.length∧mayA (verT c.t.ns c.ls[i].root)=true)∧partsB c.ls[i]=true:=by
 obtain⟨l,_,_,_,_,h5⟩:=YkM.1 h
 exact Ymf (YkL.1 h5 i hi)
theorem last_at{ls:List Lk}{l:Lk}(h:ls.getLast? =some l):∃hi:ls.length-1<ls.length,ls[ls.length-1]=l:=by
 rw[List.getLast?_eq_getElem?]at h
 exact⟨(List.getElem?_eq_some_iff.1 h).1,(List.getElem?_eq_some_iff.1 h).2⟩
theorem YmG{ns ms:List Nd}{l:Lk}(h:l.root≤ns.length):stateB (ns++ms) l=stateB ns l:=by
 unfold stateB
 rw[Yk6 h]
 congr 2
 rw[Vx3]
 exact decide_eq_decide.2 ⟨fun _=>h,fun _=>by omega⟩
def addC(c:Ch)(o:Tr)(x:Hd)(ds:List Dp)(xs:List Tx)(rs:List Rc):Ch:=⟨o,c.ls++[⟨x,o.root,ds,xs,rs⟩]⟩
def cutC(c:Ch)(k:Nat):Ch:=⟨⟨c.t.ns,((c.ls[k]?).map Lk.root).getD 0⟩,c.ls.take (k+1)⟩
def topH(c:Ch):Hd:=((c.ls.getLast?).map Lk.h).getD zH
theorem Ylh(box:Dg):∀(xs:List Tx) (ps:List Pr),payE box ps xs=0→signedB xs=true
 |[],_,_=>rfl
 |x::xs,ps,h=>by
  unfold payE at h
  split at h
  ·rename_i hx
   split at h
   ·have ih:=Ylh box xs _ h
    unfold signedB at ih ⊢
    rw[List.all_cons,ih,Bool.and_true,decide_eq_true_eq]
    unfold checkX at hx
    split at hx
    ·rename_i hs
     show x={ x with s:=signD x }
     rw[← hs]
    ·cases hx
   ·cases h
  ·cases h
theorem Ymt{t:Tr}{x:Hd}{ds:List Dp}{xs:List Tx}{box:Dg}(h:applyE t x ds xs box=0):follows (applyH t x ds xs box) x=true∧((applyR t x ds xs box).length:Int)=(applyH t x ds xs box).m:=by
 obtain⟨_,h2,h3,h4,h5,_⟩:=ZeI h
 have hl:=ZgK h
 have e:applyH t x ds xs box=headB x (madeL (allT t) ds xs box) (madeRs (allT t) ds xs box):=by unfold applyH;rw[if_pos h]
 have er:applyR t x ds xs box=madeRs (allT t) ds xs box:=by unfold applyR;rw[if_pos h]
 rw[er]at hl ⊢
 rw[e]
 have hm:=h2
 unfold mayH at hm
 simp only[Bool.and_eq_true,decide_eq_true_eq]at hm
 refine⟨?_,rfl⟩
 unfold follows headB
 rw[h2]
 simp only[decide_true,Bool.and_true,Bool.true_and]
 unfold mayH
 simp only[Bool.and_eq_true,decide_eq_true_eq]
 omega
theorem YlN{c:Ch}{box:Dg}{ds:List Dp}{xs:List Tx}{o:Tr}(hm:mayC c=true)(hl:c.ls.length<256)(h:applyE c.t (topH c) ds xs box=0)(ho:ApplyOk c.t (topH c) ds xs box o):
  mayC (addC c o (applyH c.t (topH c) ds xs box) ds xs (applyR c.t (topH c) ds xs box))=true:=by
 obtain⟨l,k1,k2,k3,k4,k5⟩:=YkM.1 hm
 have ht:topH c=l.h:=by unfold topH;rw[k1];rfl
 obtain⟨hi,hL⟩:=last_at k1
 unfold ApplyOk at ho
 rw[if_pos h]at ho
 obtain⟨o1,o2,o3,r,o4⟩:=ho
 obtain⟨f1,f2⟩:=Ymt h
 obtain⟨_,h2,h3,h4,h5,h6⟩:=ZeI h
 obtain⟨v1,v2⟩:=YlH o1
 have o1':=o1
 unfold mayA at o1'
 simp only[Bool.and_eq_true]at o1'
 obtain⟨_,w1,w2,_,_⟩:=ZaX.1 o1'.1
 refine YkM.2 ⟨_,List.getLast?_concat,by simp[addC];omega,o1'.1,rfl,YkL.2 fun i hi'=>?_⟩
 simp only[addC,Vx3,List.length_singleton]at hi'
 show fitsB o.ns (aheadK (c.ls++[_]) i) ((c.ls++[_])[i]'(by rw[Vx3,List.length_singleton];exact hi'))=true
 rw[YlE _ _ (by omega)]
 rcases Nat.lt_or_ge i c.ls.length with hlt|hge
 ·rw[List.getElem_append_left hlt]
  have:=YkL.1 k5 i hlt
  obtain⟨_,⟨_,q,_⟩,_⟩:=Yk4 hm hlt
  unfold fitsB at this ⊢
  rw[o4,YmG q]
  exact this
 ·obtain rfl:i=c.ls.length:=by omega
  rw[List.getElem_append_right (Vx8 _)]
  simp only[Nat.sub_self,List.getElem_cons_zero]
  have ha:aheadK c.ls c.ls.length=some l:=by
   unfold aheadK
   rw[if_neg (by omega),Vx9 hi,hL]
  rw[ha]
  unfold fitsB placedB stateB partsB
  simp only[Bool.and_eq_true,decide_eq_true_eq]
  rw[← ht]
  exact⟨f1,⟨w1,w2,v1⟩,f2,h4,h5,Ylh box xs _ h6⟩
theorem Yng{ns ms:List Nd}{box:Dg}{a:Option Lk}{l:Lk}(hl:l.root≤ns.length)(ha:∀y,a=some y→y.root≤ns.length):mdK (ns++ms) box a l=mdK ns box a l:=by
 cases a with
 |none=>unfold mdK;simp only[];rw[Yk6 hl]
 |some y=>unfold mdK appliedB;simp only[];rw[Yk6 hl,Yk6 (ha y rfl)]
theorem Ynr{c:Ch}{box:Dg}{ds:List Dp}{xs:List Tx}{o:Tr}(hs:soundC c box=true)(hl:c.ls.length<256)(h:applyE c.t (topH c) ds xs box=0)(ho:ApplyOk c.t (topH c) ds xs box o):
  soundC (addC c o (applyH c.t (topH c) ds xs box) ds xs (applyR c.t (topH c) ds xs box)) box=true:=by
 unfold soundC at hs ⊢
 simp only[Bool.and_eq_true]at hs ⊢
 obtain⟨hm,hh⟩:=hs
 refine⟨YlN hm hl h ho,YkL.2 fun i hi'=>?_⟩
 obtain⟨l,k1,k2,k3,k4,k5⟩:=YkM.1 hm
 have ht:topH c=l.h:=by unfold topH;rw[k1];rfl
 obtain⟨hi,hL⟩:=last_at k1
 unfold ApplyOk at ho
 rw[if_pos h]at ho
 obtain⟨o1,o2,o3,r,o4⟩:=ho
 obtain⟨v1,v2⟩:=YlH o1
 have hroot:∀y∈c.ls,y.root≤c.t.ns.length:=fun y hy=>by
  obtain⟨k,hk,rfl⟩:=List.getElem_of_mem hy
  exact(Yk4 hm hk).2.1.2.1
 simp only[addC,Vx3,List.length_singleton]at hi'
 show mdK o.ns box (aheadK (c.ls++[_]) i) ((c.ls++[_])[i]'(by rw[Vx3,List.length_singleton];exact hi'))=true
 rw[YlE _ _ (by omega)]
 rcases Nat.lt_or_ge i c.ls.length with hlt|hge
 ·rw[List.getElem_append_left hlt,o4,Yng (hroot _ (List.getElem_mem hlt)) fun y hy=>hroot y (Ymn hy)]
  exact YkL.1 hh i hlt
 ·obtain rfl:i=c.ls.length:=by omega
  rw[List.getElem_append_right (Vx8 _)]
  simp only[Nat.sub_self,List.getElem_cons_zero]
  have ha:aheadK c.ls c.ls.length=some l:=by
   unfold aheadK
   rw[if_neg (by omega),Vx9 hi,hL]
  have hml:l∈c.ls:=hL▸List.getElem_mem hi
  obtain⟨_,⟨q0,q1,q2⟩,_⟩:=Yk4 hm hi
  rw[hL]at q0 q1 q2
  have hz:=ZeI h
  obtain⟨z1,_,_⟩:=hz
  have e2:allT (verT o.ns l.root)=allT c.t:=by
   rw[o4,Yk6 q1,(Ylv (root:=c.t.root) k3 q0 q1).2]
   show allT ⟨c.t.ns,l.root⟩=allT ⟨c.t.ns,c.t.root⟩
   rw[k4]
  have e1:mayA (verT o.ns l.root)=mayA c.t:=by rw[o4,Yk6 q1,q2,z1]
  obtain⟨a1,a2,a3,a4⟩:=YlF e1 e2 l.h ds xs box
  rw[ha]
  unfold mdK appliedB
  simp only[]
  rw[a1,a2,a3,a4,←ht,v2,h]
  simp[o2]
theorem YkV{c:Ch}{k:Nat}(hk:k<c.ls.length):cutC c k=⟨⟨c.t.ns,c.ls[k].root⟩,c.ls.take (k+1)⟩:=by unfold cutC;rw[Vx9 hk];rfl
theorem YlP{c:Ch}{k:Nat}(hm:mayC c=true)(hk:k<c.ls.length):mayC (cutC c k)=true:=by
 obtain⟨l,k1,k2,k3,k4,k5⟩:=YkM.1 hm
 obtain⟨_,⟨q0,q1,q2⟩,_⟩:=Yk4 hm hk
 have q3:=q2
 unfold mayA at q3
 simp only[Bool.and_eq_true]at q3
 rw[YkV hk]
 refine YkM.2 ⟨c.ls[k],?_,by simp;omega,by rw[← (Ylv (root:=c.t.root) k3 q0 q1).1];exact q3.1,rfl,YkL.2 fun i hi=>?_⟩
 ·show (c.ls.take (k+1)).getLast? =_
  rw[List.getLast?_eq_getElem?,List.length_take,List.getElem?_take]
  rw[if_pos (by omega),show min (k+1) c.ls.length-1=k by omega,Vx9 hk]
 ·have hi2:i<c.ls.length:=by simp only[List.length_take]at hi;omega
  show fitsB c.t.ns (aheadK (c.ls.take (k+1)) i) (c.ls.take (k+1))[i]=true
  rw[Ylm _ (by simp only[List.length_take]at hi;omega),List.getElem_take]
  exact YkL.1 k5 i hi2
structure LkS where
 D:Option Addr
 d:Nat
 X:Option Addr
 e:Nat
 R:Option Addr
 r:Nat
def lkT(x:Lk)(s:LkS):List Value:=[.int .i64 x.root,.slice s.D x.ds.length s.d,.slice s.X x.xs.length s.e,.slice s.R x.rs.length s.r]
def lkC(x:Lk)(s:LkS):List Value:=hdC x.h++lkT x s
instance:Enc Lk:=Enc.by_ fun x=>(x.h,x.root,(⟨x.ds,x.xs⟩:Bd),x.rs)
instance:Enc Ch:=Enc.by_ fun x=>(x.t,x.ls)
theorem Ynk:Enc.size Lk=102:=rfl
theorem Yk8(x:Lk)(s:LkS):(lkC x s).length=102:=by simp[lkC,lkT,ZlC]
structure LkOk (F:Nat→Prop) (w:World) (x:Lk) (s:LkS):Prop where
 hd:x.h.ok
 root:I64 x.root
 ds:Row F w s.D x.ds
 xs:Row F w s.X x.xs
 rs:Row F w s.R x.rs
 dc:x.ds.length≤s.d∧s.d≤maxLen
 xc:x.xs.length≤s.e∧s.e≤maxLen
 rc:x.rs.length≤s.r∧s.r≤maxLen
theorem Ynv{F:Nat→Prop}{w:World}{x:Lk}{vs:List Value}(h:Enc.rep F w x vs):∃s,vs=lkC x s∧LkOk F w x s:=by
 obtain⟨u1,t1,rfl,h1,u2,t2,rfl,⟨h2,b2⟩,u3,t3,rfl,h3,⟨R,r,rfl,r1,r2,r3⟩⟩:=h
 obtain⟨rfl,ho⟩:=ZiR h1
 obtain⟨D,d,X,e,rfl,⟨d1,d2,d3⟩,x1,x2,x3⟩:=Zvg h3
 subst h2
 exact⟨⟨D,d,X,e,R,r⟩,by simp[lkC,lkT],ho,b2,d3,x3,r3,⟨d1,d2⟩,⟨x1,x2⟩,r1,r2⟩
theorem YmD{F:Nat→Prop}{w:World}(x:Hd)(h:x.ok):Enc.rep F w x (hdC x):=
 ⟨[.int .i64 x.h],_,by simp[hdC,hdS],⟨rfl,h.1⟩,x.p.1.map bv,_,rfl,rfl,x.s.1.map bv,_,rfl,rfl,x.r.1.map bv,[.int .i64 x.m],rfl,rfl,⟨rfl,h.2⟩⟩
theorem Yli{F:Nat→Prop}{w:World}{x:Lk}{s:LkS}(h:LkOk F w x s):Enc.rep F w x (lkC x s):=
 ⟨hdC x.h,_,rfl,YmD x.h h.hd,[.int .i64 x.root],_,rfl,⟨rfl,h.root⟩,[.slice s.D x.ds.length s.d,.slice s.X x.xs.length s.e],_,rfl,
  ⟨[.slice s.D x.ds.length s.d],_,rfl,⟨s.D,s.d,rfl,h.dc.1,h.dc.2,h.ds⟩,⟨s.X,s.e,rfl,h.xc.1,h.xc.2,h.xs⟩⟩,⟨s.R,s.r,rfl,h.rc.1,h.rc.2,h.rs⟩⟩
theorem LkOk.kept{F:Nat→Prop}{w w':World}{x:Lk}{s:LkS}(h:LkOk F w x s)(hk:∀b,F b→b<w.heap.size→w'.heap[b]? =w.heap[b]?)(hs:w.heap.size≤w'.heap.size):LkOk F w' x s:=
 ⟨h.hd,h.root,h.ds.kept hk hs,h.xs.kept hk hs,h.rs.kept hk hs,h.dc,h.xc,h.rc⟩
theorem LkOk.bel{F:Nat→Prop}{w w':World}{x:Lk}{s:LkS}(h:LkOk F w x s)(hb:Below w.heap.size w w'):LkOk F w' x s:=h.kept (fun b _ hl=>hb.block b hl) hb.size
def zLk:Lk:=⟨zH,0,[],[],[]⟩
def zLkS:LkS:=⟨none,0,none,0,none,0⟩
def zLkC:Array Value:=(lkC zLk zLkS).toArray
theorem YlW:(Tryz.prog.info? 77).map (fun i=>(i.zero,i.size))=some (some (.agg zLkC),zLkC.size):=by kernel_rfl
theorem YkW(x:Lk)(s:LkS):(Tryz.prog.info? 77).map (·.size)=some (lkC x s).length:=by rw[Yk8];kernel_rfl
theorem Yk5:(Tryz.prog.info? 27).map (·.size)=some 3:=by kernel_rfl
theorem YlX(x:Lk)(s:LkS):zLkC.size=(lkC x s).toArray.size:=by
 show (lkC zLk zLkS).toArray.size=_
 rw[Vx7,Vx7,Yk8,Yk8]
theorem Ymy(x:Lk)(s:LkS):(lkC x s).toArray.all (·.oneCell')=true:=all_oneCell_toArray fun v hv=>by
 simp only[lkC,lkT,List.mem_append,List.mem_cons,List.not_mem_nil,or_false]at hv
 rcases hv with h|rfl|rfl|rfl|rfl
 ·have:=ZbM x.h
  rw[Array.all_eq_true_iff_forall_mem]at this
  exact this v (by simpa using h)
 ·rfl
 ·rfl
 ·rfl
 ·rfl
structure LkAt (W:World) (b o:Nat) (x:Lk) (s:LkS):Prop where
 all:W.rangeAt b o (lkC x s)
 hd:W.rangeAt b o (hdC x.h)
 h:W.cell? ⟨b,o,none⟩=some (.int .i64 x.h.h)
 m:W.cell? ⟨b,o+97,none⟩=some (.int .i64 x.h.m)
 root:W.cell? ⟨b,o+98,none⟩=some (.int .i64 x.root)
 D:W.cell? ⟨b,o+99,none⟩=some (.slice s.D x.ds.length s.d)
 X:W.cell? ⟨b,o+100,none⟩=some (.slice s.X x.xs.length s.e)
 R:W.cell? ⟨b,o+101,none⟩=some (.slice s.R x.rs.length s.r)
 bd:W.rangeAt b (o+99) [.slice s.D x.ds.length s.d,.slice s.X x.xs.length s.e]
theorem LkAt.of{W:World}{b o:Nat}{x:Lk}{s:LkS}(h:W.rangeAt b o (lkC x s)):LkAt W b o x s:=by
 have ht:W.rangeAt b (o+98) (lkT x s):=by
  have:=Zdy (xs:=hdC x.h) (ys:=lkT x s) (zs:=[]) (by rw[List.append_nil];exact h) 98 (ZlC x.h)
  exact this
 have hh:W.rangeAt b o (hdC x.h):=fun j v hv=>h j v (by rw[lkC,List.getElem?_append_left (List.getElem?_eq_some_iff.1 hv).1];exact hv)
 have h0:=hh 0 _ rfl
 have h97:W.cell? ⟨b,o+97,none⟩=some (.int .i64 x.h.m):=hh 97 _ (by
  have e:hdC x.h=([.int .i64 x.h.h]++x.h.p.1.map bv++x.h.s.1.map bv++x.h.r.1.map bv)++[.int .i64 x.h.m]:=by simp[hdC,hdS]
  have l:([.int .i64 x.h.h]++x.h.p.1.map bv++x.h.s.1.map bv++x.h.r.1.map bv:List Value).length=97:=by simp[x.h.p.2,x.h.s.2,x.h.r.2]
  rw[e,List.getElem?_append_right (by omega),l]
  rfl)
 refine⟨h,hh,h0,h97,ht 0 _ rfl,ht 1 _ rfl,ht 2 _ rfl,ht 3 _ rfl,?_⟩
 exact Zdy (xs:=[.int .i64 x.root]) (ys:=[.slice s.D x.ds.length s.d,.slice s.X x.xs.length s.e]) (zs:=[.slice s.R x.rs.length s.r]) ht 1 rfl
theorem LkAt.bel{W W':World}{b o:Nat}{x:Lk}{s:LkS}(h:LkAt W b o x s)(hb:Below W.heap.size W W'):LkAt W' b o x s:=LkAt.of (Zab hb h.all)
theorem LkAt.lt{W:World}{b o:Nat}{x:Lk}{s:LkS}(h:LkAt W b o x s):b<W.heap.size:=Vx5 _ _ h.h
theorem YkS{F:Nat→Prop}{w:World}{A:Option Addr}{ls:List Lk}(h:Row F w A ls){j:Nat}(hj:j<ls.length):
  ∃b o,A=some ⟨b,o,none⟩∧∃s,LkAt w b (o+j * 102) ls[j] s∧LkOk F w ls[j] s:=by
 obtain⟨b,o,rfl,_,_,h3⟩:=h (by omega)
 obtain⟨vs,h1,h2⟩:=h3 j _ (Vx9 hj)
 obtain⟨s,rfl,h4⟩:=Ynv h1
 rw[Ynk]at h2
 exact⟨b,o,rfl,s,LkAt.of h2,h4⟩
theorem Ylo:Slot Tryz.prog Lk 25 77 (.agg zLkC) 192 where
 under:=Tryz.underlying25
 info:=by kernel_rfl
 zero:=by decide +kernel
 pos:=by decide
structure BoxC (W:World) (g:Nat) (A:Option Addr) (n k:Nat) (root:Int) (L:Option Addr) (l m:Nat):Prop where
 all:W.rangeAt g 0 [.slice A n k,.int .i64 root,.slice L l m]
 t:W.rangeAt g 0 [.slice A n k,.int .i64 root]
 ns:W.cell? ⟨g,0,none⟩=some (.slice A n k)
 rt:W.cell? ⟨g,1,none⟩=some (.int .i64 root)
 ls:W.cell? ⟨g,2,none⟩=some (.slice L l m)
theorem BoxC.of{W:World}{g:Nat}{A:Option Addr}{n k:Nat}{root:Int}{L:Option Addr}{l m:Nat}(h:W.rangeAt g 0 [.slice A n k,.int .i64 root,.slice L l m]):BoxC W g A n k root L l m:=
 ⟨h,fun j v hv=>h j v (by rcases j with _|_|j<;>simp at hv ⊢<;>exact hv),h 0 _ rfl,h 1 _ rfl,h 2 _ rfl⟩
theorem BoxC.bel{W W':World}{g:Nat}{A:Option Addr}{n k:Nat}{root:Int}{L:Option Addr}{l m:Nat}(h:BoxC W g A n k root L l m)(hb:Below W.heap.size W W'):BoxC W' g A n k root L l m:=BoxC.of (Zab hb h.all)
theorem BoxC.new(W:World)(A:Option Addr)(n k:Nat)(root:Int)(L:Option Addr)(l m:Nat)(t:TypeId):BoxC (W.alloc (.cells #[.slice A n k,.int .i64 root,.slice L l m] t)) W.heap.size A n k root L l m:=
 BoxC.of (Zae (l:=[.slice A n k,.int .i64 root,.slice L l m]) (Vx0 W _))
theorem YkP{F:Nat→Prop}{w w':World}{p:Addr}{v:Value}(h:Chg F w w')(hn:¬F p.block)(c:w.cell? p=some v):w'.cell? p=some v:=(World.cell?_of_block (h.block _ (Vx5 _ _ c) hn)).trans c
theorem YlS{P:Program}{α:Type}[Enc α]{S E:TypeId}{z:Value}{bytes:Nat}(h:Slot P α S E z bytes)(A:Option Addr)(n c k:Nat)(hk:k≤c)(w:World):
  (Instr.sliceAt S (.slice A n c) none (some (.int .i64 (k:Int))) (some (.int .i64 (k:Int)))).run P w=.ok (.slice A k k) w:=by
 have he:P.underlying S=some (.slice (P.elem S)):=by rw[ZgM h];exact h.under
 rw[run_sliceAt_slice w S _ _ _ _ he,run_slice_hm w S A n c he .i64 .i64 (k:Int) (k:Int) (by omega) (by omega) (by omega),ZgM h,ZnJ h]
 have e:∀q:Nat,(if q=0 then A else A.map (·.add (0 * Enc.size α)))=A:=fun q=>by
  split
  ·rfl
  ·rcases A with _|a
   ·rfl
   ·simp[Addr.add]
 simp only[Result.andThen,sliced,e]
 simp
theorem YkT(A:Option Addr)(n k:Nat)(root:Int)(b o m cap:Nat)(hm:0<m)(hm2:m≤9223372036854775807)(w:World):
  Calls Tryz.prog 41 #[.agg #[.slice A n k,.int .i64 root,.slice (some ⟨b,o,none⟩) m cap]] w fun e w'=>e=.returned (.pointer (some ⟨b,o+(m-1) * 102,none⟩))∧Below w.heap.size w w':=by
 have W0:=Zad w (.cells #[.slice A n k,.int .i64 root,.slice (some ⟨b,o,none⟩) m cap] 27)
 have bC:=(BoxC.new w A n k root (some ⟨b,o,none⟩) m cap 27).ls
 obtain⟨j,rfl⟩:∃j:Nat,m=j+1:=⟨m-1,by omega⟩
 have hw:IntKind.i64.wrap (((j+1:Nat):Int)-1)=j:=by rw[IntKind.wrap_i64];omega
 rw[Nat.add_sub_cancel]
 go_enter Tryz.func41,Tryz.ntmps41
 go_wp2
 go_ret
 exact⟨rfl,W0⟩
theorem Yll(F:Nat→Prop)(A:Option Addr)(c:Nat)(ns:List Nd)(root:Int)(b o:Nat)(x:Lk)(s:LkS)(w:World)(hc:ns.length≤1000000)(hl:LkAt w b o x s)(h0:0≤x.root)(h1:x.root≤ns.length)(h2:ns.length≤c):
  Calls Tryz.prog 49 #[.agg #[.slice A ns.length c,.int .i64 root],.pointer (some ⟨b,o,none⟩)] w fun e w'=>e=.returned (.agg #[.slice A (verT ns x.root).ns.length x.root.toNat,.int .i64 (verT ns x.root).root])∧Below w.heap.size w w':=by
 have hut:=Tryz.underlying24
 obtain⟨k,hk⟩:∃k:Nat,x.root=(k:Int):=⟨x.root.toNat,by omega⟩
 have hlen:(verT ns x.root).ns.length=k:=by unfold verT;simp only[List.length_take];omega
 obtain⟨T0,z0,W0,s0⟩:=Zux w A ns.length c root
 have hL:=(hl.bel W0).root
 rw[hlen,show (verT ns x.root).root=k from hk,hk,Int.toNat_natCast]
 rw[hk]at hL
 have hct:=hid (YlS slotNd A ns.length c k (by omega))
 have hbl:=hid (ZhN A k k k)
 have t0:=T0.ns
 have hbl0:b<w.heap.size:=hl.lt
 replace z0:=hid z0
 replace s0:=hid s0
 replace W0:=hid W0
 clear hl h0 h1 hlen hk T0 hc h2
 go_enter Tryz.func49,Tryz.ntmps49
 go_wp2_with ((with_reducible refine Zac rfl 24 rfl zTrC Zas ?_))
 simp only[Vx2]
 generalize (w.alloc (.cells #[.slice A ns.length c,.int .i64 root] 24)).alloc (.cells zTrC 24)=w0 at *
 have hbw:=hid hbl0
 refine wp_region_noPanic ?_
 refine wp_region_held_drew (S:=fun W=>Chg (fun b=>b=w.heap.size+1) w0 W) (by kernel_rfl) ?_ (fun hHeld=>?_)
 ·exact Chg.of_bel (Zao w0)
 refine' tkP 0 rfl ?_
 refine' tkF 1 (fun W hSw=>YkP hSw (by dsimp only;omega) t0) rfl ?_
 refine' tkW 2 3 ?_
 simp only[sQ]
 refine' tkP 4 rfl ?_
 refine' tkF 5 (fun W hSw=>YkP hSw (by dsimp only;have:=hbw.out;omega) hL) rfl ?_
 refine' tkW 6 7 ?_
 simp only[sQ]
 refine' tkP 8 rfl ?_
 refine' tkF 9 (fun W hSw=>YkP hSw (by dsimp only;have:=hbw.out;omega) hL) rfl ?_
 simp only[sQ]
 refine' tkH 10 rfl (Yb2 (by rfl) _ _ _ _ _ rfl _ _ _ _ _ (hct.out) rfl rfl rfl rfl) ?_
 simp only[sQ]
 refine' tkW 11 12 ?_
 refine' tkP 13 rfl ?_
 refine' tkF 14 (fun W hSw=>YkP hSw (by dsimp only;have:=hbw.out;omega) hL) rfl ?_
 simp only[sQ]
 refine' tkH 15 rfl (Yb1 (by rfl) _ _ rfl _ _ (hbl.out) rfl) ?_
 simp only[sQ]
 refine rdH 16 rfl fun K hK=>?_
 refine Zaj rfl 24 (.tmp 4) (.tmp 20) rfl (w.heap.size+1) _ rfl rfl 24 zTrC z0.out Zah rfl (Zat _ _ _ _) ?_
 intro w2 d2 hG
 have z2:=hid d2
 refine hK.out _ _ (hHeld.trans ((Chg.of_grown hG).mono (fun b _ e=>(by injection e)))) fun hHeld=>?_
 clear hK K
 try simp only[sQ]
 refine dnN ?_
 go_wp2
 exact Vy0 (results_cell_row Tryz.results49 _ _ (w.heap.size+1) 24 _ (0,0) _ rfl z2.out hut rfl Zah) rfl ⟨rfl,W0.out.trans (hHeld.below W0.out.size (fun b hb=>by omega))⟩
theorem Ylq(F:Nat→Prop)(A:Option Addr)(c:Nat)(ns:List Nd)(root:Int)(b o:Nat)(x:Lk)(s:LkS)(w:World)(hr:Row F w A ns)(hc:ns.length≤1000000)(hl:LkAt w b o x s):
  Calls Tryz.prog 53 #[.agg #[.slice A ns.length c,.int .i64 root],.pointer (some ⟨b,o,none⟩)] w fun e w'=>e=.returned (.bool (mayT ⟨ns,root⟩&&decide (root=x.root)))∧Below w.heap.size w w':=by
 have hut:=Tryz.underlying24
 have W0:=Zad w (.cells #[.slice A ns.length c,.int .i64 root] 24)
 have T0:=BoxT.new w A ns.length c root 24
 have hL:=(hl.bel W0).root
 have hiT:=hid (show (Tryz.prog.info? 24).map (·.size)=some ([Value.slice A ns.length c,.int .i64 root]).length from Zah)
 have R0:=hid (hr.bel W0)
 have hCk:=hid (fun W hW=>ZeB F A c ns root W hW (by omega))
 obtain⟨m,hm⟩:∃v,mayT ⟨ns,root⟩=v:=⟨_,rfl⟩
 obtain⟨q,hq⟩:∃v,decide (root=x.root)=v:=⟨_,rfl⟩
 have hqb:(root==x.root)=q:=hq
 rw[hm]at hCk
 rw[hm,hq]
 have t1:=T0.rt
 have t9:=hid T0.all
 replace W0:=hid W0
 clear hl hr hc hm hq T0
 go_enter Tryz.func53,Tryz.ntmps53
 go_wp2
 generalize w.alloc (.cells #[.slice A ns.length c,.int .i64 root] 24)=w0 at *
 cases m with
 |false=>
  refine rgB fun hHeld=>?_
  refine' tkM 0 rfl (fun _ h=>Zab h t9.out) hut hiT.out ?_
  simp only[sQ]
  refine rdC 1 rfl (hCk.out _ (R0.out.bel hHeld)) fun w1 hB hHeld=>?_
  try simp only[sQ]
  refine' tkW 2 3 ?_
  refine' tkW 4 5 ?_
  simp only[sQ]
  refine' tkW 6 7 ?_
  refine' tkW 8 9 ?_
  simp only[sQ]
  refine' tkW 10 11 ?_
  refine' tkP 12 rfl ?_
  simp only[sQ]
  refine dnN ?_
  go_wp2
  go_ret
  exact⟨rfl,W0.out.trans (hHeld.mono W0.out.size)⟩
 |true=>
  refine rgB fun hHeld=>?_
  refine' tkM 0 rfl (fun _ h=>Zab h t9.out) hut hiT.out ?_
  simp only[sQ]
  refine rdC 1 rfl (hCk.out _ (R0.out.bel hHeld)) fun w1 hB hHeld=>?_
  try simp only[sQ]
  refine' tkW 2 3 ?_
  refine' tkP 4 rfl ?_
  refine' tkC 5 rfl t1 ?_
  simp only[sQ]
  refine' tkW 6 7 ?_
  refine' tkP 8 rfl ?_
  refine' tkC 9 rfl hL ?_
  simp only[sQ]
  refine' tkW 10 11 ?_
  refine' tkP 12 rfl ?_
  simp only[sQ]
  refine dnN ?_
  go_wp2
  go_ret
  exact⟨rfl,W0.out.trans (hHeld.mono W0.out.size)⟩
def AhdAt(F:Nat→Prop)(w:World)(p:Option Addr):Option Lk→Prop
 |none=>p=none
 |some y=>∃b o s,p=some ⟨b,o,none⟩∧LkAt w b o y s∧LkOk F w y s
theorem AhdAt.bel{F:Nat→Prop}{w w':World}{p:Option Addr}{a:Option Lk}(h:AhdAt F w p a)(hb:Below w.heap.size w w'):AhdAt F w' p a:=by
 cases a with
 |none=>exact h
 |some y=>
  obtain⟨b,o,s,h1,h2,h3⟩:=h
  exact⟨b,o,s,h1,h2.bel hb,h3.bel hb⟩
theorem Ylr(F G:Nat→Prop)(p:Option Addr)(a:Option Lk)(b o:Nat)(x:Lk)(s:LkS)(w:World)(ha:AhdAt G w p a)(hl:LkAt w b o x s)(hx:x.h.ok)(hT:Tab w):
  Calls Tryz.prog 55 #[.pointer p,.pointer (some ⟨b,o,none⟩)] w fun e w'=>e=.returned (.bool (placedB a x))∧Below w.heap.size w w':=by
 have huh:=Tryz.underlying51
 cases a with
 |none=>
  obtain rfl:p=none:=ha
  have c0:=hl.h
  obtain⟨q,hq⟩:∃v,decide (x.h.h=0)=v:=⟨_,rfl⟩
  have hqb:(x.h.h==0)=q:=hq
  unfold placedB
  simp only[hq]
  clear hl hx hT hq
  go_enter Tryz.func55,Tryz.ntmps55
  go_wp2
  go_ret
  exact⟨rfl,Below.refl _ _⟩
 |some y=>
  obtain⟨b2,o2,s2,rfl,l2,k2⟩:=ha
  have hF:=hid (fun W hW=>Zcw x.h y.h hx k2.hd W hW)
  have c1:=hid hl.hd
  have c2:=hid l2.hd
  have j1:=hid (Zbu x.h)
  have j2:=hid (Zbu y.h)
  have hTw:=hid hT
  have hlow:=hid hT.low
  show Calls _ _ _ _ fun e w'=>e=.returned (.bool (follows x.h y.h))∧Below w.heap.size w w'
  clear hl hx hT l2 k2
  go_enter Tryz.func55,Tryz.ntmps55
  go_wp2
  refine rgB fun hHeld=>?_
  refine' tkW 0 1 ?_
  refine' tkP 2 rfl ?_
  refine' tkM 3 rfl (fun _ h=>Zab h c1.out) huh j1.out ?_
  simp only[sQ]
  refine' tkW 4 5 ?_
  refine' tkP 6 rfl ?_
  refine' tkM 7 rfl (fun _ h=>Zab h c2.out) huh j2.out ?_
  simp only[sQ]
  refine rdC 8 rfl (hF.out _ (hTw.out.bel hHeld hlow.out)) fun w1 hB hHeld=>?_
  try simp only[sQ]
  refine' tkP 9 rfl ?_
  simp only[sQ]
  refine dnN ?_
  go_wp2
  go_ret
  exact⟨rfl,hHeld⟩
theorem Yly(F:Nat→Prop)(A:Option Addr)(c:Nat)(ns:List Nd)(root:Int)(b o:Nat)(x:Lk)(s:LkS)(w:World)(hr:Row F w A ns)(hc:ns.length≤1000000)(hcc:ns.length≤c)(hl:LkAt w b o x s):
  Calls Tryz.prog 56 #[.agg #[.slice A ns.length c,.int .i64 root],.pointer (some ⟨b,o,none⟩)] w fun e w'=>e=.returned (.bool (stateB ns x))∧Below w.heap.size w w':=by
 have hut:=Tryz.underlying24
 have W0:=Zad w (.cells #[.slice A ns.length c,.int .i64 root] 24)
 have T0:=BoxT.new w A ns.length c root 24
 have hL:=(hl.bel W0).root
 have hiT:=hid (show (Tryz.prog.info? 24).map (·.size)=some ([Value.slice A ns.length c,.int .i64 root]).length from Zah)
 have R0:=hid ((hr.bel W0).take x.root.toNat)
 have hVe:=hid (fun W hW h0 h1=>Yll F A c ns root b o x s W hc hW h0 h1 hcc)
 have hAc:=hid (fun W hW=>ZcT F A x.root.toNat (verT ns x.root).ns (verT ns x.root).root W hW (by unfold verT;simp only[List.length_take];omega))
 have L0:=hid (hl.bel W0)
 obtain⟨m,hm⟩:∃v,mayA (verT ns x.root)=v:=⟨_,rfl⟩
 obtain⟨q1,hq1⟩:∃v,decide (0≤x.root)=v:=⟨_,rfl⟩
 obtain⟨q2,hq2⟩:∃v,decide (x.root≤(ns.length:Int))=v:=⟨_,rfl⟩
 replace hAc:Hid (∀ W,Row F W A (verT ns x.root).ns→_):=hAc
 have hm2:mayA ⟨(verT ns x.root).ns,(verT ns x.root).root⟩=m:=hm
 rw[hm2]at hAc
 obtain⟨mz,hmz,hmq⟩:∃mz:Int,(if m=true then (0:Int) else 8)=mz∧(mz==0)=m:=by
  cases m
  ·exact⟨8,rfl,rfl⟩
  ·exact⟨0,rfl,rfl⟩
 rw[hmz]at hAc
 unfold stateB
 rw[hm,hq1,hq2]
 have t0:=T0.ns
 have t9:=hid T0.all
 replace W0:=hid W0
 have p1:=hid hq1
 have p2:=hid hq2
 clear hl hr hc hm hm2 T0 hcc hmz
 go_enter Tryz.func56,Tryz.ntmps56
 go_wp2
 generalize w.alloc (.cells #[.slice A ns.length c,.int .i64 root] 24)=w0 at *
 cases q1 with
 |false=>
  refine rgB fun hHeld=>?_
  refine' tkW 0 1 ?_
  refine' tkP 2 rfl ?_
  refine' tkC 3 rfl hL ?_
  simp only[sQ]
  refine' tkW 4 5 ?_
  refine' tkW 6 7 ?_
  simp only[sQ]
  refine' tkW 8 9 ?_
  refine' tkW 10 11 ?_
  simp only[sQ]
  refine' tkW 12 13 ?_
  refine' tkW 14 15 ?_
  simp only[sQ]
  refine' tkW 16 17 ?_
  refine' tkW 18 19 ?_
  simp only[sQ]
  refine' tkW 20 21 ?_
  refine' tkP 22 rfl ?_
  simp only[sQ]
  refine dnN ?_
  go_wp2
  go_ret
  exact⟨rfl,W0.out.trans (hHeld.mono W0.out.size)⟩
 |true=>
  cases q2 with
  |false=>
   refine rgB fun hHeld=>?_
   refine' tkW 0 1 ?_
   refine' tkP 2 rfl ?_
   refine' tkC 3 rfl hL ?_
   simp only[sQ]
   refine' tkW 4 5 ?_
   refine' tkW 6 7 ?_
   simp only[sQ]
   refine' tkP 8 rfl ?_
   refine' tkC 9 rfl hL ?_
   refine' tkP 10 rfl ?_
   refine' tkC 11 rfl t0 ?_
   simp only[sQ]
   refine' tkW 12 13 ?_
   refine' tkW 14 15 ?_
   simp only[sQ]
   refine' tkW 16 17 ?_
   refine' tkW 18 19 ?_
   simp only[sQ]
   refine' tkW 20 21 ?_
   refine' tkP 22 rfl ?_
   simp only[sQ]
   refine dnN ?_
   go_wp2
   go_ret
   exact⟨rfl,W0.out.trans (hHeld.mono W0.out.size)⟩
  |true=>
   have a1:=hid (of_decide_eq_true p1.out)
   have a2:=hid (of_decide_eq_true p2.out)
   refine rgB fun hHeld=>?_
   refine' tkW 0 1 ?_
   refine' tkP 2 rfl ?_
   refine' tkC 3 rfl hL ?_
   simp only[sQ]
   refine' tkW 4 5 ?_
   refine' tkW 6 7 ?_
   simp only[sQ]
   refine' tkP 8 rfl ?_
   refine' tkC 9 rfl hL ?_
   refine' tkP 10 rfl ?_
   refine' tkC 11 rfl t0 ?_
   simp only[sQ]
   refine' tkW 12 13 ?_
   refine' tkW 14 15 ?_
   simp only[sQ]
   refine' tkM 16 rfl (fun _ h=>Zab h t9.out) hut hiT.out ?_
   refine' tkP 17 rfl ?_
   simp only[sQ]
   refine rdC 18 rfl (hVe.out _ (L0.out.bel hHeld) a1.out a2.out) fun w1 hB hHeld=>?_
   try simp only[sQ]
   refine rdC 19 rfl (hAc.out _ (R0.out.bel hHeld)) fun w2 hB hHeld=>?_
   try simp only[sQ]
   refine' tkW 20 21 ?_
   refine' tkP 22 rfl ?_
   simp only[sQ]
   refine dnN ?_
   go_wp2
   go_ret
   exact⟨rfl,W0.out.trans (hHeld.mono W0.out.size)⟩
theorem Ylc(x:Tx)(hx:x.ok)(b:Bool)(hb:decide (x=signX x)=b)(w:World)(hT:Tab w):Calls Tryz.prog 103 #[.agg (txC x).toArray] w fun e w'=>e=.returned (.bool (!b))∧Below w.heap.size w w':=by
 have hux:=Tryz.underlying145
 have W0:=hid (Zad w (.cells (txC x).toArray 145))
 have X0:=hid (Zae (Vx0 w (.cells (txC x).toArray 145)))
 have hC:=hid (fun W hW=>Zds x hx b hb W hW)
 have jx:=hid (Zby x)
 have T0:=hid (hT.bel W0.out hT.low)
 clear hx hb hT
 generalize txC x=cx at *
 go_enter Tryz.func103,Tryz.ntmps103
 go_wp2_with ((with_reducible refine lDr X0.out jx.out hux ?_))
 generalize w.alloc (.cells cx.toArray 145)=w0 at *
 refine(hC.out _ T0.out).mono ?_
 rintro e w1 ⟨rfl,hB⟩
 cases b<;>(go_wp2;go_ret;exact⟨rfl,W0.out.trans (hB.mono W0.out.size)⟩)
theorem YlT{xs:List Tx}{j:Nat}(hj:j<xs.length)(h:signedB (xs.take j)=true):signedB (xs.take (j+1))=decide (xs[j]=signX xs[j]):=by
 unfold signedB at h ⊢
 rw[Vy5 hj,List.all_append,h]
 simp
theorem Ymm{xs:List Tx}{j:Nat}(hj:j<xs.length)(h:decide (xs[j]=signX xs[j])=false):signedB xs=false:=by
 unfold signedB
 rw[Bool.eq_false_iff]
 intro ha
 rw[List.all_eq_true]at ha
 rw[ha _ (List.getElem_mem hj)]at h
 cases h
theorem YlD(F:Nat→Prop)(A:Option Addr)(c:Nat)(xs:List Tx)(w:World)(hr:Row F w A xs)(hc:xs.length≤1000000)(hT:Tab w):
  Calls Tryz.prog 148 #[.slice A xs.length c,.func (.func 103) #[] #[]] w fun e w'=>(∃ r:Int,e=.returned (.int .i64 r)∧decide (r≥0)= !signedB xs)∧Below w.heap.size w w':=by
 obtain⟨ans,ha⟩:∃ans,signedB xs=ans:=⟨_,rfl⟩
 rw[ha]
 replace ha:=hid ha
 have hlow:=hid hT.low
 have hTw:=hid hT
 clear hT
 go_enter Tryz.func148,Tryz.ntmps148
 go_wp2
 go_loopw [8] (fun i wr=>∃j:Nat,j≤xs.length∧i=.int .i64 j∧signedB (xs.take j)=true∧Below w.heap.size w wr) (fun i _=>xs.length-(intOf i).toNat)
 case atStart=>exact⟨0,Nat.zero_le _,rfl,rfl,Below.refl _ _⟩
 case round=>
  obtain⟨j,hj,rfl,hrel,hb⟩:=hrel
  by_cases hlt:j<xs.length
  ·have hux:=Tryz.underlying145
   obtain⟨b,o,hA,r1,m1⟩:=Zvs hr hlt
   subst hA
   obtain⟨eb,heb⟩:∃eb,decide (xs[j]=signX xs[j])=eb:=⟨_,rfl⟩
   have hU:=hid (fun W hW=>Ylc xs[j] m1 eb heb W hW)
   have hyes:=hid (fun h:eb=true=>(YlT hlt hrel).trans (heb.trans h))
   have hno:=hid (fun h:eb=false=>Ymm hlt (heb.trans h))
   have hi1:=hid (Zby xs[j])
   have q1:=hid (Zab hb r1)
   have T1:=hid (hTw.out.bel hb hlow.out)
   clear heb m1 r1
   replace hrel:=hid hrel
   generalize txC xs[j]=d1 at *
   go_wp2_with ((with_reducible refine lDr q1.out hi1.out hux ?_))
   refine(hU.out _ T1.out).mono ?_
   rintro e w1 ⟨rfl,hB⟩
   have Y1:=hb.trans (hB.mono hb.size)
   cases eb with
   |true=>
    replace hyes:=hid (hyes.out rfl)
    clear hno
    go_wp2
    go_roundw
    case rel=>exact⟨j+1,by omega,by go_num,hyes.out,Y1⟩
    case measure=>simp[intOf];omega
   |false=>
    replace hno:=hid (hno.out rfl)
    clear hyes
    go_wp2
    go_ret
    refine⟨⟨_,rfl,?_⟩,Y1⟩
    rw[← ha.out,hno.out]
    exact Vy2 (by omega)
  ·obtain rfl:j=xs.length:=by omega
   rw[List.take_length]at hrel
   have e1:=hid (ha.out.symm.trans hrel)
   replace hrel:=trivial
   go_wp2
   go_ret
   refine⟨⟨_,rfl,?_⟩,hb⟩
   rw[e1.out]
   rfl
theorem Yld(F:Nat→Prop)(A:Option Addr)(c:Nat)(xs:List Tx)(w:World)(hr:Row F w A xs)(hc:xs.length≤1000000)(hT:Tab w):
  Calls Tryz.prog 102 #[.slice A xs.length c,.func (.func 103) #[] #[]] w fun e w'=>e=.returned (.bool (!signedB xs))∧Below w.heap.size w w':=by
 have hI:=hid (YlD F A c xs w hr hc hT)
 clear hr hT
 generalize signedB xs=q at *
 go_enter Tryz.func102,Tryz.ntmps102
 go_wp2_with fail
 refine hI.out.mono ?_
 rintro e w1 ⟨⟨r,rfl,hq⟩,hB⟩
 go_wp2
 go_ret
 exact⟨by simp,hB⟩
theorem Ylx(F:Nat→Prop)(b o:Nat)(x:Lk)(s:LkS)(w:World)(hl:LkAt w b o x s)(hk:LkOk F w x s)(hc:x.xs.length≤1000000)(hT:Tab w):
  Calls Tryz.prog 57 #[.pointer (some ⟨b,o,none⟩)] w fun e w'=>e=.returned (.bool (partsB x))∧Below w.heap.size w w':=by
 have cR:=hl.R
 have cm:=hl.m
 have cD:=hl.D
 have cX:=hl.X
 have hS:=hid (fun W hW hTW=>Yld F s.X s.e x.xs W hW hc hTW)
 have R0:=hid hk.xs
 have hlow:=hid hT.low
 have hTw:=hid hT
 obtain⟨p1,hp1⟩:∃v,decide ((x.rs.length:Int)=x.h.m)=v:=⟨_,rfl⟩
 obtain⟨p2,hp2⟩:∃v,decide (x.ds.length≤16)=v:=⟨_,rfl⟩
 obtain⟨p3,hp3⟩:∃v,decide (x.xs.length≤16)=v:=⟨_,rfl⟩
 have q1:((x.rs.length:Int)==x.h.m)=p1:=hp1
 have q2:decide ((x.ds.length:Int)≤16)=p2:=by rw[← hp2,decide_eq_decide];omega
 have q3:decide ((x.xs.length:Int)≤16)=p3:=by rw[← hp3,decide_eq_decide];omega
 unfold partsB
 rw[hp1,hp2,hp3]
 generalize signedB x.xs=p4 at *
 clear hl hk hc hT hp1 hp2 hp3
 go_enter Tryz.func57,Tryz.ntmps57
 go_wp2
 cases p1 with
 |false=>
  refine rgB fun hHeld=>?_
  refine' tkW 0 1 ?_
  refine' tkP 2 rfl ?_
  refine' tkC 3 rfl cR ?_
  simp only[sQ]
  refine' tkW 4 5 ?_
  refine' tkW 6 7 ?_
  simp only[sQ]
  refine' tkP 8 rfl ?_
  refine' tkC 9 rfl cm ?_
  refine' tkW 10 11 ?_
  simp only[sQ]
  refine' tkW 12 13 ?_
  refine' tkW 14 15 ?_
  simp only[sQ]
  refine' tkW 16 17 ?_
  refine' tkW 18 19 ?_
  simp only[sQ]
  refine' tkW 20 21 ?_
  refine' tkW 22 23 ?_
  simp only[sQ]
  refine' tkW 24 25 ?_
  refine' tkW 26 27 ?_
  simp only[sQ]
  refine' tkW 28 29 ?_
  refine' tkW 30 31 ?_
  simp only[sQ]
  refine' tkW 32 33 ?_
  refine' tkW 34 35 ?_
  simp only[sQ]
  refine' tkW 36 37 ?_
  refine' tkP 38 rfl ?_
  simp only[sQ]
  refine dnN ?_
  go_wp2
  go_ret
  exact⟨rfl,hHeld⟩
 |true=>
  cases p2 with
  |false=>
   refine rgB fun hHeld=>?_
   refine' tkW 0 1 ?_
   refine' tkP 2 rfl ?_
   refine' tkC 3 rfl cR ?_
   simp only[sQ]
   refine' tkW 4 5 ?_
   refine' tkW 6 7 ?_
   simp only[sQ]
   refine' tkP 8 rfl ?_
   refine' tkC 9 rfl cm ?_
   refine' tkW 10 11 ?_
   simp only[sQ]
   refine' tkW 12 13 ?_
   refine' tkW 14 15 ?_
   simp only[sQ]
   refine' tkC 16 rfl cD ?_
   refine' tkW 17 18 ?_
   refine' tkP 19 rfl ?_
   simp only[sQ]
   refine' tkW 20 21 ?_
   refine' tkW 22 23 ?_
   simp only[sQ]
   refine' tkW 24 25 ?_
   refine' tkW 26 27 ?_
   simp only[sQ]
   refine' tkW 28 29 ?_
   refine' tkW 30 31 ?_
   simp only[sQ]
   refine' tkW 32 33 ?_
   refine' tkW 34 35 ?_
   simp only[sQ]
   refine' tkW 36 37 ?_
   refine' tkP 38 rfl ?_
   simp only[sQ]
   refine dnN ?_
   go_wp2
   go_ret
   exact⟨rfl,hHeld⟩
  |true=>
   cases p3 with
   |false=>
    refine rgB fun hHeld=>?_
    refine' tkW 0 1 ?_
    refine' tkP 2 rfl ?_
    refine' tkC 3 rfl cR ?_
    simp only[sQ]
    refine' tkW 4 5 ?_
    refine' tkW 6 7 ?_
    simp only[sQ]
    refine' tkP 8 rfl ?_
    refine' tkC 9 rfl cm ?_
    refine' tkW 10 11 ?_
    simp only[sQ]
    refine' tkW 12 13 ?_
    refine' tkW 14 15 ?_
    simp only[sQ]
    refine' tkC 16 rfl cD ?_
    refine' tkW 17 18 ?_
    refine' tkP 19 rfl ?_
    simp only[sQ]
    refine' tkW 20 21 ?_
    refine' tkW 22 23 ?_
    simp only[sQ]
    refine' tkP 24 rfl ?_
    refine' tkC 25 rfl cX ?_
    refine' tkW 26 27 ?_
    simp only[sQ]
    refine' tkW 28 29 ?_
    refine' tkW 30 31 ?_
    simp only[sQ]
    refine' tkW 32 33 ?_
    refine' tkW 34 35 ?_
    simp only[sQ]
    refine' tkW 36 37 ?_
    refine' tkP 38 rfl ?_
    simp only[sQ]
    refine dnN ?_
    go_wp2
    go_ret
    exact⟨rfl,hHeld⟩
   |true=>
    refine rgB fun hHeld=>?_
    refine' tkW 0 1 ?_
    refine' tkP 2 rfl ?_
    refine' tkC 3 rfl cR ?_
    simp only[sQ]
    refine' tkW 4 5 ?_
    refine' tkW 6 7 ?_
    simp only[sQ]
    refine' tkP 8 rfl ?_
    refine' tkC 9 rfl cm ?_
    refine' tkW 10 11 ?_
    simp only[sQ]
    refine' tkW 12 13 ?_
    refine' tkW 14 15 ?_
    simp only[sQ]
    refine' tkC 16 rfl cD ?_
    refine' tkW 17 18 ?_
    refine' tkP 19 rfl ?_
    simp only[sQ]
    refine' tkW 20 21 ?_
    refine' tkW 22 23 ?_
    simp only[sQ]
    refine' tkP 24 rfl ?_
    refine' tkC 25 rfl cX ?_
    refine' tkW 26 27 ?_
    simp only[sQ]
    refine' tkW 28 29 ?_
    refine' tkW 30 31 ?_
    simp only[sQ]
    refine' tkW 32 33 ?_
    refine' tkC 34 rfl cX ?_
    simp only[sQ]
    refine rdC 35 rfl (hS.out _ (R0.out.bel hHeld) (hTw.out.bel hHeld hlow.out)) fun w1 hB hHeld=>?_
    try simp only[sQ]
    refine' tkW 36 37 ?_
    refine' tkP 38 rfl ?_
    simp only[sQ]
    refine dnN ?_
    go_wp2
    go_ret
    exact⟨by cases p4<;>rfl,hHeld⟩
theorem Ylp(F G H:Nat→Prop)(cb:Nat)(A:Option Addr)(c:Nat)(ns:List Nd)(root:Int)(p:Option Addr)(a:Option Lk)(b o:Nat)(x:Lk)(s:LkS)(w:World)(hcb:w.rangeAt cb 0 [.slice A ns.length c,.int .i64 root])(hr:Row F w A ns)(hc:ns.length≤1000000)(hcc:ns.length≤c)
  (ha:AhdAt G w p a) (hl:LkAt w b o x s) (hk:LkOk H w x s) (hxs:x.xs.length≤1000000) (hT:Tab w):
  Calls Tryz.prog 54 #[.pointer p,.pointer (some ⟨b,o,none⟩),.pointer (some ⟨cb,0,none⟩)] w fun e w'=>e=.returned (.bool (fitsB ns a x))∧Below w.heap.size w w':=by
 have hut:=Tryz.underlying24
 have hiT:=hid (show (Tryz.prog.info? 24).map (·.size)=some ([Value.slice A ns.length c,.int .i64 root]).length from Zah)
 have hP:=hid (Ylr H G p a b o x s w ha hl hk.hd hT)
 have hS:=hid (fun W h1 h2=>Yly F A c ns root b o x s W h1 hc hcc h2)
 have hQ:=hid (fun W h1 h2 h3=>Ylx H b o x s W h1 h2 hxs h3)
 have L0:=hid hl
 have K0:=hid hk
 have R0:=hid hr
 have C0:=hid hcb
 have T0:=hid hT
 have hlow:=hid hT.low
 unfold fitsB
 clear ha hl hk hr hT hcb
 generalize placedB a x=q1 at *
 generalize stateB ns x=q2 at *
 generalize partsB x=q3 at *
 go_enter Tryz.func54,Tryz.ntmps54
 go_wp2_with fail
 refine hP.out.mono ?_
 rintro e w1 ⟨rfl,hB⟩
 have C1:=hid (Zab hB C0.out)
 have R1:=hid (R0.out.bel hB)
 have L1:=hid (L0.out.bel hB)
 have K1:=hid (K0.out.bel hB)
 have T1:=hid (T0.out.bel hB hlow.out)
 cases q1 with
 |false=>
  go_wp2
  go_ret
  exact⟨rfl,hB⟩
 |true=>
  go_wp2_with ((with_reducible refine lDr C1.out hiT.out hut ?_))
  refine(hS.out _ R1.out L1.out).mono ?_
  rintro e w2 ⟨rfl,hB2⟩
  have Y2:=hB.trans (hB2.mono hB.size)
  have L2:=hid (L1.out.bel hB2)
  have K2:=hid (K1.out.bel hB2)
  have T2:=hid (T0.out.bel Y2 hlow.out)
  cases q2 with
  |false=>
   go_wp2
   go_ret
   exact⟨rfl,Y2⟩
  |true=>
   go_wp2_with fail
   refine(hQ.out _ L2.out K2.out T2.out).mono ?_
   rintro e w3 ⟨rfl,hB3⟩
   go_wp2
   go_ret
   exact⟨by cases q3<;>rfl,Y2.trans (hB3.mono Y2.size)⟩
section
open Go.RowKit Go.Shelf
attribute [local go_sem] Oper.semAt_some
theorem Yme(L:Option Addr)(n c:Nat)(w:World):
  Calls Tryz.prog 52 #[.slice L n c] w fun e w'=>e=.returned (.func (.func 99) #[] #[.pointer (some ⟨w.heap.size,0,none⟩)])∧w'=w.alloc (.cells #[.slice L n c] 25):=by
 go_enter Tryz.func52,Tryz.ntmps52
 go_wp2
 go_ret
 exact⟨rfl,rfl⟩
def ahdA(b o:Nat):Nat→Option Addr
 |0=>none
 |j+1=>some ⟨b,o+j * 102,none⟩
def encK(b o:Nat){m:Nat}(j:Fin m):Array Value:=#[.pointer (ahdA b o j.1),.pointer (some ⟨b,o+j.1 * 102,none⟩)]
theorem YmP{len j:Nat}(h:j<len):(List.finRange len).take j++[(⟨j,h⟩:Fin len)]=(List.finRange len).take (j+1):=by
 rw[Vy5 (by rw[List.length_finRange];exact h),List.getElem_finRange]
 rfl
theorem Ymb(n:Nat)(hn:1≤n)(p n₀ lp:Nat)(Z:Nat→Prop)(b o len cap:Nat)(W:World)(hnW:n₀≤W.heap.size)(hlen:len≤1000000)
  (hp:W.heap[p]? =some (.cells #[.slice (some ⟨b,o,none⟩) len cap] 25 (0,0))) (hZ:¬Z p)
  (J Jx:List (Fin len)→World→Prop)
  (hY:∀pre x W1,J pre W1→pre.length<1000001→YieldAt Fence.wide (n-1) Tryz.prog lp (encK b o x) W1 fun e W'=>
   (e=.returned (.bool true)∧J (pre++[x]) W'∧KeepA n₀ Z W1 W')∨(e=.returned (.bool false)∧Jx (pre++[x]) W'))
  (h0:J [] W):
  CallsIn Fence.wide n Tryz.prog 99 #[.func (.yield lp) #[] #[],.pointer (some ⟨p,0,none⟩)] W fun e W'=>(∃ v,e=.returned v)∧
   ((∃ xs,xs=List.finRange len∧J xs W')∨(∃ pre,True∧Jx pre W')):=by
 have c0:=(Zae (l:=[Value.slice (some ⟨b,o,none⟩) len cap]) hp) 0 _ rfl
 replace hY:=hid hY
 replace hlen:=hid hlen
 refine callsIn_of_wp Tryz.func99 rfl trivial ?_ rfl
 simp only[Tryz.ntmps99,Vx7,List.length_cons,List.length_nil,Nat.reduceAdd,Nat.reduceSub,Array.replicate_succ,Array.replicate_zero,List.push_toArray,List.append_toArray,List.nil_append,List.cons_append]
 gi_wp2
 gi_loopw [3,7] (fun a i wr=>∃j:Nat,i=.int .i64 (j:Int)∧j≤len∧a=.pointer (ahdA b o j)∧J ((List.finRange len).take j) wr∧KeepA n₀ Z W wr) (fun _ i _=>len-(intOf i).toNat)
 case atStart=>exact⟨0,rfl,by omega,rfl,h0,KeepA.refl _ _ _⟩
 case round=>
  obtain⟨j,rfl,hj0,rfl,hj,hk⟩:=hrel
  have p1:=(hk.2 _ _ _ _ hp hZ).trans hp
  have c1:=(Zae (l:=[Value.slice (some ⟨b,o,none⟩) len cap]) p1) 0 _ rfl
  by_cases hlt:j<len
  ·have hlt2:(j:Int)<(len:Int):=by omega
   obtain⟨fn,tmps,assign,body,hy,hR⟩:=hY.out ((List.finRange len).take j) ⟨j,hlt⟩ wr hj (by rw[List.length_take];have:=hlen.out;omega)
   dsimp only[encK]at hy
   have hsn:=hid (YmP hlt)
   have hah:=hid (show (Value.pointer (some ⟨b,o+j * 102,none⟩))=.pointer (ahdA b o (j+1)) from rfl)
   generalize ahdA b o j=aj at *
   replace p1:=hid p1
   replace hk:=hid hk
   clear hj
   gi_wp2
   refine hR.mono ?_
   rintro e W3 (⟨rfl,hJ3,hk3⟩|⟨rfl,hJx3⟩)
   ·have hl9:=hlen.out
    have c3:=(Zae (l:=[Value.slice (some ⟨b,o,none⟩) len cap]) ((hk3.2 _ _ _ _ p1.out hZ).trans p1.out)) 0 _ rfl
    gi_wp2
    go_roundw
    case rel=>exact⟨j+1,by go_num,by omega,hah.out,by rw[← hsn.out];exact hJ3,hk.out.trans hk3⟩
    case measure=>simp[intOf];omega
   ·gi_wp2
    refine Vy0 (results_none rfl _ _ _) rfl ?_
    exact⟨⟨_,rfl⟩,.inr ⟨_,trivial,hJx3⟩⟩
  ·obtain rfl:j=len:=by omega
   rw[show (List.finRange j).take j=List.finRange j from List.take_of_length_le (by rw[List.length_finRange];exact Vx8 _)]at hj
   gi_wp2
   go_end0
   first|exact⟨⟨_,rfl⟩,.inl ⟨_,rfl,hj⟩⟩|exact⟨⟨_,rfl⟩,.inl hj⟩
def LoopH(w:World)(fv:Value)(f:Option Lk→Lk→Bool)(ls:List Lk)(pre:List (Fin ls.length))(W:World):Prop:=
 (∀ x∈pre,f (aheadK ls x.1) ls[x.1]=true)∧Boxed W w.heap.size 93 fv∧Boxed W (w.heap.size+1) 4 (.bool false)∧Below w.heap.size w W
def LeftH(w:World)(f:Option Lk→Lk→Bool)(ls:List Lk)(cd:Code)(pre:List (Fin ls.length))(W:World):Prop:=
 cd=.ret∧heldB f ls=false∧Boxed W (w.heap.size+1) 4 (.bool false)∧Below w.heap.size w W
theorem Ymi(w:World)(fv:Value)(f:Option Lk→Lk→Bool)(ls:List Lk)(B:Nat)(hB:w.heap.size≤B):OwnFrom B (LoopH w fv f ls):=by
 rintro pre X Y row ⟨h1,h2,h3,h4⟩ hg hr
 have hr2:=fun r e=>(hr r e).2
 exact⟨h1,h2.kept hg (Zax h2 hr2),h3.kept hg (Zax h3 hr2),h4.grown hg h4.size (fun k e=>Vx1 hB (hr k e).1)⟩
theorem Ymh(w:World)(f:Option Lk→Lk→Bool)(ls:List Lk)(B:Nat)(hB:w.heap.size≤B)(cd:Code):OwnFrom B (LeftH w f ls cd):=by
 rintro pre X Y row ⟨h1,h2,h3,h4⟩ hg hr
 have hr2:=fun r e=>(hr r e).2
 exact⟨h1,h2,h3.kept hg (Zax h3 hr2),h4.grown hg h4.size (fun k e=>Vx1 hB (hr k e).1)⟩
theorem YlK(f:Option Lk→Lk→Bool)(ls:List Lk)(N:Nat)(caps:Array Value)(b o g0 cap:Nat)(w:World)(hN:∀(args:Array Value) (W:World),(callFunc N args).run Tryz.prog W=.ok (.enter N args) W)(hlen:ls.length≤1000000)
  (hp:w.heap[g0]? =some (.cells #[.slice (some ⟨b,o,none⟩) ls.length cap] 25 (0,0)))
  (hf:∀j (hj:j<ls.length) W,Below w.heap.size w W→Calls Tryz.prog N (#[.pointer (ahdA b o j),.pointer (some ⟨b,o+j * 102,none⟩)]++caps) W fun e W'=>e=.returned (.bool (f (aheadK ls j) ls[j]))∧Below W.heap.size W W'):
  Calls Tryz.prog 51 #[.func (.func 99) #[] #[.pointer (some ⟨g0,0,none⟩)],.func (.func N) #[] caps] w fun e w'=>e=.returned (.bool (heldB f ls))∧Below w.heap.size w w':=by
 obtain⟨ans,hans⟩:∃a,heldB f ls=a:=⟨_,rfl⟩
 rw[hans]
 replace hans:=hid hans
 replace hf:=hid hf
 have hlt0:=block_lt hp
 have c1:=(Boxed.new w 93 (.func (.func N) #[] caps)).alloc (.cells #[.bool false] 4)
 have c2:=Boxed.new (w.alloc (.cells #[.func (.func N) #[] caps] 93)) 4 (.bool false)
 rw[Vx2]at c2
 have X2:Below w.heap.size w ((w.alloc (.cells #[.func (.func N) #[] caps] 93)).alloc (.cells #[.bool false] 4)):=by(repeat (first|exact Below.refl _ _|assumption|refine Zag ?_ (by assumption)|refine Zag ?_ (Zad _ _)))
 refine(callsIn_wide (n:=4)).1 ?_
 refine callsIn_of_wp_marks Tryz.func51 rfl trivial ?_ rfl
 simp only[Tryz.ntmps51,Vx7,List.length_cons,List.length_nil,Nat.reduceAdd,Nat.reduceSub,Array.replicate_succ,Array.replicate_zero,List.push_toArray,List.append_toArray,List.nil_append,List.cons_append]
 gi_wp2
 generalize hW0:(w.alloc (.cells #[.func (.func N) #[] caps] 93)).alloc (.cells #[.bool false] 4)=W0 at *
 have Y0:Below w.heap.size w W0:=X2
 have p0:=(Y0.block _ hlt0).trans hp
 refine wpIn_rangeFunc_ownG (F:=Fence.wide) rfl (by omega) (gf:=99) (lb:=#[.pointer (some ⟨g0,0,none⟩)]) rfl trivial (enters_of Tryz.func99 (by kernel_rfl) rfl)
  (encs:=encK b o (m:=ls.length)) (Kp:=KeepA w.heap.size (fun b=>b=w.heap.size+1)) (S:=fun xs=>xs=List.finRange ls.length) (Sp:=fun _=>True) (N:=1000001) (w0:=W0)
  (fun l J Jx W hW hJ hJx hY h0=>Ymb 3 (by omega) g0 w.heap.size l (fun b=>b=w.heap.size+1) b o ls.length cap W (Vx1 Y0.size hW.size) hlen ((hW.block _ (block_lt p0)).trans p0) (fun e=>Nat.lt_irrefl _ (Nat.lt_trans (Nat.lt_succ_self _) (e▸hlt0))) J Jx hY h0)
  (fun h k=>h.trans k) (ZtN Y0.size) (Below.refl _ _) (fun _=>rfl)
  (LoopH w (.func (.func N) #[] caps) f ls) (LeftH w f ls) (Ymi w _ f ls _ Y0.size) (fun cd=>Ymh w f ls _ Y0.size cd)
  ⟨by simp,c1,c2,Y0⟩
  (fun x=>{ tmps:=#[.func (.func 99) #[] #[.pointer (some ⟨g0,0,none⟩)],.func (.func N) #[] caps,undef,.pointer (some ⟨w.heap.size,0,none⟩),.pointer (some ⟨w.heap.size+1,0,none⟩),.pointer (ahdA b o x.1),.pointer (some ⟨b,o+x.1 * 102,none⟩),.func (.func 99) #[] #[.pointer (some ⟨g0,0,none⟩)],.pointer (ahdA b o x.1),.pointer (some ⟨b,o+x.1 * 102,none⟩),undef,undef,undef,undef,undef],defers:=[] }) ?assign ?body ?done ?stop
 case assign=>
  rintro l ⟨j,hj⟩ W K hK
  dsimp only[encK]
  gi_wp2
  exact hK
 case body=>
  rintro l pre ⟨j,hj⟩ W ⟨he0,hF,hE,hB⟩ hlt
  have hcF:=hF.cell
  have hcE:=hE.cell
  have hfE:=hE.frozen
  have hC:=hid (hf.out j hj W hB)
  have hbad:=hid (fun h:f (aheadK ls j) ls[j]=false=>Ymu hj h)
  have hgood:=hid (fun h:f (aheadK ls j) ls[j]=true=>fun (x:Fin ls.length) (hx:x∈pre++[⟨j,hj⟩])=>(show f (aheadK ls x.1) ls[x.1]=true by
   rcases List.mem_append.1 hx with hx|hx
   ·exact he0 x hx
   ·rw[List.mem_singleton.1 hx]
    exact h))
  simp only
  generalize f (aheadK ls j) ls[j]=q at *
  clear he0
  gi_wp2
  refine⟨trivial,CallsIn.inRound l (callsIn_wide.2 (hC.out.mono ?_))⟩
  rintro e w7 ⟨rfl,hB7⟩
  have k1:=Zaw hF hB7 hF.lt
  have k2:=Zaw hE hB7 hE.lt
  have hcE7:=k2.cell
  have hfE7:=k2.frozen
  have Y7:=hB.trans (hB7.mono hB.size)
  cases q with
  |true=>
   gi_wp2
   exact⟨⟨hB7.size,fun k o _ hk _=>(hB7.block _ (Array.getElem?_eq_some_iff.1 hk).1).trans hk⟩,KeepA.bel hB7 hB.size,hgood.out (by first|trivial|rfl),k1,k2,Y7⟩
  |false=>
   gi_wp2
   exact⟨KeepsFrom.trans ⟨hB7.size,fun k o _ hk _=>(hB7.block _ (Array.getElem?_eq_some_iff.1 hk).1).trans hk⟩ ((KeepsOthers.setCell _ _ _).from _),rfl,hbad.out (by first|trivial|rfl),k2.set _,Y7.setCell (p:=⟨w.heap.size+1,0,none⟩) (by show _≤w.heap.size+1;omega) _⟩
 case done=>
  rintro D xs W hD hS ⟨he0,hF,hE,hB⟩ hK
  have hm:heldB f ls=true:=YkL.2 fun i hi=>he0 ⟨i,hi⟩ (by rw[hS];exact List.mem_finRange _)
  have h0:ans=true:=by rw[← hans.out,hm]
  subst h0
  have hcE:=hE.cell
  have hfE:=hE.frozen
  clear hS he0
  gi_wp2
  have X1:=hE.set (.bool true)
  have X4:Below w.heap.size w (W.setCell ⟨w.heap.size+1,0,none⟩ (.bool true)):=hB.setCell (p:=⟨w.heap.size+1,0,none⟩) (by show _≤w.heap.size+1;omega) _
  have X6:(W.setCell ⟨w.heap.size+1,0,none⟩ (.bool true)).heap[D]? =some (.deferred (some [])):=(Vy3 _ _ _ _ (by show D≠w.heap.size+1;have:=hE.lt;intro e;subst e;have h7:W.heap[w.heap.size+1]? =_:=hE;rw[h7]at hK;cases hK)).trans hK
  generalize W.setCell ⟨w.heap.size+1,0,none⟩ (.bool true)=Y at *
  have hD2:=fun (r:Nat) (e:some D=some r)=>(⟨_,by cases e;exact X6,rfl⟩:∃o:Obj,Y.heap[r]? =some o∧o.isCells=false)
  refine⟨by simp,.inl ⟨_,_,rfl,run_takeDeferred X6,?_⟩⟩
  exact⟨_,Zkb rfl _ _ _ _ _ rfl (Zbc Tryz.isAgg4 (X1.kept (grownBy_putObj' Y D _) (Zax X1 hD2))),rfl,X4.trans (belowK_b (w:=w) (Vx8 _) Y D _ _ (Vx1 Y0.size hD) X6 rfl rfl)⟩
 case stop=>
  rintro D cd pre W hD _ ⟨rfl,hx,hE,hB⟩ hK
  have h0:ans=false:=by rw[← hans.out,hx]
  subst h0
  have hD2:=fun (r:Nat) (e:some D=some r)=>(⟨_,by cases e;exact hK,rfl⟩:∃o:Obj,W.heap[r]? =some o∧o.isCells=false)
  gi_wp2
  refine⟨by simp,.inl ⟨_,_,rfl,run_takeDeferred hK,?_⟩⟩
  exact⟨_,Zkb rfl _ _ _ _ _ rfl (Zbc Tryz.isAgg4 (hE.kept (grownBy_putObj' W D _) (Zax hE hD2))),rfl,hB.trans (belowK_b (w:=w) (Vx8 _) W D _ _ (Vx1 Y0.size hD) hK rfl rfl)⟩
end
end Go.Proofs.YtnnclggeifnomaaGreatDoor
