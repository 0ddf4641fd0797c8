import Derived.Test.YtnnclggeifnomaaGreatDoorStX
set_option maxRecDepth 100000
set_option linter.all false
namespace Go.Proofs.YtnnclggeifnomaaGreatDoor
open Go.RowKit
def giveAll:List Pr→List Dp→List Pr
 |ps,[]=>ps
 |ps,d::ds=>giveAll (giveL ps d.t d.a) ds
def giveRs:List Pr→List Dp→List Rc
 |_,[]=>[]
 |ps,d::ds=>⟨1,idD d,giveC ps d.t d.a⟩::giveRs (giveL ps d.t d.a) ds
def payE(box:Dg):List Pr→List Tx→Int
 |_,[]=>0
 |ps,x::xs=>if checkX x=0 then (if nextB ps x=true then payE box (paidL ps x box) xs else 2) else 110
def payAll(box:Dg):List Pr→List Tx→List Pr
 |ps,[]=>ps
 |ps,x::xs=>payAll box (paidL ps x box) xs
def payRs(box:Dg):List Pr→List Tx→List Rc
 |_,[]=>[]
 |ps,x::xs=>⟨2,idX x,paidC ps x box⟩::payRs box (paidL ps x box) xs
theorem Zde:∀(ds:List Dp) (ps:List Pr),(giveRs ps ds).length=ds.length
 |[],_=>rfl
 |d::ds,ps=>by simp[giveRs,Zde ds]
theorem Zh3(box:Dg):∀(xs:List Tx) (ps:List Pr),(payRs box ps xs).length=xs.length
 |[],_=>rfl
 |x::xs,ps=>by simp[payRs,Zh3 box xs]
section
variable{box:Dg}
theorem Zj6{ps:List Pr}{x:Tx}{xs:List Tx}(h:payE box ps (x::xs)=0):checkX x=0∧nextB ps x=true∧payE box (paidL ps x box) xs=0:=by
 unfold payE at h
 split at h
 ·rename_i hc
  split at h
  ·rename_i hn
   exact⟨hc,hn,h⟩
  ·cases h
 ·cases h
theorem Zjj{ps:List Pr}{x:Tx}{xs:List Tx}(h1:checkX x=0)(h2:nextB ps x=true)(h3:payE box (paidL ps x box) xs=0):payE box ps (x::xs)=0:=by
 unfold payE
 rw[if_pos h1,if_pos h2]
 exact h3
theorem ZpP:∀(xs ys:List Tx) (ps:List Pr),payE box ps (xs++ys)=0↔(payE box ps xs=0∧payE box (payAll box ps xs) ys=0)
 |[],ys,ps=>by simp[payE,payAll]
 |x::xs,ys,ps=>by
  constructor
  ·intro h
   obtain⟨h1,h2,h3⟩:=Zj6 (xs:=xs++ys) h
   obtain⟨h4,h5⟩:=(ZpP xs ys _).1 h3
   exact⟨Zjj h1 h2 h4,h5⟩
  ·rintro ⟨h,h5⟩
   obtain⟨h1,h2,h3⟩:=Zj6 h
   exact Zjj (xs:=xs++ys) h1 h2 ((ZpP xs ys _).2 ⟨h3,h5⟩)
theorem Zk3:∀(xs ys:List Tx) (ps:List Pr),payAll box ps (xs++ys)=payAll box (payAll box ps xs) ys
 |[],_,_=>rfl
 |x::xs,ys,ps=>Zk3 xs ys _
theorem Znr:∀(xs ys:List Tx) (ps:List Pr),payRs box ps (xs++ys)=payRs box ps xs++payRs box (payAll box ps xs) ys
 |[],_,_=>rfl
 |x::xs,ys,ps=>by
  show (⟨2,idX x,paidC ps x box⟩:Rc)::payRs box (paidL ps x box) (xs++ys)=_
  rw[Znr xs ys]
  rfl
end
theorem Zm3(ps:List Pr)(k:Dg)(n:Nat):giveC ps k n=0∨giveC ps k n=151:=by
 unfold giveC
 split
 ·exact .inl rfl
 ·exact .inr rfl
theorem ZtS(ps:List Pr)(x:Tx)(box:Dg):paidC ps x box=0∨paidC ps x box=151∨paidC ps x box=150:=by
 unfold paidC
 split
 ·exact .inr (.inr rfl)
 ·split
  ·exact .inr (.inl rfl)
  ·exact .inl rfl
theorem Zir:∀(ds:List Dp) (ps:List Pr),∀r∈giveRs ps ds,mayR r=true∧r.k=1
 |[],_,_,h=>by cases h
 |d::ds,ps,r,h=>by
  rcases List.mem_cons.1 (show r∈(⟨1,idD d,giveC ps d.t d.a⟩:Rc)::giveRs (giveL ps d.t d.a) ds from h) with rfl|h
  ·refine⟨?_,rfl⟩
   unfold mayR
   rw[if_pos rfl]
   exact Vy2 (Zm3 ps d.t d.a)
  ·exact Zir ds _ r h
theorem Zj5(box:Dg):∀(xs:List Tx) (ps:List Pr),∀r∈payRs box ps xs,mayR r=true∧r.k=2
 |[],_,_,h=>by cases h
 |x::xs,ps,r,h=>by
  rcases List.mem_cons.1 (show r∈(⟨2,idX x,paidC ps x box⟩:Rc)::payRs box (paidL ps x box) xs from h) with rfl|h
  ·refine⟨?_,rfl⟩
   unfold mayR
   rw[if_neg (show ¬(2:UInt8)=1 by decide)]
   exact Bool.and_eq_true_iff.2 ⟨rfl,Vy2 (ZtS ps x box)⟩
  ·exact Zj5 box xs _ r h
def OwnM{α:Type}[Enc α](E:TypeId)(w:World)(M T:Nat)(A:Option Addr)(c:Nat)(xs:List α):Prop:=
 ∃F,RowO E F w M A c xs∧(∀ b,F b→M≤b∧b<T∧Soft w b)∧∀a,A=some a→a.block<T
section
variable{α:Type}[Enc α]{E:TypeId}{w w':World}{M T B:Nat}{A:Option Addr}{c:Nat}{xs:List α}
theorem OwnM.of(h:OwnR E w M A c xs):OwnM E w M w.heap.size A c xs:=by
 have hb:=h.blk
 obtain⟨F,h1,h2⟩:=h
 exact⟨F,h1,fun b hf=>⟨(h2 b hf).1,(h2 b hf).2.lt,(h2 b hf).2⟩,fun a ha=>(hb a ha).2⟩
theorem OwnM.own(h:OwnM E w M T A c xs):OwnR E w M A c xs:=by
 obtain⟨F,h1,h2,_⟩:=h
 exact⟨F,h1,fun b hf=>⟨(h2 b hf).1,(h2 b hf).2.2⟩⟩
theorem OwnM.bel(h:OwnM E w M T A c xs)(hb:Below w.heap.size w w'):OwnM E w' M T A c xs:=by
 obtain⟨F,h1,h2,h3⟩:=h
 exact⟨F,h1.bel hb,fun b hf=>⟨(h2 b hf).1,(h2 b hf).2.1,(h2 b hf).2.2.kept (hb.block b (h2 b hf).2.2.lt)⟩,h3⟩
theorem OwnM.alloc(h:OwnM E w M T A c xs)(o:Obj):OwnM E (w.alloc o) M T A c xs:=h.bel (Zad w o)
theorem OwnM.zone(h:OwnM E w M T A c xs){R:Option Addr}(hz:Zone R M T)(hg:w.grownBy w' (R.map (·.block))):OwnM E w' M T A c xs:=by
 have hb:=h.own.blk
 obtain⟨F,h1,h2,h3⟩:=h
 have hne:∀b,M≤b→b<T→some b≠R.map (·.block):=by
  intro b hM hT e
  rcases R with _|r
  ·cases e
  ·simp only[Option.map_some,Option.some.injEq]at e
   have:=hz r rfl
   omega
 exact⟨F,h1.kept (fun a ha hl=>hg.block _ hl (hne _ (hb a ha).1 (h3 a ha))) (fun b hf hl=>hg.block b hl (hne b (h2 b hf).1 (h2 b hf).2.1)),
  fun b hf=>⟨(h2 b hf).1,(h2 b hf).2.1,(h2 b hf).2.2.kept (hg.block b (h2 b hf).2.2.lt (hne b (h2 b hf).1 (h2 b hf).2.1))⟩,h3⟩
end
section
variable{P:Program}
end
theorem Zsb{F:Nat→Prop}{w:World}{D:Option Addr}{ds:List Dp}(h:Row F w D ds){j:Nat}(hj:j<ds.length):∃b o,D=some ⟨b,o,none⟩∧w.rangeAt b (o+j * 34) (dpC ds[j])∧ds[j].ok:=by
 obtain⟨b,o,rfl,-,-,hc⟩:=h (by omega)
 obtain⟨vs,hv,hcell⟩:=hc j ds[j] (Vx9 hj)
 obtain⟨rfl,hok⟩:=Zvh hv
 exact⟨b,o,rfl,hcell,hok⟩
theorem Zvs{F:Nat→Prop}{w:World}{D:Option Addr}{xs:List Tx}(h:Row F w D xs){j:Nat}(hj:j<xs.length):∃b o,D=some ⟨b,o,none⟩∧w.rangeAt b (o+j * 99) (txC xs[j])∧xs[j].ok:=by
 obtain⟨b,o,rfl,-,-,hc⟩:=h (by omega)
 obtain⟨vs,hv,hcell⟩:=hc j xs[j] (Vx9 hj)
 obtain⟨rfl,hok⟩:=ZlF hv
 exact⟨b,o,rfl,hcell,hok⟩
theorem Zh6{F:Nat→Prop}{w:World}(x:Rc)(h:x.ok):Enc.rep F w x (rcC x):=
 ⟨[bv x.k],x.i.1.map bv++[.int .i64 x.c],by simp[rcC,rcS],rfl,x.i.1.map bv,[.int .i64 x.c],rfl,rfl,⟨rfl,h⟩⟩
theorem Zkg:Slot Tryz.prog Rc 75 148 (.agg zRcC) 48 where
 under:=Tryz.underlying75
 info:=by kernel_rfl
 zero:=by decide +kernel
 pos:=by decide
theorem ZjG(x:Rc):Tryz.prog.built 148 [(0,bv x.k),(1,.agg (x.i.1.map bv).toArray),(2,.int .i64 x.c)]=some (rcC x).toArray:=by
 rw[Za5 Zu8]
 have h:=Zgp (place:=fun i=>([(0,1),(1,32),(33,1)]:List (Nat×Nat)).toArray[i]?) (rcS zR) [bv x.k,.agg (x.i.1.map bv).toArray,.int .i64 x.c] 0 [] (by
  have lz:∀d:Dg,(d.1.map bv).length=32:=ZbO
  refine⟨?_,?_,?_,?_,?_,?_,trivial⟩<;>first|rfl|(simp[lz,Value.cells,zR];done))
 exact h
theorem Zjh:∀(ds:List Dp) (ps:List Pr) (d:Dp),giveAll ps (ds++[d])=giveL (giveAll ps ds) d.t d.a
 |[],_,_=>rfl
 |e::ds,ps,d=>Zjh ds (giveL ps e.t e.a) d
theorem ZkO:∀(ds:List Dp) (ps:List Pr) (d:Dp),giveRs ps (ds++[d])=giveRs ps ds++[⟨1,idD d,giveC (giveAll ps ds) d.t d.a⟩]
 |[],_,_=>rfl
 |e::ds,ps,d=>by
  show (⟨1,idD e,giveC ps e.t e.a⟩:Rc)::giveRs (giveL ps e.t e.a) (ds++[d])=_
  rw[ZkO ds (giveL ps e.t e.a) d]
  rfl
theorem ZuL(ps:List Pr)(k:Dg)(n:Nat):I64 (giveC ps k n):=by
 unfold giveC
 split<;>exact⟨by decide,by decide⟩
theorem Zu4(ps:List Pr)(x:Tx)(box:Dg):I64 (paidC ps x box):=by
 unfold paidC
 split
 ·exact⟨by decide,by decide⟩
 ·split<;>exact⟨by decide,by decide⟩
end Go.Proofs.YtnnclggeifnomaaGreatDoor
