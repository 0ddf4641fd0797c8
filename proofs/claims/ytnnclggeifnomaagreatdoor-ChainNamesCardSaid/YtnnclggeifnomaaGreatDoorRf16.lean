import Derived.Test.YtnnclggeifnomaaGreatDoorPuQ
import Derived.Test.YtnnclggeifnomaaGreatDoorBkX
import Derived.Test.YtnnclggeifnomaaGreatDoorRf13
import Derived.Test.YtnnclggeifnomaaGreatDoorRefG
set_option maxRecDepth 100000
set_option linter.all false
namespace Go.Proofs.YtnnclggeifnomaaGreatDoor
open Go.RowKit
structure PB (W w:World) (x:Tx) (b k:Dg) (a:Ac) (g2 g3:Nat):Prop where
 X:W.heap[w.heap.size]? =some (.cells (txC x).toArray 145 (0,0))
 D:W.heap[w.heap.size+1]? =some (.cells (b.1.map bv).toArray 37 (0,0))
 K:W.heap[g2]? =some (.cells (k.1.map bv).toArray 37 (0,0))
 A:W.heap[g3]? =some (.cells (acC a).toArray 130 (0,0))
 lt2:w.heap.size+1<g2
 lt3:g2<g3
 ext:Below w.heap.size w W
theorem PB.bel{W W' w:World}{x:Tx}{b k:Dg}{a:Ac}{g2 g3:Nat}(h:PB W w x b k a g2 g3)(hb:Below W.heap.size W W'):PB W' w x b k a g2 g3:=
 ⟨(hb.block _ (block_lt h.X)).trans h.X,(hb.block _ (block_lt h.D)).trans h.D,(hb.block _ (block_lt h.K)).trans h.K,(hb.block _ (block_lt h.A)).trans h.A,h.lt2,h.lt3,h.ext.trans (hb.mono h.ext.size)⟩
theorem PB.x{W w:World}{x:Tx}{b k:Dg}{a:Ac}{g2 g3:Nat}(h:PB W w x b k a g2 g3):BoxX W w.heap.size x:=BoxX.of (Zae h.X)
theorem Yaw(box:Dg):∀(xs ys:List Tx) (ps:List Pr),payE box ps xs=0→payE box ps (xs++ys)=payE box (payAll box ps xs) ys
 |[],_,_,_=>rfl
 |x::xs,ys,ps,h=>by
  obtain⟨h1,h2,h3⟩:=Zj6 h
  show (if checkX x=0 then (if nextB ps x=true then payE box (paidL ps x box) (xs++ys) else 2) else 110)=_
  rw[if_pos h1,if_pos h2]
  exact Yaw box xs ys _ h3
theorem ZrV(box:Dg)(xs:List Tx)(ps:List Pr){j:Nat}(hj:j<xs.length)(h:payE box ps (xs.take j)=0):
  payE box ps xs=if decide (xs[j].s=signD xs[j])=true then (if nextB (payAll box ps (xs.take j)) xs[j]=true then payE box (paidL (payAll box ps (xs.take j)) xs[j] box) (xs.drop (j+1)) else 2) else 110:=by
 have e:xs=xs.take j++xs[j]::xs.drop (j+1):=by rw[← List.drop_eq_getElem_cons hj,List.take_append_drop]
 have h2:=Yaw box (xs.take j) (xs[j]::xs.drop (j+1)) ps h
 rw[← e]at h2
 rw[h2]
 show (if checkX xs[j]=0 then _ else _)=_
 by_cases hc:xs[j].s=signD xs[j]
 ·rw[if_pos (show checkX xs[j]=0 from if_pos hc),if_pos (Vy2 hc)]
 ·rw[if_neg (show ¬checkX xs[j]=0 by unfold checkX;rw[if_neg hc];decide),if_neg (by rw[Vy1 hc];decide)]
theorem Zu6(box:Dg)(xs:List Tx)(ps:List Pr){j:Nat}(hj:j<xs.length)(h:payE box ps (xs.take j)=0)(h1:decide (xs[j].s=signD xs[j])=true)(h2:nextB (payAll box ps (xs.take j)) xs[j]=true):
  payE box ps (xs.take (j+1))=0∧payAll box ps (xs.take (j+1))=paidL (payAll box ps (xs.take j)) xs[j] box∧payRs box ps (xs.take (j+1))=payRs box ps (xs.take j)++[⟨2,idX xs[j],paidC (payAll box ps (xs.take j)) xs[j] box⟩]:=by
 rw[Vy5 hj]
 refine⟨(ZpP _ _ _).2 ⟨h,Zjj (if_pos (of_decide_eq_true h1)) h2 rfl⟩,?_,?_⟩
 ·rw[Zk3];rfl
 ·rw[Znr];rfl
def madeE(ps:List Pr)(ds:List Dp)(xs:List Tx)(box:Dg):Int:=payE box (giveAll ps ds) xs
def madeL(ps:List Pr)(ds:List Dp)(xs:List Tx)(box:Dg):List Pr:=if madeE ps ds xs box=0 then payAll box (giveAll ps ds) xs else []
def madeRs(ps:List Pr)(ds:List Dp)(xs:List Tx)(box:Dg):List Rc:=if madeE ps ds xs box=0 then giveRs ps ds++payRs box (giveAll ps ds) xs else []
def AtB(B:Nat)(w1 wr:World)(A1:Option Addr)(c1:Nat)(cur:List Pr)(R:Option Addr)(rc:Nat)(rs:List Rc):Prop:=
 ∃M T,B≤M∧T≤wr.heap.size∧Zone R M T∧OwnM 43 wr M T A1 c1 cur∧OwnR 148 wr w1.heap.size R rc rs∧Below w1.heap.size w1 wr
theorem AtB.bel{B:Nat}{w1 wr w2:World}{A1 R:Option Addr}{c1 rc:Nat}{cur:List Pr}{rs:List Rc}(h:AtB B w1 wr A1 c1 cur R rc rs)(hb:Below wr.heap.size wr w2):AtB B w1 w2 A1 c1 cur R rc rs:=by
 obtain⟨M,T,h1,h2,h3,h4,h5,h6⟩:=h
 exact⟨M,T,h1,Vx1 h2 hb.size,h3,h4.bel hb,OwnQ.bel h5 hb,h6.trans (hb.mono h6.size)⟩
theorem AtB.fresh{B:Nat}{w1 wr w2:World}{A1 A2 R:Option Addr}{c1 c2 rc:Nat}{cur gl:List Pr}{rs:List Rc}(h:AtB B w1 wr A1 c1 cur R rc rs)(hB:B≤w1.heap.size)(hb:Below wr.heap.size wr w2)(hn:OwnR 43 w2 wr.heap.size A2 c2 gl):AtB B w1 w2 A2 c2 gl R rc rs:=by
 obtain⟨M,T,h1,h2,h3,h4,h5,h6⟩:=h
 exact⟨wr.heap.size,w2.heap.size,Vx1 hB h6.size,Vx8 _,fun a ha=>.inl (h5.blk a ha).2,OwnM.of hn,OwnQ.bel h5 hb,h6.trans (hb.mono h6.size)⟩
theorem AtB.row{B:Nat}{w1 wr:World}{A1 R:Option Addr}{c1 rc:Nat}{cur:List Pr}{rs:List Rc}(h:AtB B w1 wr A1 c1 cur R rc rs):∃F,Row F wr A1 cur:=by
 obtain⟨M,T,_,_,_,h4,_,_⟩:=h
 exact⟨_,OwnR.row h4.own⟩
theorem AtB.own{B:Nat}{w1 wr:World}{A1 R:Option Addr}{c1 rc:Nat}{cur:List Pr}{rs:List Rc}(h:AtB B w1 wr A1 c1 cur R rc rs):OwnR 43 wr B A1 c1 cur:=by
 obtain⟨M,T,h1,_,_,h4,_,_⟩:=h
 exact OwnR.base h4.own h1
theorem AtB.recs{B:Nat}{w1 wr:World}{A1 R:Option Addr}{c1 rc:Nat}{cur:List Pr}{rs:List Rc}(h:AtB B w1 wr A1 c1 cur R rc rs):OwnR 148 wr w1.heap.size R rc rs:=by
 obtain⟨M,T,_,_,_,_,h5,_⟩:=h
 exact h5
theorem AtB.ext{B:Nat}{w1 wr:World}{A1 R:Option Addr}{c1 rc:Nat}{cur:List Pr}{rs:List Rc}(h:AtB B w1 wr A1 c1 cur R rc rs):Below w1.heap.size w1 wr:=by
 obtain⟨M,T,_,_,_,_,_,h6⟩:=h
 exact h6
theorem ZnG{F:Nat→Prop}{w:World}{D:Option Addr}{xs:List Rc}(h:Row F w D xs){j:Nat}(hj:j<xs.length):∃b o,D=some ⟨b,o,none⟩∧w.rangeAt b (o+j * 34) (rcC xs[j])∧xs[j].ok:=by
 obtain⟨b,o,rfl,-,-,hc⟩:=h (by omega)
 obtain⟨vs,hv,hcell⟩:=hc j xs[j] (Vx9 hj)
 obtain⟨rfl,hok⟩:=Zr6 hv
 exact⟨b,o,rfl,hcell,hok⟩
def rootD(ps:List Pr):Dg:=⟨rootP 256 ps 0,Zem _ _ _⟩
def headB(x:Hd)(ps:List Pr)(rs:List Rc):Hd:=⟨x.h+1,nameD x,rootD ps,rootR (rs.map rcB),(rs.length:Int)⟩
theorem ZuW(ps:List Pr)(ds:List Dp)(xs:List Tx)(box:Dg):∀r∈madeRs ps ds xs box,mayR r=true:=by
 intro r hr
 unfold madeRs at hr
 split at hr
 ·rcases List.mem_append.1 hr with h|h
  ·exact(Zir _ _ r h).1
  ·exact(Zj5 box _ _ r h).1
 ·cases hr
theorem ZoM(ps:List Pr)(ds:List Dp)(xs:List Tx)(box:Dg):(madeRs ps ds xs box).length≤ds.length+xs.length:=by
 unfold madeRs
 split
 ·rw[Vx3,Zde,Zh3];exact Vx8 _
 ·exact Nat.zero_le _
def applyE(t:Tr)(x:Hd)(ds:List Dp)(xs:List Tx)(box:Dg):Int:=if mayA t=true then (if mayH x=true then (if (x.h==1073741824)=true then 8 else if decide (16<ds.length)=true then 4 else if decide (16<xs.length)=true then 4 else madeE (allT t) ds xs box) else 8) else 8
def applyL(t:Tr)(x:Hd)(ds:List Dp)(xs:List Tx)(box:Dg):List Pr:=if applyE t x ds xs box=0 then madeL (allT t) ds xs box else []
def applyR(t:Tr)(x:Hd)(ds:List Dp)(xs:List Tx)(box:Dg):List Rc:=if applyE t x ds xs box=0 then madeRs (allT t) ds xs box else []
def applyH(t:Tr)(x:Hd)(ds:List Dp)(xs:List Tx)(box:Dg):Hd:=if applyE t x ds xs box=0 then headB x (madeL (allT t) ds xs box) (madeRs (allT t) ds xs box) else zH
def dpL(x:Dp):List (List Lit):=[[litU x.n],x.t.1.map lit8,[litU x.a]]
theorem Yiq{x y:Dp}(h1:x.n=y.n)(h2:x.t=y.t)(h3:x.a=y.a):x=y:=by cases x;cases y;simp_all
theorem Ygo{x y:Dp}:(dpL x).flatten=(dpL y).flatten↔x=y:=by
 constructor
 ·intro h
  simp only[dpL,List.flatten_cons,List.flatten_nil,List.append_nil]at h
  obtain⟨h1,h⟩:=(ZdI (by rfl)).1 h
  obtain⟨h2,h3⟩:=(ZdI (by simp[x.t.2,y.t.2])).1 h
  simp only[List.cons.injEq,and_true]at h1 h3
  exact Yiq (ZjV.1 h1) (ZhQ.1 h2) (ZjV.1 h3)
 ·rintro rfl;rfl
theorem ZyQ:Tryz.prog.cellsOf 142=34:=by kernel_rfl
theorem Ye7(x:Dp)(h:x.ok):FitsK Tryz.prog 3 (Tryz.prog.fieldsOf 142).toList 0 (dpS x) (dpL x):=by
 have c8:Tryz.prog.cellsOf 128=1:=by kernel_rfl
 have cd:Tryz.prog.cellsOf 37=32:=by kernel_rfl
 have ku:=fun n hn=>Zhf Tryz.underlying128 2 n hn
 have kd:=fun d:Dg=>Ziu 1 d
 have hf:(Tryz.prog.fieldsOf 142).toList=(match Tryz.prog.underlying 142 with|some (.struct fs)=>fs|_=>#[]).toList:=by kernel_rfl
 rw[hf,Tryz.underlying142]
 simp only[dpS,dpL,FitsK,c8,cd,ZbO,ku _ h.1,ku _ h.2,kd]
 simp
theorem Ygu(x y:Dp)(hx:x.ok)(hy:y.ok)(b:Bool)(h:decide (x=y)=b)(w:World):
  (Op.equalIn 10000 142 (.agg (dpC x).toArray) (.agg (dpC y).toArray)).run Tryz.prog w=.ok b w:=by
 have hu:Tryz.prog.underlying 142=some (.struct (Tryz.prog.fieldsOf 142)):=by kernel_rfl
 exact Zpp hu 4 (by decide +kernel) (by decide) 3 (dpS x) (dpS y) (dpL x) (dpL y) (by rw[ZyQ];exact ZoJ x) (by rw[ZyQ];exact ZoJ y) (by decide +kernel) (Ye7 x hx) (Ye7 y hy) b (by rw[Ygo,←h,decide_eq_true_eq]) w
theorem ZgI{α:Type}{ps qs:List α}{j:Nat}(h1:j<ps.length)(h2:j<qs.length)(h:ps.take j=qs.take j):ps.take (j+1)=qs.take (j+1)↔ps[j]=qs[j]:=by
 rw[Vy5 h1,Vy5 h2,h]
 exact⟨fun e=>by have:=List.append_cancel_left e;simpa using this,fun e=>by rw[e]⟩
def zDp:Dp:=⟨0,⟨List.replicate 32 0,rfl⟩,0⟩
theorem Ybp:Slot Tryz.prog Dp 32 142 (.agg (dpC zDp).toArray) 48 where
 under:=Tryz.underlying32
 info:=by kernel_rfl
 zero:=by decide +kernel
 pos:=by decide
theorem Zsp:Slot Tryz.prog Tx 33 145 (.agg zTxC) 120 where
 under:=Tryz.underlying33
 info:=by kernel_rfl
 zero:=by decide +kernel
 pos:=by decide
def zBodyC:Array Value:=#[.slice none 0 0,.slice none 0 0]
theorem YbU:(Tryz.prog.info? 35).map (fun i=>(i.zero,i.size))=some (some (.agg zBodyC),zBodyC.size):=by kernel_rfl
theorem ZfA(u v:Value):(Tryz.prog.info? 35).map (·.size)=some ([u,v]:List Value).length:=by
 show _=some 2
 kernel_rfl
theorem YdH(A B:Option Addr)(n m c d:Nat):(#[Value.slice A n c,.slice B m d]:Array Value).all (·.oneCell')=true:=all_oneCell_toArray (cs:=[Value.slice A n c,.slice B m d]) fun u hu=>by
 simp only[List.mem_cons,List.not_mem_nil,or_false]at hu
 rcases hu with rfl|rfl<;>rfl
end Go.Proofs.YtnnclggeifnomaaGreatDoor
