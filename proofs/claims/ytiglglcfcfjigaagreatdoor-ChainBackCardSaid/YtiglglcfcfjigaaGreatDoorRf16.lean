import Derived.Test.YtiglglcfcfjigaaGreatDoorRf15
import Derived.Test.YtiglglcfcfjigaaGreatDoorBkX
import Derived.Test.YtiglglcfcfjigaaGreatDoorRf13
import Derived.Test.YtiglglcfcfjigaaGreatDoorRefG
set_option maxRecDepth 100000
set_option linter.all false
set_option maxHeartbeats 8000000
namespace Go.Proofs.YtiglglcfcfjigaaGreatDoor
open Go.RowKit
theorem Yaw(box:Dg):∀(xs ys:List Tx) (ps:List Pr),payE box ps xs=0→payE box ps (xs++ys)=payE box (payAll box ps xs) ys
 |[],_,_,_=>rfl
 |x::xs,ys,ps,h=>by
  obtain⟨h1,h2,h3⟩:=Zj6 h
  show (if checkX x=0 then (if nextB ps x=true then payE box (paidL ps x box) (xs++ys) else 2) else 110)=_
  rw[if_pos h1,if_pos h2]
  exact Yaw box xs ys _ h3
theorem ZrV(box:Dg)(xs:List Tx)(ps:List Pr){j:Nat}(hj:j<xs.length)(h:payE box ps (xs.take j)=0):
  payE box ps xs=if decide (xs[j].s=signD xs[j])=true then (if nextB (payAll box ps (xs.take j)) xs[j]=true then payE box (paidL (payAll box ps (xs.take j)) xs[j] box) (xs.drop (j+1)) else 2) else 110:=by
 have e:xs=xs.take j++xs[j]::xs.drop (j+1):=by rw[← List.drop_eq_getElem_cons hj,List.take_append_drop]
 have h2:=Yaw box (xs.take j) (xs[j]::xs.drop (j+1)) ps h
 rw[← e]at h2
 rw[h2]
 show (if checkX xs[j]=0 then _ else _)=_
 by_cases hc:xs[j].s=signD xs[j]
 ·rw[if_pos (show checkX xs[j]=0 from if_pos hc),if_pos (Vy2 hc)]
 ·rw[if_neg (show ¬checkX xs[j]=0 by unfold checkX;rw[if_neg hc];decide),if_neg (by rw[Vy1 hc];decide)]
theorem Zu6(box:Dg)(xs:List Tx)(ps:List Pr){j:Nat}(hj:j<xs.length)(h:payE box ps (xs.take j)=0)(h1:decide (xs[j].s=signD xs[j])=true)(h2:nextB (payAll box ps (xs.take j)) xs[j]=true):
  payE box ps (xs.take (j+1))=0∧payAll box ps (xs.take (j+1))=paidL (payAll box ps (xs.take j)) xs[j] box∧payRs box ps (xs.take (j+1))=payRs box ps (xs.take j)++[⟨2,idX xs[j],paidC (payAll box ps (xs.take j)) xs[j] box⟩]:=by
 rw[Vy5 hj]
 refine⟨(ZpP _ _ _).2 ⟨h,Zjj (if_pos (of_decide_eq_true h1)) h2 rfl⟩,?_,?_⟩
 ·rw[Zk3];rfl
 ·rw[Znr];rfl
theorem Ye2(w:World)(l m:List Value)(t u:TypeId):
  ((w.alloc (.cells l.toArray t)).alloc (.cells m.toArray u)).rangeAt w.heap.size 0 l∧((w.alloc (.cells l.toArray t)).alloc (.cells m.toArray u)).rangeAt (w.heap.size+1) 0 m∧Below w.heap.size w ((w.alloc (.cells l.toArray t)).alloc (.cells m.toArray u)):=by
 have h1:=Zae (Vx0 w (.cells l.toArray t))
 have h2:=Zae (Vx0 (w.alloc (.cells l.toArray t)) (.cells m.toArray u))
 rw[Vx2]at h2
 exact⟨Zab (Zad _ _) h1,h2,Zag (Zad _ _) (Zad _ _)⟩
def madeE(ps:List Pr)(ds:List Dp)(xs:List Tx)(box:Dg):Int:=payE box (giveAll ps ds) xs
def madeL(ps:List Pr)(ds:List Dp)(xs:List Tx)(box:Dg):List Pr:=if madeE ps ds xs box=0 then payAll box (giveAll ps ds) xs else []
def madeRs(ps:List Pr)(ds:List Dp)(xs:List Tx)(box:Dg):List Rc:=if madeE ps ds xs box=0 then giveRs ps ds++payRs box (giveAll ps ds) xs else []
def AtB(B:Nat)(w1 wr:World)(A1:Option Addr)(c1:Nat)(cur:List Pr)(R:Option Addr)(rc:Nat)(rs:List Rc):Prop:=
 ∃M T,B≤M∧T≤wr.heap.size∧Zone R M T∧OwnM 43 wr M T A1 c1 cur∧OwnR 148 wr w1.heap.size R rc rs∧Below w1.heap.size w1 wr
theorem AtB.bel{B:Nat}{w1 wr w2:World}{A1 R:Option Addr}{c1 rc:Nat}{cur:List Pr}{rs:List Rc}(h:AtB B w1 wr A1 c1 cur R rc rs)(hb:Below wr.heap.size wr w2):AtB B w1 w2 A1 c1 cur R rc rs:=by
 obtain⟨M,T,h1,h2,h3,h4,h5,h6⟩:=h
 exact⟨M,T,h1,Vx1 h2 hb.size,h3,h4.bel hb,OwnQ.bel h5 hb,h6.trans (hb.mono h6.size)⟩
theorem AtB.fresh{B:Nat}{w1 wr w2:World}{A1 A2 R:Option Addr}{c1 c2 rc:Nat}{cur gl:List Pr}{rs:List Rc}(h:AtB B w1 wr A1 c1 cur R rc rs)(hB:B≤w1.heap.size)(hb:Below wr.heap.size wr w2)(hn:OwnR 43 w2 wr.heap.size A2 c2 gl):AtB B w1 w2 A2 c2 gl R rc rs:=by
 obtain⟨M,T,h1,h2,h3,h4,h5,h6⟩:=h
 exact⟨wr.heap.size,w2.heap.size,Vx1 hB h6.size,Vx8 _,fun a ha=>.inl (h5.blk a ha).2,OwnM.of hn,OwnQ.bel h5 hb,h6.trans (hb.mono h6.size)⟩
theorem AtB.row{B:Nat}{w1 wr:World}{A1 R:Option Addr}{c1 rc:Nat}{cur:List Pr}{rs:List Rc}(h:AtB B w1 wr A1 c1 cur R rc rs):∃F,Row F wr A1 cur:=by
 obtain⟨M,T,_,_,_,h4,_,_⟩:=h
 exact⟨_,OwnR.row h4.own⟩
theorem AtB.own{B:Nat}{w1 wr:World}{A1 R:Option Addr}{c1 rc:Nat}{cur:List Pr}{rs:List Rc}(h:AtB B w1 wr A1 c1 cur R rc rs):OwnR 43 wr B A1 c1 cur:=by
 obtain⟨M,T,h1,_,_,h4,_,_⟩:=h
 exact OwnR.base h4.own h1
theorem AtB.recs{B:Nat}{w1 wr:World}{A1 R:Option Addr}{c1 rc:Nat}{cur:List Pr}{rs:List Rc}(h:AtB B w1 wr A1 c1 cur R rc rs):OwnR 148 wr w1.heap.size R rc rs:=by
 obtain⟨M,T,_,_,_,_,h5,_⟩:=h
 exact h5
theorem AtB.ext{B:Nat}{w1 wr:World}{A1 R:Option Addr}{c1 rc:Nat}{cur:List Pr}{rs:List Rc}(h:AtB B w1 wr A1 c1 cur R rc rs):Below w1.heap.size w1 wr:=by
 obtain⟨M,T,_,_,_,_,_,h6⟩:=h
 exact h6
theorem ZnG{F:Nat→Prop}{w:World}{D:Option Addr}{xs:List Rc}(h:Row F w D xs){j:Nat}(hj:j<xs.length):∃b o,D=some ⟨b,o,none⟩∧w.rangeAt b (o+j * 34) (rcC xs[j])∧xs[j].ok:=by
 obtain⟨b,o,rfl,-,-,hc⟩:=h (by omega)
 obtain⟨vs,hv,hcell⟩:=hc j xs[j] (Vx9 hj)
 obtain⟨rfl,hok⟩:=Zr6 hv
 exact⟨b,o,rfl,hcell,hok⟩
def rootD(ps:List Pr):Dg:=⟨rootP 256 ps 0,Zem _ _ _⟩
def headB(x:Hd)(ps:List Pr)(rs:List Rc):Hd:=⟨x.h+1,nameD x,rootD ps,rootR (rs.map rcB),(rs.length:Int)⟩
theorem ZuW(ps:List Pr)(ds:List Dp)(xs:List Tx)(box:Dg):∀r∈madeRs ps ds xs box,mayR r=true:=by
 intro r hr
 unfold madeRs at hr
 split at hr
 ·rcases List.mem_append.1 hr with h|h
  ·exact(Zir _ _ r h).1
  ·exact(Zj5 box _ _ r h).1
 ·cases hr
theorem ZoM(ps:List Pr)(ds:List Dp)(xs:List Tx)(box:Dg):(madeRs ps ds xs box).length≤ds.length+xs.length:=by
 unfold madeRs
 split
 ·rw[Vx3,Zde,Zh3];exact Vx8 _
 ·exact Nat.zero_le _
def applyE(t:Tr)(x:Hd)(ds:List Dp)(xs:List Tx)(box:Dg):Int:=if mayA t=true then (if mayH x=true then (if (x.h==1073741824)=true then 8 else if decide (16<ds.length)=true then 4 else if decide (16<xs.length)=true then 4 else madeE (allT t) ds xs box) else 8) else 8
def applyL(t:Tr)(x:Hd)(ds:List Dp)(xs:List Tx)(box:Dg):List Pr:=if applyE t x ds xs box=0 then madeL (allT t) ds xs box else []
def applyR(t:Tr)(x:Hd)(ds:List Dp)(xs:List Tx)(box:Dg):List Rc:=if applyE t x ds xs box=0 then madeRs (allT t) ds xs box else []
def applyH(t:Tr)(x:Hd)(ds:List Dp)(xs:List Tx)(box:Dg):Hd:=if applyE t x ds xs box=0 then headB x (madeL (allT t) ds xs box) (madeRs (allT t) ds xs box) else zH
def dpL(x:Dp):List (List Lit):=[[litU x.n],x.t.1.map lit8,[litU x.a]]
theorem Yiq{x y:Dp}(h1:x.n=y.n)(h2:x.t=y.t)(h3:x.a=y.a):x=y:=by cases x;cases y;simp_all
theorem Ygo{x y:Dp}:(dpL x).flatten=(dpL y).flatten↔x=y:=by
 constructor
 ·intro h
  simp only[dpL,List.flatten_cons,List.flatten_nil,List.append_nil]at h
  obtain⟨h1,h⟩:=(ZdI (by rfl)).1 h
  obtain⟨h2,h3⟩:=(ZdI (by simp[x.t.2,y.t.2])).1 h
  simp only[List.cons.injEq,and_true]at h1 h3
  exact Yiq (ZjV.1 h1) (ZhQ.1 h2) (ZjV.1 h3)
 ·rintro rfl;rfl
theorem ZyQ:Tryz.prog.cellsOf 142=34:=by kernel_rfl
theorem Ye7(x:Dp)(h:x.ok):FitsK Tryz.prog 3 (Tryz.prog.fieldsOf 142).toList 0 (dpS x) (dpL x):=by
 have c8:Tryz.prog.cellsOf 128=1:=by kernel_rfl
 have cd:Tryz.prog.cellsOf 37=32:=by kernel_rfl
 have ku:=fun n hn=>Zhf Tryz.underlying128 2 n hn
 have kd:=fun d:Dg=>Ziu 1 d
 have hf:(Tryz.prog.fieldsOf 142).toList=(match Tryz.prog.underlying 142 with|some (.struct fs)=>fs|_=>#[]).toList:=by kernel_rfl
 rw[hf,Tryz.underlying142]
 simp only[dpS,dpL,FitsK,c8,cd,ZbO,ku _ h.1,ku _ h.2,kd]
 simp
theorem Ygu(x y:Dp)(hx:x.ok)(hy:y.ok)(b:Bool)(h:decide (x=y)=b)(w:World):
  (Op.equalIn 10000 142 (.agg (dpC x).toArray) (.agg (dpC y).toArray)).run Tryz.prog w=.ok b w:=by
 have hu:Tryz.prog.underlying 142=some (.struct (Tryz.prog.fieldsOf 142)):=by kernel_rfl
 exact Zpp hu 4 (by decide +kernel) (by decide) 3 (dpS x) (dpS y) (dpL x) (dpL y) (by rw[ZyQ];exact ZoJ x) (by rw[ZyQ];exact ZoJ y) (by decide +kernel) (Ye7 x hx) (Ye7 y hy) b (by rw[Ygo,←h,decide_eq_true_eq]) w
theorem ZgI{α:Type}{ps qs:List α}{j:Nat}(h1:j<ps.length)(h2:j<qs.length)(h:ps.take j=qs.take j):ps.take (j+1)=qs.take (j+1)↔ps[j]=qs[j]:=by
 rw[Vy5 h1,Vy5 h2,h]
 exact⟨fun e=>by have:=List.append_cancel_left e;simpa using this,fun e=>by rw[e]⟩
theorem ZmC(F G:Nat→Prop)(A D:Option Addr)(c d:Nat)(ps qs:List Rc)(w:World)(hr:Row F w A ps)(hs:Row G w D qs)(hc:ps.length≤9223372036854775807)(hd:qs.length≤9223372036854775807):
  Calls Tryz.prog 68 #[.slice A ps.length c,.slice D qs.length d] w fun e w'=>e=.returned (.bool (decide (ps=qs)))∧Below w.heap.size w w':=by
 obtain⟨ans,ha⟩:∃ans,decide (ps=qs)=ans:=⟨_,rfl⟩
 rw[ha]
 replace ha:=hid ha
 have hu:=Tryz.underlying148
 by_cases hl:ps.length=qs.length
 ·have hl2:=hid hl
  rw[← hl]at hd ⊢
  replace hl:=hl2
  clear hl2
  go_enter Tryz.func68,Tryz.ntmps68
  go_wp2
  go_loopw [5] (fun i wr=>∃j:Nat,j≤ps.length∧i=.int .i64 j∧ps.take j=qs.take j∧Below w.heap.size w wr) (fun i _=>ps.length-(intOf i).toNat)
  case atStart=>exact⟨0,Nat.zero_le _,rfl,by simp,Below.refl _ _⟩
  case round=>
   obtain⟨j,hj,rfl,hrel,hb⟩:=hrel
   by_cases hlt:j<ps.length
   ·have hlt2:j<qs.length:=by rw[← hl.out];exact hlt
    have E:=hid (ZgI hlt hlt2 hrel)
    replace hrel:=hid hrel
    obtain⟨b,o,hA,r1,k1⟩:=ZnG hr hlt
    obtain⟨b',o',hD,r2,k2⟩:=ZnG hs hlt2
    subst hA hD
    obtain⟨eb,heb⟩:∃eb,decide (ps[j]=qs[j])=eb:=⟨_,rfl⟩
    have hE:∀W,(Op.equalIn 10000 148 (.agg (rcC ps[j]).toArray) (.agg (rcC qs[j]).toArray)).run Tryz.prog W=.ok eb W:=fun W=>ZkL ps[j] qs[j] k1 k2 eb heb W
    have hno:eb=false→false=ans:=by
     intro h
     rw[← ha.out]
     refine(Vy1 fun e=>?_).symm
     have:=E.out.1 (by rw[e])
     rw[h]at heb;simp[this]at heb
    have hyes:eb=true→ps.take (j+1)=qs.take (j+1):=fun h1=>E.out.2 (by simpa [h1] using heb)
    have hi1:=hid (ZdM ps[j])
    have hi2:=hid (ZdM qs[j])
    clear heb E k1 k2
    generalize rcC ps[j]=d1 at *
    generalize rcC qs[j]=d2 at *
    have q1:=hid r1
    have q2:=hid r2
    clear hlt2 r1 r2
    cases eb
    ·replace hno:=hid (hno rfl)
     clear hyes
     go_wp2
     refine rgB fun hHeld=>?_
     refine' tkW 0 1 ?_
     refine' tkP 2 rfl ?_
     refine' tkM 3 rfl (fun _ h=>Zab h (Zab hb q1.out)) hu hi1.out ?_
     simp only[sQ]
     refine' tkW 4 5 ?_
     refine' tkP 6 rfl ?_
     refine' tkM 7 rfl (fun _ h=>Zab h (Zab hb q2.out)) hu hi2.out ?_
     simp only[sQ]
     refine' tkP 8 rfl ?_
     simp only[sQ]
     refine dnN ?_
     go_wp2
     go_ret
     exact⟨by rw[← hno.out];rfl,hb.trans (hHeld.mono hb.size)⟩
    ·replace hyes:=hid (hyes rfl)
     clear hno
     go_wp2
     refine rgB fun hHeld=>?_
     refine' tkW 0 1 ?_
     refine' tkP 2 rfl ?_
     refine' tkM 3 rfl (fun _ h=>Zab h (Zab hb q1.out)) hu hi1.out ?_
     simp only[sQ]
     refine' tkW 4 5 ?_
     refine' tkP 6 rfl ?_
     refine' tkM 7 rfl (fun _ h=>Zab h (Zab hb q2.out)) hu hi2.out ?_
     simp only[sQ]
     refine' tkP 8 rfl ?_
     simp only[sQ]
     refine dnN ?_
     go_wp2
     go_roundw
     case rel=>exact⟨j+1,by omega,by go_num,hyes.out,hb.trans (hHeld.mono hb.size)⟩
     case measure=>simp[intOf];omega
   ·obtain rfl:j=ps.length:=by omega
    have e1:true=ans:=by
     rw[← ha.out]
     refine(Vy2 ?_).symm
     rw[List.take_length]at hrel
     rw[hrel,hl.out,List.take_length]
    replace e1:=hid e1
    replace hrel:=trivial
    go_wp2
    go_ret
    exact⟨by rw[← e1.out];rfl,hb⟩
 ·have e0:false=ans:=by
   rw[← ha.out]
   exact(Vy1 fun e=>hl (by rw[e])).symm
  replace e0:=hid e0
  have q1:((ps.length:Int)==(qs.length:Int))=false:=by rw[beq_eq_false_iff_ne];omega
  clear ha
  go_enter Tryz.func68,Tryz.ntmps68
  go_wp2
  go_ret
  exact⟨by rw[← e0.out];rfl,Below.refl _ _⟩
def bigB(n:Nat):Bool:=(decide (4<(n:Int))&&decide ((n:Int)≤16))||decide (20<(n:Int))
def greatB(n m:Nat):Bool:=bigB n||bigB m
theorem Zom(n:Nat):(bigB n=false∧decide (4<(n:Int))=false∧decide ((n:Int)≤16)=true∧decide (20<(n:Int))=false)∨(bigB n=true∧decide (4<(n:Int))=true∧decide ((n:Int)≤16)=true∧decide (20<(n:Int))=false)∨
  (bigB n=false∧decide (4<(n:Int))=true∧decide ((n:Int)≤16)=false∧decide (20<(n:Int))=false)∨(bigB n=true∧decide (4<(n:Int))=true∧decide ((n:Int)≤16)=false∧decide (20<(n:Int))=true):=by
 unfold bigB
 rcases Nat.lt_or_ge 4 n with h|h
 ·rcases Nat.lt_or_ge 16 n with k|k
  ·rcases Nat.lt_or_ge 20 n with m|m
   ·have a:decide (4<(n:Int))=true:=Vy2 (by omega)
    have b:decide ((n:Int)≤16)=false:=Vy1 (by omega)
    have c:decide (20<(n:Int))=true:=Vy2 (by omega)
    rw[a,b,c];exact .inr (.inr (.inr ⟨rfl,rfl,rfl,rfl⟩))
   ·have a:decide (4<(n:Int))=true:=Vy2 (by omega)
    have b:decide ((n:Int)≤16)=false:=Vy1 (by omega)
    have c:decide (20<(n:Int))=false:=Vy1 (by omega)
    rw[a,b,c];exact .inr (.inr (.inl ⟨rfl,rfl,rfl,rfl⟩))
  ·have a:decide (4<(n:Int))=true:=Vy2 (by omega)
   have b:decide ((n:Int)≤16)=true:=Vy2 (by omega)
   have c:decide (20<(n:Int))=false:=Vy1 (by omega)
   rw[a,b,c];exact .inr (.inl ⟨rfl,rfl,rfl,rfl⟩)
 ·have a:decide (4<(n:Int))=false:=Vy1 (by omega)
  have b:decide ((n:Int)≤16)=true:=Vy2 (by omega)
  have c:decide (20<(n:Int))=false:=Vy1 (by omega)
  rw[a,b,c];exact .inl ⟨rfl,rfl,rfl,rfl⟩
theorem Zgi(D:Option Addr)(d n:Nat)(X:Option Addr)(e m:Nat)(w:World):
  Calls Tryz.prog 28 #[.agg #[.slice D n d,.slice X m e]] w fun r w'=>r=.returned (.bool (greatB n m))∧Below w.heap.size w w':=by
 have hB:=Zae (l:=[Value.slice D n d,.slice X m e]) (Vx0 w (.cells #[Value.slice D n d,.slice X m e] 35))
 have c0:=hB 0 _ rfl
 have c1:=hB 1 _ rfl
 have W0:=hid (Zad w (.cells #[Value.slice D n d,.slice X m e] 35))
 clear hB
 have hg:greatB n m=(bigB n||bigB m):=rfl
 rw[hg]
 rcases Zom n with ⟨p0,p1,p2,p3⟩|⟨p0,p1,p2,p3⟩|⟨p0,p1,p2,p3⟩|⟨p0,p1,p2,p3⟩<;>rcases Zom m with ⟨k0,k1,k2,k3⟩|⟨k0,k1,k2,k3⟩|⟨k0,k1,k2,k3⟩|⟨k0,k1,k2,k3⟩
 all_goals
  rw[p0,k0]
  clear p0 k0 hg
  go_enter Tryz.func28,Tryz.ntmps28
  go_wp2
  go_ret
  exact⟨rfl,W0.out⟩
theorem Zpd(Fa Fb Ga Gb:Nat→Prop)(D:Option Addr)(d:Nat)(ds:List Dp)(X:Option Addr)(e:Nat)(xs:List Tx)(D2:Option Addr)(d2:Nat)(dt:List Dp)(X2:Option Addr)(e2:Nat)(xt:List Tx)(w:World)
  (h1:Row Fa w D ds) (h2:Row Fb w D2 dt) (h3:Row Ga w X xs) (h4:Row Gb w X2 xt) (l1:ds.length≤1000000) (l2:xs.length≤1000000):
  Calls Tryz.prog 82 #[.agg #[.slice D ds.length d,.slice X xs.length e],.agg #[.slice D2 dt.length d2,.slice X2 xt.length e2]] w fun r w'=>r=.returned (.bool (decide (ds=dt)&&decide (xs=xt)))∧Below w.heap.size w w':=by
 obtain⟨ans,ha⟩:∃ans,(decide (ds=dt)&&decide (xs=xt))=ans:=⟨_,rfl⟩
 rw[ha]
 replace ha:=hid ha
 have hud:=Tryz.underlying142
 have hux:=Tryz.underlying145
 obtain⟨Y0,Z0,W0⟩:=Ye2 w [Value.slice D ds.length d,.slice X xs.length e] [Value.slice D2 dt.length d2,.slice X2 xt.length e2] 35 35
 have y0:=Y0 0 _ rfl
 have z0:=Z0 0 _ rfl
 have y1:=Y0 1 _ rfl
 have z1:=Z0 1 _ rfl
 replace Y0:=hid Y0
 replace Z0:=hid Z0
 have Rds:=hid (h1.bel W0)
 have Rdt:=hid (h2.bel W0)
 have Rxs:=hid (h3.bel W0)
 have Rxt:=hid (h4.bel W0)
 replace W0:=hid W0
 clear h1 h2 h3 h4
 by_cases hl:ds.length=dt.length
 rotate_left
 ·have e0:false=ans:=by
   rw[← ha.out,eq_comm,Bool.and_eq_false_iff]
   left
   exact Vy1 fun e=>hl (by rw[e])
  replace e0:=hid e0
  have q1:((ds.length:Int) !=(dt.length:Int))=true:=by rw[bne_iff_ne];omega
  clear ha
  go_enter Tryz.func82,Tryz.ntmps82
  go_wp2
  go_ret
  exact⟨by rw[← e0.out];rfl,W0.out⟩
 have p1:((ds.length:Int) !=(dt.length:Int))=false:=by rw[hl];simp
 by_cases hk:xs.length=xt.length
 rotate_left
 ·have e0:false=ans:=by
   rw[← ha.out,eq_comm,Bool.and_eq_false_iff]
   right
   exact Vy1 fun e=>hk (by rw[e])
  replace e0:=hid e0
  have q1:((xs.length:Int) !=(xt.length:Int))=true:=by rw[bne_iff_ne];omega
  clear ha
  replace hl:=hid hl
  go_enter Tryz.func82,Tryz.ntmps82
  go_wp2
  go_ret
  exact⟨by rw[← e0.out];rfl,W0.out⟩
 have p2:((xs.length:Int) !=(xt.length:Int))=false:=by rw[hk];simp
 have hds:=hid hl
 have hxs:=hid hk
 clear hl hk
 go_enter Tryz.func82,Tryz.ntmps82
 go_wp2
 generalize (w.alloc (.cells #[Value.slice D ds.length d,.slice X xs.length e] 35)).alloc (.cells #[Value.slice D2 dt.length d2,.slice X2 xt.length e2] 35)=w1 at *
 go_loopw [5] (fun i wr=>∃j:Nat,j≤ds.length∧i=.int .i64 j∧ds.take j=dt.take j∧Below w1.heap.size w1 wr) (fun i _=>ds.length-(intOf i).toNat)
 case atStart=>exact⟨0,Nat.zero_le _,rfl,by simp,Below.refl _ _⟩
 case round=>
  clear y0 z0 y1 z1
  obtain⟨j,hj,rfl,hrel,hb⟩:=hrel
  have y0:=(Zab hb Y0.out) 0 _ rfl
  by_cases hlt:j<ds.length
  ·have hlt2:j<dt.length:=by rw[← hds.out];exact hlt
   have E:=hid (ZgI hlt hlt2 hrel)
   replace hrel:=hid hrel
   have y0:=(Zab hb Y0.out) 0 _ rfl
   have z0:=(Zab hb Z0.out) 0 _ rfl
   obtain⟨b,o,hAe,r1,k1⟩:=Zsb (Rds.out.bel hb) hlt
   obtain⟨b',o',hDe,r2,k2⟩:=Zsb (Rdt.out.bel hb) hlt2
   subst hAe hDe
   obtain⟨eb,heb⟩:∃eb,decide (ds[j]=dt[j])=eb:=⟨_,rfl⟩
   have hE:∀W,(Op.equalIn 10000 142 (.agg (dpC ds[j]).toArray) (.agg (dpC dt[j]).toArray)).run Tryz.prog W=.ok eb W:=fun W=>Ygu ds[j] dt[j] k1 k2 eb heb W
   have hno:eb=false→false=ans:=by
    intro h
    rw[← ha.out,eq_comm,Bool.and_eq_false_iff]
    left
    refine Vy1 fun e=>?_
    have:=E.out.1 (by rw[e])
    rw[h]at heb;simp[this]at heb
   have hyes:eb=true→ds.take (j+1)=dt.take (j+1):=fun h1=>E.out.2 (by simpa [h1] using heb)
   have hi1:=hid (Zia ds[j])
   have hi2:=hid (Zia dt[j])
   clear heb E k1 k2
   generalize dpC ds[j]=c1 at *
   generalize dpC dt[j]=c2 at *
   have q1:=hid r1
   have q2:=hid r2
   clear r1 r2
   cases eb
   ·as_aux_lemma=>
    replace hno:=hid (hno rfl)
    clear hyes
    go_wp2
    refine rgB fun hHeld=>?_
    refine' tkP 0 rfl ?_
    refine' tkC 1 rfl y0 ?_
    refine' tkW 2 3 ?_
    simp only[sQ]
    refine' tkM 4 rfl (fun _ h=>Zab h q1.out) hud hi1.out ?_
    refine' tkP 5 rfl ?_
    refine' tkC 6 rfl z0 ?_
    refine' tkP 7 rfl ?_
    simp only[sQ]
    refine' tkP 8 rfl ?_
    refine' tkM 9 rfl (fun _ h=>Zab h q2.out) hud hi2.out ?_
    refine' tkP 10 rfl ?_
    simp only[sQ]
    refine dnN ?_
    go_wp2
    go_ret
    exact⟨by rw[← hno.out];rfl,W0.out.trans ((hb.trans (hHeld.mono hb.size)).mono W0.out.size)⟩
   ·as_aux_lemma=>
    replace hyes:=hid (hyes rfl)
    clear hno
    go_wp2
    refine rgB fun hHeld=>?_
    refine' tkP 0 rfl ?_
    refine' tkC 1 rfl y0 ?_
    refine' tkW 2 3 ?_
    simp only[sQ]
    refine' tkM 4 rfl (fun _ h=>Zab h q1.out) hud hi1.out ?_
    refine' tkP 5 rfl ?_
    refine' tkC 6 rfl z0 ?_
    refine' tkP 7 rfl ?_
    simp only[sQ]
    refine' tkP 8 rfl ?_
    refine' tkM 9 rfl (fun _ h=>Zab h q2.out) hud hi2.out ?_
    refine' tkP 10 rfl ?_
    simp only[sQ]
    refine dnN ?_
    go_wp2
    go_roundw
    case rel=>exact⟨j+1,by omega,by go_num,hyes.out,hb.trans (hHeld.mono hb.size)⟩
    case measure=>simp[intOf];omega
  ·obtain rfl:j=ds.length:=by omega
   have eD:ds=dt:=by rw[List.take_length]at hrel;rw[hrel,hds.out,List.take_length]
   replace eD:=hid eD
   have y0:=(Zab hb Y0.out) 0 _ rfl
   have hb1:=hid hb
   clear hrel hb
   go_wp2
   go_loopw [6] (fun i wr=>∃j:Nat,j≤xs.length∧i=.int .i64 j∧xs.take j=xt.take j∧Below w1.heap.size w1 wr) (fun i _=>xs.length-(intOf i).toNat)
   case atStart=>exact⟨0,Nat.zero_le _,rfl,by simp,hb1.out⟩
   case round=>
    clear y0 hb1
    obtain⟨j,hj,rfl,hrel,hb⟩:=hrel
    have y1:=(Zab hb Y0.out) 1 _ rfl
    by_cases hlt:j<xs.length
    ·have hlt2:j<xt.length:=by rw[← hxs.out];exact hlt
     have E:=hid (ZgI hlt hlt2 hrel)
     replace hrel:=hid hrel
     have y0:=(Zab hb Y0.out) 1 _ rfl
     have z0:=(Zab hb Z0.out) 1 _ rfl
     obtain⟨b,o,hAe,r1,k1⟩:=Zvs (Rxs.out.bel hb) hlt
     obtain⟨b',o',hDe,r2,k2⟩:=Zvs (Rxt.out.bel hb) hlt2
     subst hAe hDe
     obtain⟨eb,heb⟩:∃eb,decide (xs[j]=xt[j])=eb:=⟨_,rfl⟩
     have hE:∀W,(Op.equalIn 10000 145 (.agg (txC xs[j]).toArray) (.agg (txC xt[j]).toArray)).run Tryz.prog W=.ok eb W:=fun W=>Zfm xs[j] xt[j] k1 k2 eb heb W
     have hno:eb=false→false=ans:=by
      intro h
      rw[← ha.out,eq_comm,Bool.and_eq_false_iff]
      right
      refine Vy1 fun e=>?_
      have:=E.out.1 (by rw[e])
      rw[h]at heb;simp[this]at heb
     have hyes:eb=true→xs.take (j+1)=xt.take (j+1):=fun h1=>E.out.2 (by simpa [h1] using heb)
     have hi1:=hid (Zby xs[j])
     have hi2:=hid (Zby xt[j])
     clear heb E k1 k2
     generalize txC xs[j]=c1 at *
     generalize txC xt[j]=c2 at *
     have q1:=hid r1
     have q2:=hid r2
     clear r1 r2
     cases eb
     ·as_aux_lemma=>
      replace hno:=hid (hno rfl)
      clear hyes
      go_wp2
      refine rgB fun hHeld=>?_
      refine' tkP 0 rfl ?_
      refine' tkC 1 rfl y0 ?_
      refine' tkW 2 3 ?_
      simp only[sQ]
      refine' tkM 4 rfl (fun _ h=>Zab h q1.out) hux hi1.out ?_
      refine' tkP 5 rfl ?_
      refine' tkC 6 rfl z0 ?_
      refine' tkP 7 rfl ?_
      simp only[sQ]
      refine' tkP 8 rfl ?_
      refine' tkM 9 rfl (fun _ h=>Zab h q2.out) hux hi2.out ?_
      refine' tkP 10 rfl ?_
      simp only[sQ]
      refine dnN ?_
      go_wp2
      go_ret
      exact⟨by rw[← hno.out];rfl,W0.out.trans ((hb.trans (hHeld.mono hb.size)).mono W0.out.size)⟩
     ·as_aux_lemma=>
      replace hyes:=hid (hyes rfl)
      clear hno
      go_wp2
      refine rgB fun hHeld=>?_
      refine' tkP 0 rfl ?_
      refine' tkC 1 rfl y0 ?_
      refine' tkW 2 3 ?_
      simp only[sQ]
      refine' tkM 4 rfl (fun _ h=>Zab h q1.out) hux hi1.out ?_
      refine' tkP 5 rfl ?_
      refine' tkC 6 rfl z0 ?_
      refine' tkP 7 rfl ?_
      simp only[sQ]
      refine' tkP 8 rfl ?_
      refine' tkM 9 rfl (fun _ h=>Zab h q2.out) hux hi2.out ?_
      refine' tkP 10 rfl ?_
      simp only[sQ]
      refine dnN ?_
      go_wp2
      go_roundw
      case rel=>exact⟨j+1,by omega,by go_num,hyes.out,hb.trans (hHeld.mono hb.size)⟩
      case measure=>simp[intOf];omega
    ·obtain rfl:j=xs.length:=by omega
     have e1:true=ans:=by
      rw[← ha.out,eq_comm,Bool.and_eq_true]
      refine⟨Vy2 eD.out,Vy2 ?_⟩
      rw[List.take_length]at hrel
      rw[hrel,hxs.out,List.take_length]
     replace e1:=hid e1
     replace hrel:=trivial
     go_wp2
     go_ret
     exact⟨by rw[← e1.out];rfl,W0.out.trans (hb.mono W0.out.size)⟩
def zDp:Dp:=⟨0,⟨List.replicate 32 0,rfl⟩,0⟩
theorem Ybp:Slot Tryz.prog Dp 32 142 (.agg (dpC zDp).toArray) 48 where
 under:=Tryz.underlying32
 info:=by kernel_rfl
 zero:=by decide +kernel
 pos:=by decide
theorem Zsp:Slot Tryz.prog Tx 33 145 (.agg zTxC) 120 where
 under:=Tryz.underlying33
 info:=by kernel_rfl
 zero:=by decide +kernel
 pos:=by decide
def zBodyC:Array Value:=#[.slice none 0 0,.slice none 0 0]
theorem YbU:(Tryz.prog.info? 35).map (fun i=>(i.zero,i.size))=some (some (.agg zBodyC),zBodyC.size):=by kernel_rfl
theorem ZfA(u v:Value):(Tryz.prog.info? 35).map (·.size)=some ([u,v]:List Value).length:=by
 show _=some 2
 kernel_rfl
theorem YdH(A B:Option Addr)(n m c d:Nat):(#[Value.slice A n c,.slice B m d]:Array Value).all (·.oneCell')=true:=all_oneCell_toArray (cs:=[Value.slice A n c,.slice B m d]) fun u hu=>by
 simp only[List.mem_cons,List.not_mem_nil,or_false]at hu
 rcases hu with rfl|rfl<;>rfl
end Go.Proofs.YtiglglcfcfjigaaGreatDoor
