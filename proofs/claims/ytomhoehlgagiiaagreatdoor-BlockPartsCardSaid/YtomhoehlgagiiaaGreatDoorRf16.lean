import Derived.Test.YtomhoehlgagiiaaGreatDoorRf15
import Derived.Test.YtomhoehlgagiiaaGreatDoorBkX
import Derived.Test.YtomhoehlgagiiaaGreatDoorStX
import Derived.Test.YtomhoehlgagiiaaGreatDoorRf10
import Derived.Test.YtomhoehlgagiiaaGreatDoorAppG
import Derived.Test.YtomhoehlgagiiaaGreatDoorMem
import Derived.Test.YtomhoehlgagiiaaGreatDoorRf13
import Derived.Test.YtomhoehlgagiiaaGreatDoorRefG
import Derived.Test.YtomhoehlgagiiaaGreatDoorBits
import Derived.Test.YtomhoehlgagiiaaGreatDoorPuQ
set_option maxRecDepth 100000
set_option linter.all false
set_option maxHeartbeats 4000000
namespace Go.Proofs.YtomhoehlgagiiaaGreatDoor
section
open Go.RowKit
theorem YdT(ps:List Pr)(x:Tx)(box:Dg):(paidL ps x box).length≤ps.length+4:=by
 have h1:(bareL ps x).length≤ps.length+1:=Zld _ _ _
 have h2:(lessL ps x).length≤(bareL ps x).length+1:=Zld _ _ _
 have h3:=Znd (lessL ps x) x.t x.a
 have h4:=Znd (moreR (lessL ps x) x.t x.a) box x.f
 rw[(Yap ps x box).2]
 split
 ·omega
 ·split<;>omega
theorem ZiA(box:Dg):∀(xs:List Tx) (ps:List Pr),(payAll box ps xs).length≤ps.length+4 * xs.length
 |[],_=>Nat.le_refl _
 |x::xs,ps=>by
  have h1:=YdT ps x box
  have h2:=ZiA box xs (paidL ps x box)
  show (payAll box (paidL ps x box) xs).length≤ps.length+4 * (xs.length+1)
  omega
theorem Yaw(box:Dg):∀(xs ys:List Tx) (ps:List Pr),payE box ps xs=0→payE box ps (xs++ys)=payE box (payAll box ps xs) ys
 |[],_,_,_=>rfl
 |x::xs,ys,ps,h=>by
  obtain⟨h1,h2,h3⟩:=Zj6 h
  show (if checkX x=0 then (if nextB ps x=true then payE box (paidL ps x box) (xs++ys) else 2) else 110)=_
  rw[if_pos h1,if_pos h2]
  exact Yaw box xs ys _ h3
theorem ZrV(box:Dg)(xs:List Tx)(ps:List Pr){j:Nat}(hj:j<xs.length)(h:payE box ps (xs.take j)=0):
  payE box ps xs=if decide (xs[j].s=signD xs[j])=true then (if nextB (payAll box ps (xs.take j)) xs[j]=true then payE box (paidL (payAll box ps (xs.take j)) xs[j] box) (xs.drop (j+1)) else 2) else 110:=by
 have e:xs=xs.take j++xs[j]::xs.drop (j+1):=by rw[← List.drop_eq_getElem_cons hj,List.take_append_drop]
 have h2:=Yaw box (xs.take j) (xs[j]::xs.drop (j+1)) ps h
 rw[← e]at h2
 rw[h2]
 show (if checkX xs[j]=0 then _ else _)=_
 by_cases hc:xs[j].s=signD xs[j]
 ·rw[if_pos (show checkX xs[j]=0 from if_pos hc),if_pos (decide_eq_true hc)]
 ·rw[if_neg (show ¬checkX xs[j]=0 by unfold checkX;rw[if_neg hc];decide),if_neg (by rw[decide_eq_false hc];decide)]
theorem Zu6(box:Dg)(xs:List Tx)(ps:List Pr){j:Nat}(hj:j<xs.length)(h:payE box ps (xs.take j)=0)(h1:decide (xs[j].s=signD xs[j])=true)(h2:nextB (payAll box ps (xs.take j)) xs[j]=true):
  payE box ps (xs.take (j+1))=0∧payAll box ps (xs.take (j+1))=paidL (payAll box ps (xs.take j)) xs[j] box∧payRs box ps (xs.take (j+1))=payRs box ps (xs.take j)++[⟨2,idX xs[j],paidC (payAll box ps (xs.take j)) xs[j] box⟩]:=by
 rw[List.take_succ_eq_append_getElem hj]
 refine⟨(ZpP _ _ _).2 ⟨h,Zjj (if_pos (of_decide_eq_true h1)) h2 rfl⟩,?_,?_⟩
 ·rw[Zk3];rfl
 ·rw[Znr];rfl
def madeE(ps:List Pr)(ds:List Dp)(xs:List Tx)(box:Dg):Int:=payE box (giveAll ps ds) xs
def madeL(ps:List Pr)(ds:List Dp)(xs:List Tx)(box:Dg):List Pr:=if madeE ps ds xs box=0 then payAll box (giveAll ps ds) xs else []
def madeRs(ps:List Pr)(ds:List Dp)(xs:List Tx)(box:Dg):List Rc:=if madeE ps ds xs box=0 then giveRs ps ds++payRs box (giveAll ps ds) xs else []
def AtB(B:Nat)(w1 wr:World)(A1:Option Addr)(c1:Nat)(cur:List Pr)(R:Option Addr)(rc:Nat)(rs:List Rc):Prop:=
 ∃M T,B≤M∧T≤wr.heap.size∧Zone R M T∧OwnM 84 wr M T A1 c1 cur∧OwnR 61 wr w1.heap.size R rc rs∧Below w1.heap.size w1 wr
theorem AtB.bel{B:Nat}{w1 wr w2:World}{A1 R:Option Addr}{c1 rc:Nat}{cur:List Pr}{rs:List Rc}(h:AtB B w1 wr A1 c1 cur R rc rs)(hb:Below wr.heap.size wr w2):AtB B w1 w2 A1 c1 cur R rc rs:=by
 obtain⟨M,T,h1,h2,h3,h4,h5,h6⟩:=h
 exact⟨M,T,h1,Nat.le_trans h2 hb.size,h3,h4.bel hb,OwnQ.bel h5 hb,h6.trans (hb.mono h6.size)⟩
theorem AtB.fresh{B:Nat}{w1 wr w2:World}{A1 A2 R:Option Addr}{c1 c2 rc:Nat}{cur gl:List Pr}{rs:List Rc}(h:AtB B w1 wr A1 c1 cur R rc rs)(hB:B≤w1.heap.size)(hb:Below wr.heap.size wr w2)(hn:OwnR 84 w2 wr.heap.size A2 c2 gl):AtB B w1 w2 A2 c2 gl R rc rs:=by
 obtain⟨M,T,h1,h2,h3,h4,h5,h6⟩:=h
 exact⟨wr.heap.size,w2.heap.size,Nat.le_trans hB h6.size,Nat.le_refl _,fun a ha=>.inl (h5.blk a ha).2,OwnM.of hn,OwnQ.bel h5 hb,h6.trans (hb.mono h6.size)⟩
theorem AtB.row{B:Nat}{w1 wr:World}{A1 R:Option Addr}{c1 rc:Nat}{cur:List Pr}{rs:List Rc}(h:AtB B w1 wr A1 c1 cur R rc rs):∃F,Row F wr A1 cur:=by
 obtain⟨M,T,_,_,_,h4,_,_⟩:=h
 exact⟨_,OwnR.row h4.own⟩
theorem AtB.own{B:Nat}{w1 wr:World}{A1 R:Option Addr}{c1 rc:Nat}{cur:List Pr}{rs:List Rc}(h:AtB B w1 wr A1 c1 cur R rc rs):OwnR 84 wr B A1 c1 cur:=by
 obtain⟨M,T,h1,_,_,h4,_,_⟩:=h
 exact OwnR.base h4.own h1
theorem AtB.recs{B:Nat}{w1 wr:World}{A1 R:Option Addr}{c1 rc:Nat}{cur:List Pr}{rs:List Rc}(h:AtB B w1 wr A1 c1 cur R rc rs):OwnR 61 wr w1.heap.size R rc rs:=by
 obtain⟨M,T,_,_,_,_,h5,_⟩:=h
 exact h5
theorem AtB.ext{B:Nat}{w1 wr:World}{A1 R:Option Addr}{c1 rc:Nat}{cur:List Pr}{rs:List Rc}(h:AtB B w1 wr A1 c1 cur R rc rs):Below w1.heap.size w1 wr:=by
 obtain⟨M,T,_,_,_,_,_,h6⟩:=h
 exact h6
end
section
open Go.RowKit
theorem ZnG{F:Nat→Prop}{w:World}{D:Option Addr}{xs:List Rc}(h:Row F w D xs){j:Nat}(hj:j<xs.length):∃b o,D=some ⟨b,o,none⟩∧w.rangeAt b (o+j * 34) (rcC xs[j])∧xs[j].ok:=by
 obtain⟨b,o,rfl,-,-,hc⟩:=h (by omega)
 obtain⟨vs,hv,hcell⟩:=hc j xs[j] (List.getElem?_eq_getElem hj)
 obtain⟨rfl,hok⟩:=Zr6 hv
 exact⟨b,o,rfl,hcell,hok⟩
end
section
open Go.RowKit
def rootD(ps:List Pr):Dg:=⟨rootP 256 ps 0,Zem _ _ _⟩
def headB(x:Hd)(ps:List Pr)(rs:List Rc):Hd:=⟨x.h+1,nameD x,rootD ps,rootR (rs.map rcB),(rs.length:Int)⟩
end
section
open Go.RowKit
theorem ZuW(ps:List Pr)(ds:List Dp)(xs:List Tx)(box:Dg):∀r∈madeRs ps ds xs box,mayR r=true:=by
 intro r hr
 unfold madeRs at hr
 split at hr
 ·rcases List.mem_append.1 hr with h|h
  ·exact(Zir _ _ r h).1
  ·exact(Zj5 box _ _ r h).1
 ·cases hr
theorem ZoM(ps:List Pr)(ds:List Dp)(xs:List Tx)(box:Dg):(madeRs ps ds xs box).length≤ds.length+xs.length:=by
 unfold madeRs
 split
 ·rw[List.length_append,Zde,Zh3];exact Nat.le_refl _
 ·exact Nat.zero_le _
def applyE(t:Tr)(x:Hd)(ds:List Dp)(xs:List Tx)(box:Dg):Int:=if mayA t=true then (if mayH x=true then (if (x.h==1073741824)=true then 8 else if decide (16<ds.length)=true then 4 else if decide (16<xs.length)=true then 4 else madeE (allT t) ds xs box) else 8) else 8
def applyL(t:Tr)(x:Hd)(ds:List Dp)(xs:List Tx)(box:Dg):List Pr:=if applyE t x ds xs box=0 then madeL (allT t) ds xs box else []
def applyR(t:Tr)(x:Hd)(ds:List Dp)(xs:List Tx)(box:Dg):List Rc:=if applyE t x ds xs box=0 then madeRs (allT t) ds xs box else []
def applyH(t:Tr)(x:Hd)(ds:List Dp)(xs:List Tx)(box:Dg):Hd:=if applyE t x ds xs box=0 then headB x (madeL (allT t) ds xs box) (madeRs (allT t) ds xs box) else zH
end
section
open Go.RowKit
theorem ZgI{α:Type}{ps qs:List α}{j:Nat}(h1:j<ps.length)(h2:j<qs.length)(h:ps.take j=qs.take j):ps.take (j+1)=qs.take (j+1)↔ps[j]=qs[j]:=by
 rw[List.take_succ_eq_append_getElem h1,List.take_succ_eq_append_getElem h2,h]
 exact⟨fun e=>by have:=List.append_cancel_left e;simpa using this,fun e=>by rw[e]⟩
theorem ZmC(F G:Nat→Prop)(A D:Option Addr)(c d:Nat)(ps qs:List Rc)(w:World)(hr:Row F w A ps)(hs:Row G w D qs)(hc:ps.length≤9223372036854775807)(hd:qs.length≤9223372036854775807):
  Calls Tryz.prog 21 #[.slice A ps.length c,.slice D qs.length d] w fun e w'=>e=.returned (.bool (decide (ps=qs)))∧Below w.heap.size w w':=by
 obtain⟨ans,ha⟩:∃ans,decide (ps=qs)=ans:=⟨_,rfl⟩
 rw[ha]
 replace ha:=hid ha
 have hu:=Tryz.underlying61
 by_cases hl:ps.length=qs.length
 ·have hl2:=hid hl
  rw[← hl]at hd ⊢
  replace hl:=hl2
  clear hl2
  go_enter Tryz.func21,Tryz.ntmps21
  go_wp2
  go_loopw [5] (fun i wr=>∃j:Nat,j≤ps.length∧i=.int .i64 j∧ps.take j=qs.take j∧Below w.heap.size w wr) (fun i _=>ps.length-(intOf i).toNat)
  case atStart=>exact⟨0,Nat.zero_le _,rfl,by simp,Below.refl _ _⟩
  case round=>
   obtain⟨j,hj,rfl,hrel,hb⟩:=hrel
   by_cases hlt:j<ps.length
   ·have hlt2:j<qs.length:=by rw[← hl.out];exact hlt
    have E:=hid (ZgI hlt hlt2 hrel)
    replace hrel:=hid hrel
    obtain⟨b,o,hA,r1,k1⟩:=ZnG hr hlt
    obtain⟨b',o',hD,r2,k2⟩:=ZnG hs hlt2
    subst hA hD
    obtain⟨eb,heb⟩:∃eb,decide (ps[j]=qs[j])=eb:=⟨_,rfl⟩
    have hE:∀W,(Op.equalIn 10000 61 (.agg (rcC ps[j]).toArray) (.agg (rcC qs[j]).toArray)).run Tryz.prog W=.ok eb W:=fun W=>ZkL ps[j] qs[j] k1 k2 eb heb W
    have hno:eb=false→false=ans:=by
     intro h
     rw[← ha.out]
     refine(decide_eq_false fun e=>?_).symm
     have:=E.out.1 (by rw[e])
     rw[h]at heb;simp[this]at heb
    have hyes:eb=true→ps.take (j+1)=qs.take (j+1):=fun h1=>E.out.2 (by simpa [h1] using heb)
    have hi1:=hid (ZdM ps[j])
    have hi2:=hid (ZdM qs[j])
    clear heb E k1 k2
    generalize rcC ps[j]=d1 at *
    generalize rcC qs[j]=d2 at *
    have q1:=hid r1
    have q2:=hid r2
    clear hlt2 r1 r2
    cases eb
    ·replace hno:=hid (hno rfl)
     clear hyes
     go_wp2
     refine wp_region_noPanic ?_
     refine wp_region_held_drew (S:=fun w'=>Below wr.heap.size wr w') (by kernel_rfl) ?_ (fun hHeld=>?_)
     ·exact Zao wr
     refine' tkP 0 rfl ?_
     try simp only[sQ]
     refine' tkP 1 rfl ?_
     try simp only[sQ]
     refine' tkP 2 rfl ?_
     try simp only[sQ]
     refine' tkM 3 rfl (fun _ h=>Zab h (Zab hb q1.out)) hu hi1.out ?_
     try simp only[sQ]
     refine' tkP 4 rfl ?_
     try simp only[sQ]
     refine' tkP 5 rfl ?_
     try simp only[sQ]
     refine' tkP 6 rfl ?_
     try simp only[sQ]
     refine' tkM 7 rfl (fun _ h=>Zab h (Zab hb q2.out)) hu hi2.out ?_
     try simp only[sQ]
     refine' tkP 8 rfl ?_
     try simp only[sQ]
     refine dnH ?_
     refine NoPanic.normal ?_
     go_wp2
     go_ret
     exact⟨by rw[← hno.out];rfl,hb.trans (hHeld.mono hb.size)⟩
    ·replace hyes:=hid (hyes rfl)
     clear hno
     go_wp2
     refine wp_region_noPanic ?_
     refine wp_region_held_drew (S:=fun w'=>Below wr.heap.size wr w') (by kernel_rfl) ?_ (fun hHeld=>?_)
     ·exact Zao wr
     refine' tkP 0 rfl ?_
     try simp only[sQ]
     refine' tkP 1 rfl ?_
     try simp only[sQ]
     refine' tkP 2 rfl ?_
     try simp only[sQ]
     refine' tkM 3 rfl (fun _ h=>Zab h (Zab hb q1.out)) hu hi1.out ?_
     try simp only[sQ]
     refine' tkP 4 rfl ?_
     try simp only[sQ]
     refine' tkP 5 rfl ?_
     try simp only[sQ]
     refine' tkP 6 rfl ?_
     try simp only[sQ]
     refine' tkM 7 rfl (fun _ h=>Zab h (Zab hb q2.out)) hu hi2.out ?_
     try simp only[sQ]
     refine' tkP 8 rfl ?_
     try simp only[sQ]
     refine dnH ?_
     refine NoPanic.normal ?_
     go_wp2
     go_roundw
     case rel=>exact⟨j+1,by omega,by go_num,hyes.out,hb.trans (hHeld.mono hb.size)⟩
     case measure=>simp[intOf];omega
   ·obtain rfl:j=ps.length:=by omega
    have e1:true=ans:=by
     rw[← ha.out]
     refine(decide_eq_true ?_).symm
     rw[List.take_length]at hrel
     rw[hrel,hl.out,List.take_length]
    replace e1:=hid e1
    replace hrel:=trivial
    go_wp2
    go_ret
    exact⟨by rw[← e1.out];rfl,hb⟩
 ·have e0:false=ans:=by
   rw[← ha.out]
   exact(decide_eq_false fun e=>hl (by rw[e])).symm
  replace e0:=hid e0
  have q1:((ps.length:Int)==(qs.length:Int))=false:=by rw[beq_eq_false_iff_ne];omega
  clear ha
  go_enter Tryz.func21,Tryz.ntmps21
  go_wp2
  go_ret
  exact⟨by rw[← e0.out];rfl,Below.refl _ _⟩
def bigB(n:Nat):Bool:=(decide (4<(n:Int))&&decide ((n:Int)≤16))||decide (20<(n:Int))
def greatB(n m:Nat):Bool:=bigB n||bigB m
theorem Zom(n:Nat):(bigB n=false∧decide (4<(n:Int))=false∧decide ((n:Int)≤16)=true∧decide (20<(n:Int))=false)∨(bigB n=true∧decide (4<(n:Int))=true∧decide ((n:Int)≤16)=true∧decide (20<(n:Int))=false)∨
  (bigB n=false∧decide (4<(n:Int))=true∧decide ((n:Int)≤16)=false∧decide (20<(n:Int))=false)∨(bigB n=true∧decide (4<(n:Int))=true∧decide ((n:Int)≤16)=false∧decide (20<(n:Int))=true):=by
 unfold bigB
 rcases Nat.lt_or_ge 4 n with h|h
 ·rcases Nat.lt_or_ge 16 n with k|k
  ·rcases Nat.lt_or_ge 20 n with m|m
   ·have a:decide (4<(n:Int))=true:=decide_eq_true (by omega)
    have b:decide ((n:Int)≤16)=false:=decide_eq_false (by omega)
    have c:decide (20<(n:Int))=true:=decide_eq_true (by omega)
    rw[a,b,c];exact .inr (.inr (.inr ⟨rfl,rfl,rfl,rfl⟩))
   ·have a:decide (4<(n:Int))=true:=decide_eq_true (by omega)
    have b:decide ((n:Int)≤16)=false:=decide_eq_false (by omega)
    have c:decide (20<(n:Int))=false:=decide_eq_false (by omega)
    rw[a,b,c];exact .inr (.inr (.inl ⟨rfl,rfl,rfl,rfl⟩))
  ·have a:decide (4<(n:Int))=true:=decide_eq_true (by omega)
   have b:decide ((n:Int)≤16)=true:=decide_eq_true (by omega)
   have c:decide (20<(n:Int))=false:=decide_eq_false (by omega)
   rw[a,b,c];exact .inr (.inl ⟨rfl,rfl,rfl,rfl⟩)
 ·have a:decide (4<(n:Int))=false:=decide_eq_false (by omega)
  have b:decide ((n:Int)≤16)=true:=decide_eq_true (by omega)
  have c:decide (20<(n:Int))=false:=decide_eq_false (by omega)
  rw[a,b,c];exact .inl ⟨rfl,rfl,rfl,rfl⟩
theorem Zgi(D:Option Addr)(d n:Nat)(X:Option Addr)(e m:Nat)(w:World):
  Calls Tryz.prog 17 #[.agg #[.slice D n d,.slice X m e]] w fun r w'=>r=.returned (.bool (greatB n m))∧Below w.heap.size w w':=by
 have hB:=Zae (l:=[Value.slice D n d,.slice X m e]) (heap_alloc_new w (.cells #[Value.slice D n d,.slice X m e] 36))
 have c0:=hB 0 _ rfl
 have c1:=hB 1 _ rfl
 have W0:=hid (Zad w (.cells #[Value.slice D n d,.slice X m e] 36))
 clear hB
 have hg:greatB n m=(bigB n||bigB m):=rfl
 rw[hg]
 rcases Zom n with ⟨p0,p1,p2,p3⟩|⟨p0,p1,p2,p3⟩|⟨p0,p1,p2,p3⟩|⟨p0,p1,p2,p3⟩<;>rcases Zom m with ⟨k0,k1,k2,k3⟩|⟨k0,k1,k2,k3⟩|⟨k0,k1,k2,k3⟩|⟨k0,k1,k2,k3⟩
 all_goals
  rw[p0,k0]
  clear p0 k0 hg
  go_enter Tryz.func17,Tryz.ntmps17
  go_wp2
  go_ret
  exact⟨rfl,W0.out⟩
end
section
open Go.RowKit
def zDp:Dp:=⟨0,⟨List.replicate 32 0,rfl⟩,0⟩
theorem Ybp:Slot Tryz.prog Dp 33 70 (.agg (dpC zDp).toArray) 48 where
 under:=Tryz.underlying33
 info:=by kernel_rfl
 zero:=by decide +kernel
 pos:=by decide
theorem Zsp:Slot Tryz.prog Tx 34 39 (.agg zTxC) 120 where
 under:=Tryz.underlying34
 info:=by kernel_rfl
 zero:=by decide +kernel
 pos:=by decide
theorem ZfA(u v:Value):(Tryz.prog.info? 36).map (·.size)=some ([u,v]:List Value).length:=by
 show _=some 2
 kernel_rfl
end
end Go.Proofs.YtomhoehlgagiiaaGreatDoor
