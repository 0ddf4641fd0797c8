import Derived.Test.YtomhoehlgagiiaaGreatDoorRf15
import Derived.Test.YtomhoehlgagiiaaGreatDoorBkX
import Derived.Test.YtomhoehlgagiiaaGreatDoorRf12
import Derived.Test.YtomhoehlgagiiaaGreatDoorRf13
import Derived.Test.YtomhoehlgagiiaaGreatDoorRefG
set_option maxRecDepth 100000
set_option linter.all false
set_option maxHeartbeats 8000000
namespace Go.Proofs.YtomhoehlgagiiaaGreatDoor
open Go.RowKit
theorem YdT(ps:List Pr)(x:Tx)(box:Dg):(paidL ps x box).length≤ps.length+4:=by
 have h1:(bareL ps x).length≤ps.length+1:=Zld _ _ _
 have h2:(lessL ps x).length≤(bareL ps x).length+1:=Zld _ _ _
 have h3:=Znd (lessL ps x) x.t x.a
 have h4:=Znd (moreR (lessL ps x) x.t x.a) box x.f
 rw[(Yap ps x box).2]
 split
 ·omega
 ·split<;>omega
theorem ZiA(box:Dg):∀(xs:List Tx) (ps:List Pr),(payAll box ps xs).length≤ps.length+4 * xs.length
 |[],_=>Vx8 _
 |x::xs,ps=>by
  have h1:=YdT ps x box
  have h2:=ZiA box xs (paidL ps x box)
  show (payAll box (paidL ps x box) xs).length≤ps.length+4 * (xs.length+1)
  omega
theorem Yaw(box:Dg):∀(xs ys:List Tx) (ps:List Pr),payE box ps xs=0→payE box ps (xs++ys)=payE box (payAll box ps xs) ys
 |[],_,_,_=>rfl
 |x::xs,ys,ps,h=>by
  obtain⟨h1,h2,h3⟩:=Zj6 h
  show (if checkX x=0 then (if nextB ps x=true then payE box (paidL ps x box) (xs++ys) else 2) else 110)=_
  rw[if_pos h1,if_pos h2]
  exact Yaw box xs ys _ h3
theorem ZrV(box:Dg)(xs:List Tx)(ps:List Pr){j:Nat}(hj:j<xs.length)(h:payE box ps (xs.take j)=0):
  payE box ps xs=if decide (xs[j].s=signD xs[j])=true then (if nextB (payAll box ps (xs.take j)) xs[j]=true then payE box (paidL (payAll box ps (xs.take j)) xs[j] box) (xs.drop (j+1)) else 2) else 110:=by
 have e:xs=xs.take j++xs[j]::xs.drop (j+1):=by rw[← List.drop_eq_getElem_cons hj,List.take_append_drop]
 have h2:=Yaw box (xs.take j) (xs[j]::xs.drop (j+1)) ps h
 rw[← e]at h2
 rw[h2]
 show (if checkX xs[j]=0 then _ else _)=_
 by_cases hc:xs[j].s=signD xs[j]
 ·rw[if_pos (show checkX xs[j]=0 from if_pos hc),if_pos (Vy2 hc)]
 ·rw[if_neg (show ¬checkX xs[j]=0 by unfold checkX;rw[if_neg hc];decide),if_neg (by rw[Vy1 hc];decide)]
theorem Zu6(box:Dg)(xs:List Tx)(ps:List Pr){j:Nat}(hj:j<xs.length)(h:payE box ps (xs.take j)=0)(h1:decide (xs[j].s=signD xs[j])=true)(h2:nextB (payAll box ps (xs.take j)) xs[j]=true):
  payE box ps (xs.take (j+1))=0∧payAll box ps (xs.take (j+1))=paidL (payAll box ps (xs.take j)) xs[j] box∧payRs box ps (xs.take (j+1))=payRs box ps (xs.take j)++[⟨2,idX xs[j],paidC (payAll box ps (xs.take j)) xs[j] box⟩]:=by
 rw[Vy5 hj]
 refine⟨(ZpP _ _ _).2 ⟨h,Zjj (if_pos (of_decide_eq_true h1)) h2 rfl⟩,?_,?_⟩
 ·rw[Zk3];rfl
 ·rw[Znr];rfl
theorem Ye2(w:World)(l m:List Value)(t u:TypeId):
  ((w.alloc (.cells l.toArray t)).alloc (.cells m.toArray u)).rangeAt w.heap.size 0 l∧((w.alloc (.cells l.toArray t)).alloc (.cells m.toArray u)).rangeAt (w.heap.size+1) 0 m∧Below w.heap.size w ((w.alloc (.cells l.toArray t)).alloc (.cells m.toArray u)):=by
 have h1:=Zae (Vx0 w (.cells l.toArray t))
 have h2:=Zae (Vx0 (w.alloc (.cells l.toArray t)) (.cells m.toArray u))
 rw[Vx2]at h2
 exact⟨Zab (Zad _ _) h1,h2,Zag (Zad _ _) (Zad _ _)⟩
def madeE(ps:List Pr)(ds:List Dp)(xs:List Tx)(box:Dg):Int:=payE box (giveAll ps ds) xs
def madeL(ps:List Pr)(ds:List Dp)(xs:List Tx)(box:Dg):List Pr:=if madeE ps ds xs box=0 then payAll box (giveAll ps ds) xs else []
def madeRs(ps:List Pr)(ds:List Dp)(xs:List Tx)(box:Dg):List Rc:=if madeE ps ds xs box=0 then giveRs ps ds++payRs box (giveAll ps ds) xs else []
def AtB(B:Nat)(w1 wr:World)(A1:Option Addr)(c1:Nat)(cur:List Pr)(R:Option Addr)(rc:Nat)(rs:List Rc):Prop:=
 ∃M T,B≤M∧T≤wr.heap.size∧Zone R M T∧OwnM 84 wr M T A1 c1 cur∧OwnR 61 wr w1.heap.size R rc rs∧Below w1.heap.size w1 wr
theorem AtB.bel{B:Nat}{w1 wr w2:World}{A1 R:Option Addr}{c1 rc:Nat}{cur:List Pr}{rs:List Rc}(h:AtB B w1 wr A1 c1 cur R rc rs)(hb:Below wr.heap.size wr w2):AtB B w1 w2 A1 c1 cur R rc rs:=by
 obtain⟨M,T,h1,h2,h3,h4,h5,h6⟩:=h
 exact⟨M,T,h1,Vx1 h2 hb.size,h3,h4.bel hb,OwnQ.bel h5 hb,h6.trans (hb.mono h6.size)⟩
theorem AtB.fresh{B:Nat}{w1 wr w2:World}{A1 A2 R:Option Addr}{c1 c2 rc:Nat}{cur gl:List Pr}{rs:List Rc}(h:AtB B w1 wr A1 c1 cur R rc rs)(hB:B≤w1.heap.size)(hb:Below wr.heap.size wr w2)(hn:OwnR 84 w2 wr.heap.size A2 c2 gl):AtB B w1 w2 A2 c2 gl R rc rs:=by
 obtain⟨M,T,h1,h2,h3,h4,h5,h6⟩:=h
 exact⟨wr.heap.size,w2.heap.size,Vx1 hB h6.size,Vx8 _,fun a ha=>.inl (h5.blk a ha).2,OwnM.of hn,OwnQ.bel h5 hb,h6.trans (hb.mono h6.size)⟩
theorem AtB.app{B:Nat}{w1 wr w2:World}{A1 R R2:Option Addr}{c1 rc rc2:Nat}{cur:List Pr}{rs rs2:List Rc}(h:AtB B w1 wr A1 c1 cur R rc rs)(hr:OwnR 61 w2 w1.heap.size R2 rc2 rs2)(hb:Below w1.heap.size wr w2)(hg:wr.grownBy w2 (R.map (·.block)))(hA:R2=R∨R2=some ⟨wr.heap.size,0,none⟩):AtB B w1 w2 A1 c1 cur R2 rc2 rs2:=by
 obtain⟨M,T,h1,h2,h3,h4,h5,h6⟩:=h
 exact⟨M,T,h1,Vx1 h2 hb.size,h3.step h2 hA,h4.zone h3 hg,hr,h6.trans hb⟩
theorem AtB.row{B:Nat}{w1 wr:World}{A1 R:Option Addr}{c1 rc:Nat}{cur:List Pr}{rs:List Rc}(h:AtB B w1 wr A1 c1 cur R rc rs):∃F,Row F wr A1 cur:=by
 obtain⟨M,T,_,_,_,h4,_,_⟩:=h
 exact⟨_,OwnR.row h4.own⟩
theorem AtB.own{B:Nat}{w1 wr:World}{A1 R:Option Addr}{c1 rc:Nat}{cur:List Pr}{rs:List Rc}(h:AtB B w1 wr A1 c1 cur R rc rs):OwnR 84 wr B A1 c1 cur:=by
 obtain⟨M,T,h1,_,_,h4,_,_⟩:=h
 exact OwnR.base h4.own h1
theorem AtB.recs{B:Nat}{w1 wr:World}{A1 R:Option Addr}{c1 rc:Nat}{cur:List Pr}{rs:List Rc}(h:AtB B w1 wr A1 c1 cur R rc rs):OwnR 61 wr w1.heap.size R rc rs:=by
 obtain⟨M,T,_,_,_,_,h5,_⟩:=h
 exact h5
theorem AtB.ext{B:Nat}{w1 wr:World}{A1 R:Option Addr}{c1 rc:Nat}{cur:List Pr}{rs:List Rc}(h:AtB B w1 wr A1 c1 cur R rc rs):Below w1.heap.size w1 wr:=by
 obtain⟨M,T,_,_,_,_,_,h6⟩:=h
 exact h6
def MadeBPost(B:Nat)(ps:List Pr)(ds:List Dp)(xs:List Tx)(box:Dg)(w:World)(e:Ending)(w':World):Prop:=
 ∃A' c' R rc,e=.returned (.tuple #[.slice A' (madeL ps ds xs box).length c',.slice R (madeRs ps ds xs box).length rc,.int .i64 (madeE ps ds xs box)])∧OwnR 84 w' B A' c' (madeL ps ds xs box)∧OwnR 61 w' w.heap.size R rc (madeRs ps ds xs box)∧Below w.heap.size w w'
theorem Zv8(B:Nat)(A:Option Addr)(c:Nat)(ps:List Pr)(Fd Fx:Nat→Prop)(D:Option Addr)(d:Nat)(ds:List Dp)(X:Option Addr)(e:Nat)(xs:List Tx)(box:Dg)(w:World)
  (ho:OwnR 84 w B A c ps) (hB:B≤w.heap.size) (hc:ps.length≤800000) (hs:St ps) (hD:Row Fd w D ds) (hX:Row Fx w X xs) (ld:ds.length≤1000) (lx:xs.length≤1000):
  Calls Tryz.prog 70 #[.slice A ps.length c,.agg #[.slice D ds.length d,.slice X xs.length e],.agg (box.1.map bv).toArray] w (MadeBPost B ps ds xs box w):=by
 have hu:=Tryz.underlying26
 have hud:=Tryz.underlying70
 have hux:=Tryz.underlying39
 obtain⟨Y0,D0,W0⟩:=Ye2 w [Value.slice D ds.length d,.slice X xs.length e] (box.1.map bv) 36 26
 have iD:=hid (ZaF box)
 obtain⟨pe,hpe⟩:∃v,madeE ps ds xs box=v:=⟨_,rfl⟩
 obtain⟨pl,hpl⟩:∃v,madeL ps ds xs box=v:=⟨_,rfl⟩
 obtain⟨pr,hpr⟩:∃v,madeRs ps ds xs box=v:=⟨_,rfl⟩
 have eL:pl=if pe=0 then payAll box (giveAll ps ds) xs else []:=by rw[← hpl,←hpe];rfl
 have eR:pr=if pe=0 then giveRs ps ds++payRs box (giveAll ps ds) xs else []:=by rw[← hpr,←hpe];rfl
 have eE:payE box (giveAll ps ds) xs=pe:=hpe
 unfold MadeBPost
 rw[hpe,hpl,hpr]
 clear hpe hpl hpr
 have st1:=ZfJ ds hs
 have ln1:=Zf5 ds ps
 replace Y0:=hid Y0
 replace D0:=hid D0
 have lw:Hid (w.heap.size≤w.heap.size):=hid (Vx8 _)
 replace eL:=hid eL
 replace eR:=hid eR
 replace eE:=hid eE
 replace st1:=hid st1
 replace ln1:=hid ln1
 have hat:=hid (show AtB B ((w.alloc (.cells #[Value.slice D ds.length d,.slice X xs.length e] 36)).alloc (.cells (box.1.map bv).toArray 26)) _ A c ps none 0 [] from
  ⟨B,w.heap.size,Vx8 _,W0.size,Zone.none _ _,(OwnM.of ho).bel W0,OwnR.nil _ _,Below.refl _ _⟩)
 have hD1:=hid (hD.bel W0)
 have hX1:=hid (hX.bel W0)
 have hBw:=hid (Vx1 hB W0.size)
 replace W0:=hid W0
 clear ho hD hX lw
 go_enter Tryz.func70,Tryz.ntmps70
 go_wp2
 generalize (w.alloc (.cells #[Value.slice D ds.length d,.slice X xs.length e] 36)).alloc (.cells (box.1.map bv).toArray 26)=w1 at *
 go_loopw [0,9,10] (fun p r q wr=>∃(j:Nat) (cur:List Pr) (rs:List Rc) (A1:Option Addr) (c1:Nat) (R:Option Addr) (rc:Nat),j≤ds.length∧q=.int .i64 (j:Int)∧p=.slice A1 cur.length c1∧r=.slice R rs.length rc∧Hid (giveAll ps (ds.take j)=cur)∧Hid (giveRs ps (ds.take j)=rs)∧Hid (AtB B w1 wr A1 c1 cur R rc rs)) (fun _ _ q _=>ds.length-(intOf q).toNat)
 case atStart=>exact⟨0,ps,[],A,c,none,0,Nat.zero_le _,rfl,rfl,rfl,hid rfl,hid rfl,hat⟩
 case round=>
  obtain⟨j,cur,rs,A1,c1,R,rc,hj,rfl,rfl,rfl,hcur,hrs,hAt⟩:=hrel
  have hb:Below w1.heap.size w1 wr:=by obtain⟨_,_,_,_,_,_,_,h⟩:=hAt.out;exact h
  by_cases hlt:j<ds.length
  ·as_aux_lemma=>
   obtain⟨b,o,hDe,hrng,hdok⟩:=Zsb (hD1.out.bel hb) hlt
   subst hDe
   have hnx:Hid (giveAll ps (ds.take (j+1))=giveL cur ds[j].t ds[j].a):=hid (by rw[Vy5 hlt,Zjh,hcur.out])
   have hnr:Hid (giveRs ps (ds.take (j+1))=rs++[⟨1,idD ds[j],giveC cur ds[j].t ds[j].a⟩]):=hid (by rw[Vy5 hlt,ZkO,hcur.out,hrs.out])
   have hst:St cur:=by rw[← hcur.out];exact ZfJ (ds.take j) hs
   have hcl:cur.length≤1000000:=by have:=Zf5 (ds.take j) ps;rw[hcur.out,List.length_take]at this;omega
   have hrl:Hid (rs.length=j):=hid (by rw[← hrs.out,Zde,List.length_take];omega)
   obtain⟨F1,hrow⟩:=hAt.out.row
   have hG:=Zof F1 A1 c1 cur ds[j] wr hdok hrow hcl hst
   unfold GivenRow at hG
   have hDp:=hid (fun W=>Zls ds[j] hdok W)
   have gok:=hid (ZuL cur ds[j].t ds[j].a)
   have sz:=hid (Zia ds[j])
   have j1:(j:Int)<ds.length:=by omega
   generalize giveL cur ds[j].t ds[j].a=gl at *
   generalize giveC cur ds[j].t ds[j].a=gc at *
   generalize idD ds[j]=di at *
   generalize dpC ds[j]=cx at *
   have Y:=hid (Zab hb Y0.out)
   have C0:=Y.out 0 _ rfl
   replace hrng:=hid hrng
   replace hG:=hid hG
   clear hb hst hcl hrow hdok hcur hrs eL eR eE st1 ln1 hX1 hD1 hat
   go_wp2_with ((with_reducible refine lDr hrng.out sz.out hud ?_))
   refine hG.out.mono ?_
   rintro e2 w2 ⟨A2,c2,rfl,hcase,hb2⟩
   have at2:=hid (show AtB B w1 w2 A2 c2 gl R rc rs by
    rcases hcase with h|⟨rfl,rfl,rfl⟩
    ·exact hAt.out.fresh hBw.out hb2 h
    ·exact hAt.out.bel hb2)
   have rng2:=hid (Zab hb2 hrng.out)
   have Y2:=hid (Zab hb2 Y.out)
   have C2:=Y2.out 0 _ rfl
   clear hcase hb2 C0 Y hrng hG hAt
   go_wp2_with ((with_reducible refine lDr rng2.out sz.out hud ?_))
   refine(hDp.out _).mono ?_
   rintro e3 w3 ⟨rfl,hb3⟩
   have at4:=hid ((at2.out.bel hb3).bel (Zad w3 (.cells (rcC ⟨1,di,gc⟩).toArray 61)))
   have hor4:=hid at4.out.recs
   have hb4:=hid at4.out.ext.size
   clear hb3 at2 C2 Y2 rng2
   go_wp2_with (first
    |((with_reducible refine Zaf rfl 61 _ rfl (rcC ⟨1,di,gc⟩).toArray [(0,bv 1),(1,.agg (di.1.map bv).toArray),(2,.int .i64 gc)] ?_ ?_ ?_);exact ZjG ⟨1,di,gc⟩;rfl)
    |((with_reducible refine ZaC Zkg (by decide) rfl (.tmp 43) rfl (rcC ⟨1,di,gc⟩) ?_ (ZhW _) ?_);rfl)
    |(at_builtin;refine ZiW Zkg rfl (.tmp 35) (.tmp 44) rfl w1.heap.size w1.heap.size R _ rs.length 1 rc 1 rs [⟨1,di,gc⟩] (fun _=>False) rfl rfl rfl rfl hor4.out (ZaE (Zh6 ⟨1,di,gc⟩ gok.out)) (fun b hb=>hb.elim) (by have:=hrl.out;simp only[List.length_singleton];omega) hb4.out ?_;intro R5 rc5 w5 ho5 hB5 hg5 hA5;have at5:=hid (at4.out.app ho5 hB5 hg5 hA5);clear ho5 hB5 hg5 hA5))
   go_roundw
   case rel=>exact⟨j+1,gl,rs++[⟨1,di,gc⟩],A2,c2,R5,rc5,by omega,by go_num,rfl,(by rw[Vx3];rfl),hnx,hnr,at5⟩
   case measure=>simp[intOf];omega
  ·obtain rfl:j=ds.length:=by omega
   have hcu:giveAll ps ds=cur:=by rw[← hcur.out,List.take_length]
   have hru:giveRs ps ds=rs:=by rw[← hrs.out,List.take_length]
   have hrl:Hid (rs.length=ds.length):=hid (by rw[← hru,Zde])
   have j2:(ds.length:Int)≤ds.length:=Int.le_refl _
   replace eL:=hid (show pl=if pe=0 then payAll box cur xs else [] by rw[← hcu];exact eL.out)
   replace eR:=hid (show pr=if pe=0 then rs++payRs box cur xs else [] by rw[← hcu,←hru];exact eR.out)
   replace eE:=hid (show payE box cur xs=pe by rw[← hcu];exact eE.out)
   replace st1:=hid (show St cur by rw[← hcu];exact st1.out)
   replace ln1:=hid (show cur.length≤ps.length+ds.length by rw[← hcu];exact ln1.out)
   have Y:=hid (Zab hb Y0.out)
   have C0:=Y.out 0 _ rfl
   clear hcu hru hcur hrs hb hD1 hat
   go_wp2
   go_loopw [0,9,13] (fun p r q wq=>∃(k:Nat) (cu:List Pr) (rt:List Rc) (A3:Option Addr) (c3:Nat) (R3:Option Addr) (rc3:Nat),k≤xs.length∧q=.int .i64 (k:Int)∧p=.slice A3 cu.length c3∧r=.slice R3 rt.length rc3∧Hid (payE box cur (xs.take k)=0)∧Hid (payAll box cur (xs.take k)=cu)∧Hid (rs++payRs box cur (xs.take k)=rt)∧Hid (AtB B w1 wq A3 c3 cu R3 rc3 rt)) (fun _ _ q _=>xs.length-(intOf q).toNat)
   case atStart=>exact⟨0,cur,rs,A1,c1,R,rc,Nat.zero_le _,rfl,rfl,rfl,hid rfl,hid rfl,hid (List.append_nil _),hAt⟩
   case round=>
    clear hAt
    obtain⟨k,cu,rt,A3,c3,R3,rc3,hk,rfl,rfl,rfl,hpe0,hcu2,hrt,hAt⟩:=hrel
    have W9:=hid (W0.out.trans (hAt.out.ext.mono W0.out.size))
    have Y9:=hid (Zab hAt.out.ext Y0.out)
    have C9:=Y9.out 1 _ rfl
    by_cases hlt:k<xs.length
    ·as_aux_lemma=>
     obtain⟨b,o,hXe,hrng,hxok⟩:=Zvs (hX1.out.bel hAt.out.ext) hlt
     subst hXe
     have hE:=ZrV box xs cur hlt hpe0.out
     have hst:St cu:=by rw[← hcu2.out];exact Znq (xs.take k) st1.out hpe0.out
     have hcl:cu.length≤900000:=by have:=ZiA box (xs.take k) cur;have:=ln1.out;rw[hcu2.out,List.length_take]at *;omega
     have hrl2:Hid (rt.length≤3000):=hid (by rw[← hrt.out,Vx3,Zh3,hrl.out,List.length_take];omega)
     have htk:=fun (h1:decide (xs[k].s=signD xs[k])=true) (h2:nextB (payAll box cur (xs.take k)) xs[k]=true)=>Zu6 box xs cur hlt hpe0.out h1 h2
     rw[hcu2.out]at hE htk
     rw[eE.out]at hE
     have hCk:=hid (fun W=>Zgj xs[k] hxok _ rfl W)
     have hNx:=hid (fun G A2 c2 W h=>ZqU G A2 c2 cu xs[k] W h (by omega) hst.1)
     have hPd:=fun (hn:nextB cu xs[k]=true) G A2 c2 W h=>ZqW G A2 c2 cu xs[k] box W hxok h hcl hst hn
     unfold PaidPost at hPd
     have hId:=hid (fun W=>Zq3 xs[k] hxok W)
     have pok:=hid (Zu4 cu xs[k] box)
     have sz:=hid (Zby xs[k])
     have szA:=hid (Zb2 xs[k])
     have szZ:=hid (ZcS xs[k])
     have oX:=Zdw xs[k]
     have k1:(k:Int)<xs.length:=by omega
     generalize decide (xs[k].s=signD xs[k])=sg at *
     generalize nextB cu xs[k]=nb at *
     generalize paidL cu xs[k] box=ql at *
     generalize paidC cu xs[k] box=qc at *
     generalize idX xs[k]=xi at *
     generalize txC xs[k]=cx at *
     have z0:=hid (Vx0 wr (.cells zTxC 39))
     replace hrng:=hid hrng
     replace hPd:=hid hPd
     replace hE:=hid hE
     replace htk:=hid htk
     clear hst hcl hxok Y C0 hX1
     go_wp2_with (first
      |(with_reducible refine lDr hrng.out sz.out hux ?_)
      |(with_reducible refine Zac rfl 39 rfl zTxC Zbv ?_)
      |((with_reducible refine stW 14 57 wr.heap.size 39 zTxC ?_ ?_ ?_ ?_ ?_);exact z0.out;exact szA.out;exact szZ.out;exact oX;intro w2 hgS hbS hsS;have X2:=hid (Zan rfl hbS);have kx2:=hid hgS;have at2:=hid (hAt.out.bel X2.out);clear hgS hbS hsS)
      |(with_reducible refine lDr (Zae kx2.out) sz.out hux ?_))
     refine(hCk.out _).mono ?_
     rintro e3 w3 ⟨rfl,hb3⟩
     have kx3:=hid ((hb3.block _ (block_lt kx2.out)).trans kx2.out)
     have at3:=hid (at2.out.bel hb3)
     clear hb3 kx2 at2 hCk X2 z0 hrng C9 Y9 W9
     cases sg with
     |false=>
      obtain rfl:pe=110:=by rw[hE.out];rfl
      obtain rfl:pl=[]:=by rw[eL.out];rfl
      obtain rfl:pr=[]:=by rw[eR.out];rfl
      clear hE eL eR eE
      go_wp2
      go_ret3
      exact⟨none,0,none,0,rfl,OwnR.nil _ _,OwnR.nil _ _,W0.out.trans (at3.out.ext.mono W0.out.size)⟩
     |true=>
     obtain⟨G3,row3⟩:=at3.out.row
     replace row3:=hid row3
     go_wp2_with ((with_reducible refine lDr (Zae kx3.out) sz.out hux ?_))
     refine(hNx.out _ _ _ _ row3.out).mono ?_
     rintro e4 w4 ⟨rfl,hb4⟩
     have kx4:=hid ((hb4.block _ (block_lt kx3.out)).trans kx3.out)
     have at4:=hid (at3.out.bel hb4)
     clear hb4 kx3 at3 hNx row3
     cases nb with
     |false=>
      obtain rfl:pe=2:=by rw[hE.out];rfl
      obtain rfl:pl=[]:=by rw[eL.out];rfl
      obtain rfl:pr=[]:=by rw[eR.out];rfl
      clear hE eL eR eE
      go_wp2
      go_ret3
      exact⟨none,0,none,0,rfl,OwnR.nil _ _,OwnR.nil _ _,W0.out.trans (at4.out.ext.mono W0.out.size)⟩
     |true=>
     obtain⟨G4,row4⟩:=at4.out.row
     replace row4:=hid row4
     have D4:=hid (Zab at4.out.ext D0.out)
     go_wp2_with (first
      |(with_reducible refine lDr (Zae kx4.out) sz.out hux ?_)
      |(with_reducible refine lDr D4.out iD.out hu ?_))
     refine(hPd.out (by first|rfl|trivial) _ _ _ _ row4.out).mono ?_
     rintro e5 w5 ⟨A5,c5,rfl,o5,hb5⟩
     have kx5:=hid ((hb5.block _ (block_lt kx4.out)).trans kx4.out)
     have at5:=hid (at4.out.fresh hBw.out hb5 o5)
     clear hb5 o5 kx4 at4 hPd row4 D4
     go_wp2_with ((with_reducible refine lDr (Zae kx5.out) sz.out hux ?_))
     refine(hId.out _).mono ?_
     rintro e6 w6 ⟨rfl,hb6⟩
     have at7:=hid ((at5.out.bel hb6).bel (Zad w6 (.cells (rcC ⟨2,xi,qc⟩).toArray 61)))
     have hor7:=hid at7.out.recs
     have hb7:=hid at7.out.ext.size
     obtain⟨n1,n2,n3⟩:=htk.out (by first|rfl|trivial) (by first|rfl|trivial)
     replace n1:=hid n1
     replace n2:=hid n2
     replace n3:=hid n3
     clear hb6 at5 kx5 hId hE htk
     go_wp2_with (first
      |((with_reducible refine Zaf rfl 61 _ rfl (rcC ⟨2,xi,qc⟩).toArray [(0,bv 2),(1,.agg (xi.1.map bv).toArray),(2,.int .i64 qc)] ?_ ?_ ?_);exact ZjG ⟨2,xi,qc⟩;rfl)
      |((with_reducible refine ZaC Zkg (by decide) rfl (.tmp 77) rfl (rcC ⟨2,xi,qc⟩) ?_ (ZhW _) ?_);rfl)
      |(at_builtin;refine ZiW Zkg rfl (.tmp 73) (.tmp 78) rfl w1.heap.size w1.heap.size R3 _ rt.length 1 rc3 1 rt [⟨2,xi,qc⟩] (fun _=>False) rfl rfl rfl rfl hor7.out (ZaE (Zh6 ⟨2,xi,qc⟩ pok.out)) (fun b hb=>hb.elim) (by have:=hrl2.out;simp only[List.length_singleton];omega) hb7.out ?_;intro R8 rc8 w8 ho8 hB8 hg8 hA8;have at8:=hid (at7.out.app ho8 hB8 hg8 hA8);clear ho8 hB8 hg8 hA8))
     go_roundw
     case rel=>exact⟨k+1,ql,rt++[⟨2,xi,qc⟩],A5,c5,R8,rc8,by omega,by go_num,rfl,(by rw[Vx3];rfl),n1,n2,hid (by rw[n3.out,←List.append_assoc,hrt.out]),at8⟩
     case measure=>simp[intOf];omega
    ·obtain rfl:k=xs.length:=by omega
     have e0:=hpe0.out
     have e1:=hcu2.out
     have e2:=hrt.out
     rw[List.take_length]at e0 e1 e2
     obtain rfl:pe=0:=by rw[← eE.out];exact e0
     obtain rfl:pl=cu:=by rw[eL.out,if_pos rfl];exact e1
     obtain rfl:pr=rt:=by rw[eR.out,if_pos rfl];exact e2
     have k2:(xs.length:Int)≤xs.length:=Int.le_refl _
     clear eE eL eR e0 e1 e2 hpe0 hcu2 hrt C0 Y
     go_wp2
     go_ret3
     exact⟨_,_,_,_,rfl,hAt.out.own,OwnR.base hAt.out.recs W0.out.size,W9.out⟩
theorem ZnG{F:Nat→Prop}{w:World}{D:Option Addr}{xs:List Rc}(h:Row F w D xs){j:Nat}(hj:j<xs.length):∃b o,D=some ⟨b,o,none⟩∧w.rangeAt b (o+j * 34) (rcC xs[j])∧xs[j].ok:=by
 obtain⟨b,o,rfl,-,-,hc⟩:=h (by omega)
 obtain⟨vs,hv,hcell⟩:=hc j xs[j] (Vx9 hj)
 obtain⟨rfl,hok⟩:=Zr6 hv
 exact⟨b,o,rfl,hcell,hok⟩
theorem Zs6(F:Nat→Prop)(A:Option Addr)(c:Nat)(rs:List Rc)(w:World)(hr:Row F w A rs)(hm:∀r∈rs,mayR r=true)(hl:rs.length≤1000000):
  Calls Tryz.prog 148 #[.slice A rs.length c] w fun e w'=>∃A' c',e=.returned (.slice A' (rs.map rcB).length c')∧OwnL 57 5 w' w.heap.size A' c' (rs.map rcB)∧Below w.heap.size w w':=by
 have hur:=Tryz.underlying61
 go_enter Tryz.func148,Tryz.ntmps148
 go_wp2
 go_loopw [3,4] (fun v q wr=>∃(j:Nat) (ps:List (List UInt8)) (A':Option Addr) (c':Nat),j≤rs.length∧q=.int .i64 (j:Int)∧Hid ((rs.take j).map rcB=ps)∧Hid (ps.length=j)∧v=.slice A' ps.length c'∧OwnL 57 5 wr w.heap.size A' c' ps∧Below w.heap.size w wr) (fun _ q _=>rs.length-(intOf q).toNat)
 case atStart=>exact⟨0,[],none,0,Nat.zero_le _,rfl,rfl,rfl,rfl,OwnL.nil _ _,Below.refl _ _⟩
 case round=>
  obtain⟨j,ps,A',c',hj,rfl,hps,hpl,rfl,ho,hb⟩:=hrel
  have Ho:=hid ho
  have Hb:=hid hb
  by_cases hlt:j<rs.length
  ·obtain⟨b,o,hAe,hrng,hok⟩:=ZnG (hr.bel hb) hlt
   subst hAe
   have hO:=hid (Zq1 rs[j] (hm _ (List.getElem_mem hlt)) wr)
   have hnx:Hid ((rs.take (j+1)).map rcB=ps++[rcB rs[j]]):=by
    rw[Vy5 hlt,List.map_append,hps.out]
    exact rfl
   have sz:=hid (ZdM rs[j])
   have hz:=hid (Zex rs[j])
   generalize rcB rs[j]=z at *
   generalize rcC rs[j]=cx at *
   have j1:(j:Int)<rs.length:=by omega
   replace hrng:=hid hrng
   clear ho hb hr hok hm
   go_wp2_with ((with_reducible refine lDr hrng.out sz.out hur ?_))
   refine hO.out.mono ?_
   rintro e w3 ⟨A3,c3,rfl,ho3,hb3⟩
   have Ho3:=hid (ho3.base Hb.out.size)
   have Hx:=hid (Ho.out.bel hb3)
   have B3:=hid (Hb.out.trans (hb3.mono Hb.out.size))
   clear ho3 hb3 hO
   have h35:(35:Nat)=z.length:=hz.out.symm
   go_wp2_with ((at_builtin;refine ZdF Zie Zm7 (by decide) rfl (.tmp 11) (.tmp 17) rfl w.heap.size A' A3 _ c' c3 1 w3.heap.size ps z rfl rfl rfl (Hx.out.alloc _) (Ho3.out.alloc _) (by rw[cell_of_row _ w3.heap.size 0 _ _ (0,0) (Vx0 w3 _)];rfl) (by have:=hpl.out;omega) (by have:=B3.out.size;simp;omega) ?_;intro A4 c4 w4 ho4 hb4;have Ho4:=hid ho4;have B4:=hid (((B3.out.alloc B3.out.size _)).trans hb4);clear ho4 hb4))
   go_roundw
   case rel=>exact⟨j+1,ps++[z],A4,c4,by omega,by go_num,hnx,by have:=hpl.out;exact hid (by simp;exact this),by simp,Ho4.out,B4.out⟩
   case measure=>simp[intOf];omega
  ·obtain rfl:j=rs.length:=by omega
   have he:rs.map rcB=ps:=by rw[← hps.out,List.take_length]
   have j2:(rs.length:Int)≤rs.length:=Int.le_refl _
   have he2:rs.length=ps.length:=by rw[← he,Vx6]
   replace he:=hid he
   clear ho hb hr hm
   go_wp2
   go_ret
   rw[he.out]
   exact⟨A',c',rfl,Ho.out,Hb.out⟩
def rootD(ps:List Pr):Dg:=⟨rootP 256 ps 0,Zem _ _ _⟩
def headB(x:Hd)(ps:List Pr)(rs:List Rc):Hd:=⟨x.h+1,nameD x,rootD ps,rootR (rs.map rcB),(rs.length:Int)⟩
theorem Zs5(F G:Nat→Prop)(x:Hd)(A:Option Addr)(c:Nat)(ps:List Pr)(R:Option Addr)(rc:Nat)(rs:List Rc)(w:World)(hx:mayH x=true)(hr:Row F w A ps)(hs:Srt ps)(hl:ps.length≤1000)(hv:∀p∈ps,p.v.length≤64)
  (hR:Row G w R rs) (hm:∀r∈rs,mayR r=true) (hrl:rs.length≤1000):
  Calls Tryz.prog 71 #[.agg (hdC x).toArray,.slice A ps.length c,.slice R rs.length rc] w fun e w'=>e=.returned (.agg (hdC (headB x ps rs)).toArray)∧Below w.heap.size w w':=by
 have hux:=Tryz.underlying28
 have B0:=BoxH.new w x 28
 have b1:=Zad (w.alloc (.cells (hdC x).toArray 28)) (.cells zHdC 28)
 have h1:=Vx0 (w.alloc (.cells (hdC x).toArray 28)) (.cells zHdC 28)
 rw[Vx2]at h1
 have W1:=hid ((Zad w (.cells (hdC x).toArray 28)).trans (b1.mono (Zad w _).size))
 have X1:=hid (Zab b1 B0.all)
 replace h1:=hid h1
 replace hr:=hid hr
 replace hR:=hid hR
 have jx:=hid (Zbu x)
 have hN:=hid (fun W=>Zi1 x hx W)
 have hO:=fun W (hW:Row F W A ps)=>Zo9 256 0 ps F A c W rfl hs (ZnI ps) hl hv hW
 rw[show ((rootP 256 ps 0).map bv)=(rootD ps).1.map bv from rfl]at hO
 replace hO:=hid hO
 have hRw:=hid (fun W (hW:Row G W R rs)=>Zs6 G R rc rs W hW hm (by omega))
 have hRo:=hid (fun A2 c2 W (h:Rds W A2 (rs.map rcB)) h1 h2=>ZlV _ A2 c2 (rs.map rcB) W (Vx8 _) h h1 h2 (fun y hy=>by obtain⟨r,_,rfl⟩:=List.mem_map.1 hy;rw[Zex];decide) (by rw[Vx6];omega))
 have hhx:=hx
 unfold mayH at hhx
 have hhx:=of_decide_eq_true hhx
 have hw:IntKind.i64.wrap (x.h+1)=x.h+1:=IntWalk.i64_in _ (by omega)
 obtain⟨q,hq⟩:∃q,headB x ps rs=q:=⟨_,rfl⟩
 have hb:Tryz.prog.built 28 [(0,.int .i64 (x.h+1)),(1,.agg ((nameD x).1.map bv).toArray),(2,.agg ((rootD ps).1.map bv).toArray),(3,.agg ((rootR (rs.map rcB)).1.map bv).toArray),(4,.int .i64 (rs.length:Int))]=some (hdC q).toArray:=by
  rw[← hq]
  exact Zl2 (headB x ps rs)
 rw[hq]
 have qA:=hid (Zbg q)
 have qO:=ZbM q
 have qZ:=fun (old:Array Value) (h:old.size=98)=>(show old.size=(hdC q).toArray.size by rw[h,Vx7,ZlC])
 have qB:((hdC q).toArray).size=98:=by rw[Vx7,ZlC]
 have zS:zHdC.size=98:=by rw[Zbw q];exact qB
 generalize (nameD x).1.map bv=dN at *
 generalize (rootD ps).1.map bv=dS at *
 clear hq
 generalize rs.map rcB=ls at *
 generalize (rootR ls).1.map bv=dR at *
 replace hb:=hid hb
 replace qZ:=hid qZ
 replace zS:=hid zS
 replace qB:=hid qB
 clear B0 b1 hs hl hv hm hx hhx
 generalize hdC q=qc at *
 generalize hcx:hdC x=cx at *
 replace hcx:=hid hcx
 go_enter Tryz.func71,Tryz.ntmps71
 go_wp2_with ((with_reducible refine Zac rfl 28 rfl zHdC Za9 ?_))
 generalize (w.alloc (.cells cx.toArray 28)).alloc (.cells zHdC 28)=w1 at *
 refine wp_region_noPanic ?_
 refine wp_region_held_drew (S:=fun W=>Below w.heap.size w W∧W.rangeAt w.heap.size 0 cx∧∃old:Array Value,old.size=98∧W.heap[w.heap.size+1]? =some (.cells old 28 (0,0))) (by kernel_rfl) ?_ (fun hHeld=>?_)
 ·exact⟨W1.out.trans ((Zao w1).mono W1.out.size),Zab (Zao w1) X1.out,zHdC,zS.out,h1.out⟩
 refine' tkP 0 rfl ?_
 refine' tkF 1 (fun W hSw=>(BoxH.of (show W.rangeAt w.heap.size 0 (hdC x) by rw[hcx.out];exact hSw.2.1)).h) rfl ?_
 refine' tkP 2 rfl ?_
 refine' tkM 3 rfl (fun _ h=>h.2.1) hux jx.out ?_
 simp only[sQ]
 refine' tkW 5 7 ?_
 refine' tkW 10 11 ?_
 simp only[sQ]
 refine rdH 4 rfl fun K hK=>?_
 go_simp
 refine(hN.out _).mono ?_
 rintro e v1 ⟨rfl,hB⟩
 go_wp2_with fail
 refine hK.out _ _ (⟨hHeld.1.trans (hB.mono hHeld.1.size),Zab hB hHeld.2.1,by obtain⟨old,ho1,ho2⟩:=hHeld.2.2;exact⟨old,ho1,(hB.block _ (block_lt ho2)).trans ho2⟩⟩) fun hHeld=>?_
 clear hK K
 try simp only[sQ]
 refine rdH 6 rfl fun K hK=>?_
 go_simp
 refine(hO.out _ (hr.out.bel hHeld.1)).mono ?_
 rintro e v2 ⟨rfl,hB⟩
 go_wp2_with fail
 refine hK.out _ _ (⟨hHeld.1.trans (hB.mono hHeld.1.size),Zab hB hHeld.2.1,by obtain⟨old,ho1,ho2⟩:=hHeld.2.2;exact⟨old,ho1,(hB.block _ (block_lt ho2)).trans ho2⟩⟩) fun hHeld=>?_
 clear hK K
 try simp only[sQ]
 refine rdH 8 rfl fun K hK=>?_
 go_simp
 refine(hRw.out _ (hR.out.bel hHeld.1)).mono ?_
 rintro e v3 ⟨A3,c3,rfl,o3,hB⟩
 have rd3:=hid (OwnL.rds o3)
 have cp3:=hid (OwnL.cap o3)
 go_wp2_with fail
 refine hK.out _ _ (⟨hHeld.1.trans (hB.mono hHeld.1.size),Zab hB hHeld.2.1,by obtain⟨old,ho1,ho2⟩:=hHeld.2.2;exact⟨old,ho1,(hB.block _ (block_lt ho2)).trans ho2⟩⟩) fun hHeld=>?_
 clear hK K
 try simp only[sQ]
 refine rdH 9 rfl fun K hK=>?_
 go_simp
 refine(hRo.out _ _ _ rd3.out cp3.out.1 cp3.out.2).mono ?_
 rintro e v4 ⟨rfl,hB⟩
 go_wp2_with fail
 refine hK.out _ _ (⟨hHeld.1.trans (hB.mono hHeld.1.size),Zab hB hHeld.2.1,by obtain⟨old,ho1,ho2⟩:=hHeld.2.2;exact⟨old,ho1,(hB.block _ (block_lt ho2)).trans ho2⟩⟩) fun hHeld=>?_
 clear hK K
 try simp only[sQ]
 refine' tkH 12 rfl (Yb1 (by rfl) _ _ rfl _ _ (hb.out) rfl) ?_
 simp only[sQ]
 refine rdH 13 rfl fun K hK=>?_
 obtain⟨old,ho1,ho2⟩:=hHeld.2.2
 refine Zaj rfl 28 (.tmp 6) (.tmp 19) rfl (w.heap.size+1) _ rfl rfl 28 old ho2 qA.out (qZ.out old ho1) qO ?_
 intro w14 d14 hG
 refine hK.out _ _ (⟨hHeld.1.grown hG hHeld.1.size (fun g e=>by injection e with e;omega),Zak hHeld.2.1 (fun hb=>hG.block _ hb (by simp)),qc.toArray,qB.out,d14⟩) fun hHeld=>?_
 clear hK K
 try simp only[sQ]
 refine dnN ?_
 go_wp2
 refine Vy0 (v:=.agg qc.toArray) ?_ rfl ⟨rfl,hHeld.1⟩
 exact results_cell_row Tryz.results71 _ _ (w.heap.size+1) 28 _ (0,0) _ rfl d14 hux rfl qA.out
theorem ZdA{fn:Func}{p q r s:Tmp}{ty:TypeId}(h:fn.results=#[.tmp p,.cell q ty,.tmp r,.tmp s])(tmps:Array Value)(w:World)(g:Nat)(t:TypeId)(cs:Array Value)(fr:Nat×Nat)(d:TypeDesc)
  (hp:tmps.getD q undef=.pointer (some ⟨g,0,none⟩)) (hg:w.heap[g]? =some (.cells cs t fr))
  (hd:(match d with| .struct _| .array _ _=>true|_=>false)=true) (hu:Tryz.prog.underlying ty=some d) (hi:(Tryz.prog.info? ty).map (·.size)=some cs.size):
  (results fn tmps).run Tryz.prog w=.ok (.tuple #[tmps.getD p undef,.agg cs,tmps.getD r undef,tmps.getD s undef]) w:=by
 have hp':tmps[q]?.getD undef=.pointer (some ⟨g,0,none⟩):=by simpa using hp
 have h2:=run_loadVar_row (P:=Tryz.prog) w g t ty cs fr d hg hu (by cases d<;>first|exact hd|rfl) hi
 simp[results,h,hp',asAddr,h2]
theorem Yih(w:World)(l m q n:List Value)(t u v y:TypeId)(z:Array Value):
  (((((w.alloc (.cells l.toArray t)).alloc (.cells m.toArray u)).alloc (.cells q.toArray v)).alloc (.cells n.toArray y)).rangeAt w.heap.size 0 l∧
  ((((w.alloc (.cells l.toArray t)).alloc (.cells m.toArray u)).alloc (.cells q.toArray v)).alloc (.cells n.toArray y)).rangeAt (w.heap.size+1) 0 m∧
  ((((w.alloc (.cells l.toArray t)).alloc (.cells m.toArray u)).alloc (.cells q.toArray v)).alloc (.cells n.toArray y)).rangeAt (w.heap.size+1+1) 0 q∧
  ((((w.alloc (.cells l.toArray t)).alloc (.cells m.toArray u)).alloc (.cells q.toArray v)).alloc (.cells n.toArray y)).rangeAt (w.heap.size+1+1+1) 0 n)∧
  Below w.heap.size w ((((w.alloc (.cells l.toArray t)).alloc (.cells m.toArray u)).alloc (.cells q.toArray v)).alloc (.cells n.toArray y))∧
  ((((w.alloc (.cells l.toArray t)).alloc (.cells m.toArray u)).alloc (.cells q.toArray v)).alloc (.cells n.toArray y)).heap.size=w.heap.size+1+1+1+1:=by
 obtain⟨h1,h2,h3,h4⟩:=Zl0 w l m q t u v
 have h5:=Zae (Vx0 (((w.alloc (.cells l.toArray t)).alloc (.cells m.toArray u)).alloc (.cells q.toArray v)) (.cells n.toArray y))
 simp only[Vx2]at h5
 exact⟨⟨Zab (Zad _ _) h1,Zab (Zad _ _) h2,Zab (Zad _ _) h3,h5⟩,Zag h4 (Zad _ _),by simp only[Vx2]⟩
theorem YgF{ps:List Pr}(h:heldP ps=true):∀p∈ps,p.v.length≤64:=fun p hp=>by
 rw[Zph (Zc5.1 h p hp)];decide
theorem ZzQ{ps:List Pr}(hs:St ps)(ds:List Dp)(xs:List Tx)(box:Dg):St (madeL ps ds xs box):=by
 unfold madeL
 split
 ·rename_i h
  exact Znq xs (ZfJ ds hs) h
 ·exact⟨List.Pairwise.nil,rfl⟩
theorem ZuW(ps:List Pr)(ds:List Dp)(xs:List Tx)(box:Dg):∀r∈madeRs ps ds xs box,mayR r=true:=by
 intro r hr
 unfold madeRs at hr
 split at hr
 ·rcases List.mem_append.1 hr with h|h
  ·exact(Zir _ _ r h).1
  ·exact(Zj5 box _ _ r h).1
 ·cases hr
theorem Ydr(ps:List Pr)(ds:List Dp)(xs:List Tx)(box:Dg):(madeL ps ds xs box).length≤ps.length+ds.length+4 * xs.length:=by
 unfold madeL
 split
 ·have h1:=Zf5 ds ps
  have h2:=ZiA box xs (giveAll ps ds)
  omega
 ·exact Nat.zero_le _
theorem ZoM(ps:List Pr)(ds:List Dp)(xs:List Tx)(box:Dg):(madeRs ps ds xs box).length≤ds.length+xs.length:=by
 unfold madeRs
 split
 ·rw[Vx3,Zde,Zh3];exact Vx8 _
 ·exact Nat.zero_le _
def applyE(t:Tr)(x:Hd)(ds:List Dp)(xs:List Tx)(box:Dg):Int:=if mayA t=true then (if mayH x=true then (if (x.h==1073741824)=true then 8 else if decide (16<ds.length)=true then 4 else if decide (16<xs.length)=true then 4 else madeE (allT t) ds xs box) else 8) else 8
def applyL(t:Tr)(x:Hd)(ds:List Dp)(xs:List Tx)(box:Dg):List Pr:=if applyE t x ds xs box=0 then madeL (allT t) ds xs box else []
def applyR(t:Tr)(x:Hd)(ds:List Dp)(xs:List Tx)(box:Dg):List Rc:=if applyE t x ds xs box=0 then madeRs (allT t) ds xs box else []
def applyH(t:Tr)(x:Hd)(ds:List Dp)(xs:List Tx)(box:Dg):Hd:=if applyE t x ds xs box=0 then headB x (madeL (allT t) ds xs box) (madeRs (allT t) ds xs box) else zH
def ApplyPost(t:Tr)(x:Hd)(ds:List Dp)(xs:List Tx)(box:Dg)(w:World)(e:Ending)(w':World):Prop:=
 ∃A' c' R rc,e=.returned (.tuple #[.slice A' (applyL t x ds xs box).length c',.agg (hdC (applyH t x ds xs box)).toArray,.slice R (applyR t x ds xs box).length rc,.int .i64 (applyE t x ds xs box)])∧OwnR 84 w' w.heap.size A' c' (applyL t x ds xs box)∧OwnR 61 w' w.heap.size R rc (applyR t x ds xs box)∧Below w.heap.size w w'
theorem Zv3(F Fd Fx:Nat→Prop)(A:Option Addr)(c:Nat)(ns:List Nd)(root:Int)(x:Hd)(D:Option Addr)(d:Nat)(ds:List Dp)(X:Option Addr)(e:Nat)(xs:List Tx)(box:Dg)(w:World)
  (hr:Row F w A ns) (hc:ns.length≤900) (hD:Row Fd w D ds) (hX:Row Fx w X xs) (ld:ds.length≤1000) (lx:xs.length≤1000):
  Calls Tryz.prog 20 #[.agg #[.slice A ns.length c,.int .i64 root],.agg (hdC x).toArray,.agg #[.slice D ds.length d,.slice X xs.length e],.agg (box.1.map bv).toArray] w (ApplyPost ⟨ns,root⟩ x ds xs box w):=by
 have hut:=Tryz.underlying24
 have hux:=Tryz.underlying28
 have hub:=Tryz.underlying36
 have hu:=Tryz.underlying26
 obtain⟨⟨T0,X0,Y0,D0⟩,W0,s0⟩:=Yih w [Value.slice A ns.length c,.int .i64 root] (hdC x) [Value.slice D ds.length d,.slice X xs.length e] (box.1.map bv) 24 28 36 26 #[]
 have jT:=hid (show (Tryz.prog.info? 24).map (·.size)=some ([Value.slice A ns.length c,.int .i64 root]).length from Zah)
 have jX:=hid (Zbu x)
 have jY:=hid (show (Tryz.prog.info? 36).map (·.size)=some ([Value.slice D ds.length d,.slice X xs.length e]).length by kernel_rfl)
 have jD:=hid (ZaF box)
 have hb0:=hid Zcc
 have sZ:=hid (show (Tryz.prog.info? 28).map (·.size)=some zHdC.size from Zbg zH)
 have oZ:zHdC.all (·.oneCell')=true:=ZbM zH
 have hM:=hid (fun W hW=>ZeF F A c ns root W hW (by omega))
 have hH:=hid (fun W=>Zog x W)
 have hA:=hid (fun hmt W hW=>ZbT F A c ns root W hW (by omega) hmt)
 obtain⟨pe,hpe⟩:∃v,applyE ⟨ns,root⟩ x ds xs box=v:=⟨_,rfl⟩
 obtain⟨pl,hpl⟩:∃v,applyL ⟨ns,root⟩ x ds xs box=v:=⟨_,rfl⟩
 obtain⟨pr,hpr⟩:∃v,applyR ⟨ns,root⟩ x ds xs box=v:=⟨_,rfl⟩
 obtain⟨ph,hph⟩:∃v,applyH ⟨ns,root⟩ x ds xs box=v:=⟨_,rfl⟩
 have eL:pl=if pe=0 then madeL (allT ⟨ns,root⟩) ds xs box else []:=by rw[← hpl,←hpe];rfl
 have eR:pr=if pe=0 then madeRs (allT ⟨ns,root⟩) ds xs box else []:=by rw[← hpr,←hpe];rfl
 have eH:ph=if pe=0 then headB x (madeL (allT ⟨ns,root⟩) ds xs box) (madeRs (allT ⟨ns,root⟩) ds xs box) else zH:=by rw[← hph,←hpe];rfl
 have eE:pe=if mayA ⟨ns,root⟩=true then (if mayH x=true then (if (x.h==1073741824)=true then 8 else if decide (16<ds.length)=true then 4 else if decide (16<xs.length)=true then 4 else madeE (allT ⟨ns,root⟩) ds xs box) else 8) else 8:=by rw[← hpe];rfl
 have ez:(hdC zH).toArray=zHdC:=rfl
 unfold ApplyPost
 rw[hpe,hpl,hpr,hph]
 clear hpe hpl hpr hph
 have hal:mayA ⟨ns,root⟩=true→(allT ⟨ns,root⟩).length≤900:=fun hm=>Vx1 (Zbp (Zcm hm).1).2.2.1 hc
 have hmt:=fun (hm:mayA ⟨ns,root⟩=true)=>(Zcm hm).1
 have hMd:=fun (hm:mayA ⟨ns,root⟩=true) B A2 c2 W ho hB hDW hXW=>Zv8 B A2 c2 (allT ⟨ns,root⟩) Fd Fx D d ds X e xs box W ho hB (Vx1 (hal hm) (by decide)) (Zcm hm).2 hDW hXW ld lx
 have hHd:=fun (hm:mayA ⟨ns,root⟩=true) (hx:mayH x=true) (l1:ds.length≤16) (l2:xs.length≤16) G1 G2 A2 c2 R2 rc2 W hrow hrec=>Zs5 G1 G2 x A2 c2 (madeL (allT ⟨ns,root⟩) ds xs box) R2 rc2 (madeRs (allT ⟨ns,root⟩) ds xs box) W hx hrow (ZzQ (Zcm hm).2 ds xs box).1 (by have:=Ydr (allT ⟨ns,root⟩) ds xs box;have:=hal hm;omega) (YgF (ZzQ (Zcm hm).2 ds xs box).2) hrec (ZuW _ _ _ _) (by have:=ZoM (allT ⟨ns,root⟩) ds xs box;omega)
 unfold MadeBPost at hMd
 obtain⟨bd,hbd⟩:∃b,decide (16<ds.length)=b:=⟨_,rfl⟩
 obtain⟨bx,hbx⟩:∃b,decide (16<xs.length)=b:=⟨_,rfl⟩
 obtain⟨eh,heh⟩:∃b,(x.h==1073741824)=b:=⟨_,rfl⟩
 have qD:decide (16<(ds.length:Int))=bd:=by rw[← hbd,decide_eq_decide];omega
 have qX:decide (16<(xs.length:Int))=bx:=by rw[← hbx,decide_eq_decide];omega
 have lD:bd=false→ds.length≤16:=fun h=>by rw[h,decide_eq_false_iff_not]at hbd;omega
 have lX:bx=false→xs.length≤16:=fun h=>by rw[h,decide_eq_false_iff_not]at hbx;omega
 rw[hbd,hbx,heh]at eE
 clear hbd hbx
 have one_q:=fun q:Hd=>ZbM q
 have siz_q:=fun q:Hd=>Zbg q
 have zsz_q:=fun q:Hd=>Zbw q
 generalize headB x (madeL (allT ⟨ns,root⟩) ds xs box) (madeRs (allT ⟨ns,root⟩) ds xs box)=qh at *
 generalize madeL (allT ⟨ns,root⟩) ds xs box=ml at *
 generalize madeRs (allT ⟨ns,root⟩) ds xs box=mr at *
 generalize madeE (allT ⟨ns,root⟩) ds xs box=me at *
 generalize mayA ⟨ns,root⟩=m at *
 generalize mayH x=mh at *
 have hz:=(BoxH.of X0).h
 have Xh:=X0
 generalize hcx:hdC x=cx at *
 replace T0:=hid T0
 replace X0:=hid X0
 replace Y0:=hid Y0
 replace D0:=hid D0
 replace W0:=hid W0
 replace hcx:=hid hcx
 replace hr:=hid hr
 replace hD:=hid hD
 replace hX:=hid hX
 replace eL:=hid eL
 replace eR:=hid eR
 replace eH:=hid eH
 replace eE:=hid eE
 replace hmt:=hid hmt
 replace hMd:=hid hMd
 replace hHd:=hid hHd
 replace one_q:=hid one_q
 replace siz_q:=hid siz_q
 replace zsz_q:=hid zsz_q
 replace ez:=hid ez
 clear hal hz Xh
 go_enter Tryz.func20,Tryz.ntmps20
 go_wp2_with (first
  |(with_reducible refine Zac rfl 28 rfl zHdC Za9 ?_)
  |(with_reducible refine lDr (Zab (Zad _ _) T0.out) jT.out hut ?_))
 generalize hw0:((((w.alloc (.cells #[Value.slice A ns.length c,.int .i64 root] 24)).alloc (.cells cx.toArray 28)).alloc (.cells #[Value.slice D ds.length d,.slice X xs.length e] 36)).alloc (.cells (box.1.map bv).toArray 26))=w0 at *
 have Z1:=Vx0 w0 (.cells zHdC 28)
 rw[s0]at Z1
 replace Z1:=hid Z1
 have ex:=hid (Zad w0 (.cells zHdC 28))
 have T1:=hid (Zab ex.out T0.out)
 have X1:=hid (Zab ex.out X0.out)
 have Y1:=hid (Zab ex.out Y0.out)
 have D1:=hid (Zab ex.out D0.out)
 have W1:=hid (W0.out.trans (ex.out.mono W0.out.size))
 clear T0 X0 Y0 D0 W0 s0 ex hw0
 generalize w0.alloc (.cells zHdC 28)=w1 at *
 refine(hM.out _ (hr.out.bel W1.out)).mono ?_
 rintro e2 w2 ⟨rfl,hb⟩
 have T2:=hid (Zab hb T1.out)
 have X2:=hid (Zab hb X1.out)
 have Y2:=hid (Zab hb Y1.out)
 have D2:=hid (Zab hb D1.out)
 have Z2:=hid ((hb.block _ (block_lt Z1.out)).trans Z1.out)
 have W2:=hid (W1.out.trans (hb.mono W1.out.size))
 clear hb T1 X1 Y1 D1 Z1 W1
 cases m with
 |false=>
  obtain rfl:pe=8:=by rw[eE.out];rfl
  obtain rfl:pl=[]:=by rw[eL.out];rfl
  obtain rfl:pr=[]:=by rw[eR.out];rfl
  obtain rfl:ph=zH:=by rw[eH.out];rfl
  clear eE eL eR eH
  go_wp2_with (first
   |((with_reducible refine Zaf rfl 28 _ rfl zHdC [] ?_ ?_ ?_);exact hb0.out;rfl)
   |((with_reducible refine stW 9 28 (w.heap.size+1+1+1+1) 28 zHdC ?_ ?_ ?_ ?_ ?_);exact Z2.out;exact sZ.out;rfl;exact oZ;intro vE hgE hbE hsE))
  exact Vy0 (ZdA rfl _ _ (w.heap.size+1+1+1+1) 28 zHdC (0,0) _ rfl hgE rfl hux sZ.out) rfl ⟨none,0,none,0,rfl,OwnR.nil _ _,OwnR.nil _ _,W2.out.grown hbE W2.out.size (fun g e=>by injection e with e;omega)⟩
 |true=>
 have hmt2:=hid (hmt.out rfl)
 clear hmt
 go_wp2_with ((with_reducible refine lDr X2.out jX.out hux ?_))
 refine(hH.out _).mono ?_
 rintro e3 w3 ⟨rfl,hb⟩
 have T3:=hid (Zab hb T2.out)
 have X3:=hid (Zab hb X2.out)
 have Y3:=hid (Zab hb Y2.out)
 have D3:=hid (Zab hb D2.out)
 have Z3:=hid ((hb.block _ (block_lt Z2.out)).trans Z2.out)
 have W3:=hid (W2.out.trans (hb.mono W2.out.size))
 clear hb T2 X2 Y2 D2 Z2 W2
 cases mh with
 |false=>
  obtain rfl:pe=8:=by rw[eE.out];rfl
  obtain rfl:pl=[]:=by rw[eL.out];rfl
  obtain rfl:pr=[]:=by rw[eR.out];rfl
  obtain rfl:ph=zH:=by rw[eH.out];rfl
  clear eE eL eR eH
  go_wp2_with (first
   |((with_reducible refine Zaf rfl 28 _ rfl zHdC [] ?_ ?_ ?_);exact hb0.out;rfl)
   |((with_reducible refine stW 9 28 (w.heap.size+1+1+1+1) 28 zHdC ?_ ?_ ?_ ?_ ?_);exact Z3.out;exact sZ.out;rfl;exact oZ;intro vE hgE hbE hsE))
  exact Vy0 (ZdA rfl _ _ (w.heap.size+1+1+1+1) 28 zHdC (0,0) _ rfl hgE rfl hux sZ.out) rfl ⟨none,0,none,0,rfl,OwnR.nil _ _,OwnR.nil _ _,W3.out.grown hbE W3.out.size (fun g e=>by injection e with e;omega)⟩
 |true=>
 have c3:=(BoxH.of (show w3.rangeAt (w.heap.size+1) 0 (hdC x) by rw[hcx.out];exact X3.out)).h
 cases eh with
 |true=>
  obtain rfl:pe=8:=by rw[eE.out];rfl
  obtain rfl:pl=[]:=by rw[eL.out];rfl
  obtain rfl:pr=[]:=by rw[eR.out];rfl
  obtain rfl:ph=zH:=by rw[eH.out];rfl
  clear eE eL eR eH
  go_wp2_with (first
   |((with_reducible refine Zaf rfl 28 _ rfl zHdC [] ?_ ?_ ?_);exact hb0.out;rfl)
   |((with_reducible refine stW 9 28 (w.heap.size+1+1+1+1) 28 zHdC ?_ ?_ ?_ ?_ ?_);exact Z3.out;exact sZ.out;rfl;exact oZ;intro vE hgE hbE hsE))
  exact Vy0 (ZdA rfl _ _ (w.heap.size+1+1+1+1) 28 zHdC (0,0) _ rfl hgE rfl hux sZ.out) rfl ⟨none,0,none,0,rfl,OwnR.nil _ _,OwnR.nil _ _,W3.out.grown hbE W3.out.size (fun g e=>by injection e with e;omega)⟩
 |false=>
 have y0:=Y3.out 0 _ rfl
 have y1:=Y3.out 1 _ rfl
 cases bd with
 |true=>
  obtain rfl:pe=4:=by rw[eE.out];rfl
  obtain rfl:pl=[]:=by rw[eL.out];rfl
  obtain rfl:pr=[]:=by rw[eR.out];rfl
  obtain rfl:ph=zH:=by rw[eH.out];rfl
  clear eE eL eR eH
  go_wp2_with (first
   |((with_reducible refine Zaf rfl 28 _ rfl zHdC [] ?_ ?_ ?_);exact hb0.out;rfl)
   |((with_reducible refine stW 9 39 (w.heap.size+1+1+1+1) 28 zHdC ?_ ?_ ?_ ?_ ?_);exact Z3.out;exact sZ.out;rfl;exact oZ;intro vE hgE hbE hsE))
  exact Vy0 (ZdA rfl _ _ (w.heap.size+1+1+1+1) 28 zHdC (0,0) _ rfl hgE rfl hux sZ.out) rfl ⟨none,0,none,0,rfl,OwnR.nil _ _,OwnR.nil _ _,W3.out.grown hbE W3.out.size (fun g e=>by injection e with e;omega)⟩
 |false=>
 cases bx with
 |true=>
  obtain rfl:pe=4:=by rw[eE.out];rfl
  obtain rfl:pl=[]:=by rw[eL.out];rfl
  obtain rfl:pr=[]:=by rw[eR.out];rfl
  obtain rfl:ph=zH:=by rw[eH.out];rfl
  clear eE eL eR eH
  go_wp2_with (first
   |((with_reducible refine Zaf rfl 28 _ rfl zHdC [] ?_ ?_ ?_);exact hb0.out;rfl)
   |((with_reducible refine stW 9 39 (w.heap.size+1+1+1+1) 28 zHdC ?_ ?_ ?_ ?_ ?_);exact Z3.out;exact sZ.out;rfl;exact oZ;intro vE hgE hbE hsE))
  exact Vy0 (ZdA rfl _ _ (w.heap.size+1+1+1+1) 28 zHdC (0,0) _ rfl hgE rfl hux sZ.out) rfl ⟨none,0,none,0,rfl,OwnR.nil _ _,OwnR.nil _ _,W3.out.grown hbE W3.out.size (fun g e=>by injection e with e;omega)⟩
 |false=>
 have l1:=lD rfl
 have l2:=lX rfl
 have t0:=T3.out 0 _ rfl
 have m1:IntKind.i64.wrap (300 * (ds.length:Int))=300 * (ds.length:Int):=IntWalk.i64_in _ (by omega)
 have m2:IntKind.i64.wrap (260944-300 * (ds.length:Int))=260944-300 * (ds.length:Int):=IntWalk.i64_in _ (by omega)
 have m3:IntKind.i64.wrap (1200 * (xs.length:Int))=1200 * (xs.length:Int):=IntWalk.i64_in _ (by omega)
 have m4:IntKind.i64.wrap (260944-300 * (ds.length:Int)-1200 * (xs.length:Int))=260944-300 * (ds.length:Int)-1200 * (xs.length:Int):=IntWalk.i64_in _ (by omega)
 have qN:decide (260944-300 * (ds.length:Int)-1200 * (xs.length:Int)<(ns.length:Int))=false:=Vy1 (by omega)
 obtain rfl:pe=me:=by rw[eE.out];rfl
 clear eE lD lX
 go_wp2
 refine rgB fun hHeld=>?_
 refine' tkM 0 rfl (fun _ h=>Zab h T3.out) hut jT.out ?_
 refine' tkM 2 rfl (fun _ h=>Zab h Y3.out) hub jY.out ?_
 refine' tkM 3 rfl (fun _ h=>Zab h D3.out) hu jD.out ?_
 simp only[sQ]
 refine rdH 1 rfl fun K hK=>?_
 go_simp
 refine(hA.out hmt2.out _ (hr.out.bel (W3.out.trans (hHeld.mono W3.out.size)))).mono ?_
 rintro e4 u1 ⟨A4,c4,rfl,o4,hB⟩
 have b4:=hid hHeld.size
 go_wp2_with fail
 refine kB hK hHeld hB fun hHeld=>?_
 clear hK K
 try simp only[sQ]
 refine rdH 4 rfl fun K hK=>?_
 go_simp
 refine(hMd.out (by first|rfl|trivial) w3.heap.size _ _ _ (OwnR.base o4 b4.out) hHeld.size (hD.out.bel (W3.out.trans (hHeld.mono W3.out.size))) (hX.out.bel (W3.out.trans (hHeld.mono W3.out.size)))).mono ?_
 rintro e5 u2 ⟨A5,c5,R5,rc5,rfl,o5,r5,hB⟩
 have b5:=hid hHeld.size
 go_wp2_with fail
 refine kB hK hHeld hB fun hHeld=>?_
 clear hK K
 try simp only[sQ]
 refine' tkW 5 6 ?_
 refine' tkW 7 8 ?_
 simp only[sQ]
 refine' tkW 9 10 ?_
 refine' tkP 11 rfl ?_
 simp only[sQ]
 refine dnN ?_
 have O5:=hid o5
 have Q5:=hid (OwnR.base r5 b5.out)
 have g3:=hid (block_lt Z3.out)
 have w3s:=hid W3.out.size
 have hb:=hHeld
 have T4:=hid (Zab hb T3.out)
 have X4:=hid (Zab hb X3.out)
 have Y4:=hid (Zab hb Y3.out)
 have D4:=hid (Zab hb D3.out)
 have Z4:=hid ((hb.block _ (block_lt Z3.out)).trans Z3.out)
 have W4:=hid (W3.out.trans (hb.mono W3.out.size))
 clear hb T3 X3 Y3 D3 Z3 W3
 clear o4 o5 r5 b4 b5 hHeld
 by_cases h0:pe=0
 ·subst h0
  obtain rfl:pl=ml:=by rw[eL.out];rfl
  obtain rfl:pr=mr:=by rw[eR.out];rfl
  obtain rfl:ph=qh:=by rw[eH.out];rfl
  clear eL eR eH
  go_wp2_with ((with_reducible refine lDr X4.out jX.out hux ?_))
  refine(hHd.out (by first|rfl|trivial) (by first|rfl|trivial) l1 l2 _ _ _ _ _ _ _ (OwnR.row O5.out) (OwnR.row Q5.out)).mono ?_
  rintro e6 u6 ⟨rfl,hb6⟩
  have O6:=hid (OwnQ.bel O5.out hb6)
  have Q6:=hid (OwnQ.bel Q5.out hb6)
  have Z6:=hid ((hb6.block _ (block_lt Z4.out)).trans Z4.out)
  have W6:=hid (W4.out.trans (hb6.mono W4.out.size))
  have sq:=hid (siz_q.out ph)
  have oq:=one_q.out ph
  have zq:=hid (zsz_q.out ph)
  clear hb6 O5 Q5 Z4 W4
  go_wp2_with (((with_reducible refine stW 9 72 (w.heap.size+1+1+1+1) 28 zHdC ?_ ?_ ?_ ?_ ?_);exact Z6.out;exact sq.out;exact zq.out;exact oq;intro vE hgE hbE hsE))
  refine Vy0 (ZdA rfl _ _ (w.heap.size+1+1+1+1) 28 (hdC ph).toArray (0,0) _ rfl hgE rfl hux sq.out) rfl ⟨A5,c5,R5,rc5,rfl,?_,?_,W6.out.grown hbE W6.out.size (fun g e=>by injection e with e;omega)⟩
  ·exact OwnR.base (OwnQ.keptG O6.out (fun b hl hne=>hbE.block b hl (fun e=>hne (by injection e))) g3.out g3.out) w3s.out
  ·exact OwnR.base (OwnQ.keptG Q6.out (fun b hl hne=>hbE.block b hl (fun e=>hne (by injection e))) g3.out g3.out) w3s.out
 ·obtain rfl:pl=[]:=by rw[eL.out,if_neg h0]
  obtain rfl:pr=[]:=by rw[eR.out,if_neg h0]
  obtain rfl:ph=zH:=by rw[eH.out,if_neg h0]
  have h1:(pe==0)=false:=by rw[beq_eq_false_iff_ne];exact h0
  have h2:(pe !=0)=true:=by rw[bne,h1];rfl
  clear eL eR eH h0
  go_wp2_with (first
   |((with_reducible refine Zaf rfl 28 _ rfl zHdC [] ?_ ?_ ?_);exact hb0.out;rfl)
   |((with_reducible refine stW 9 66 (w.heap.size+1+1+1+1) 28 zHdC ?_ ?_ ?_ ?_ ?_);exact Z4.out;exact sZ.out;rfl;exact oZ;intro vE hgE hbE hsE))
  exact Vy0 (ZdA rfl _ _ (w.heap.size+1+1+1+1) 28 zHdC (0,0) _ rfl hgE rfl hux sZ.out) rfl ⟨none,0,none,0,rfl,OwnR.nil _ _,OwnR.nil _ _,W4.out.grown hbE W4.out.size (fun g e=>by injection e with e;omega)⟩
def dpL(x:Dp):List (List Lit):=[[litU x.n],x.t.1.map lit8,[litU x.a]]
theorem Yiq{x y:Dp}(h1:x.n=y.n)(h2:x.t=y.t)(h3:x.a=y.a):x=y:=by cases x;cases y;simp_all
theorem Ygo{x y:Dp}:(dpL x).flatten=(dpL y).flatten↔x=y:=by
 constructor
 ·intro h
  simp only[dpL,List.flatten_cons,List.flatten_nil,List.append_nil]at h
  obtain⟨h1,h⟩:=(ZdI (by rfl)).1 h
  obtain⟨h2,h3⟩:=(ZdI (by simp[x.t.2,y.t.2])).1 h
  simp only[List.cons.injEq,and_true]at h1 h3
  exact Yiq (ZjV.1 h1) (ZhQ.1 h2) (ZjV.1 h3)
 ·rintro rfl;rfl
theorem ZyQ:Tryz.prog.cellsOf 70=34:=by kernel_rfl
theorem Ye7(x:Dp)(h:x.ok):FitsK Tryz.prog 3 (Tryz.prog.fieldsOf 70).toList 0 (dpS x) (dpL x):=by
 have c8:Tryz.prog.cellsOf 37=1:=by kernel_rfl
 have cd:Tryz.prog.cellsOf 26=32:=by kernel_rfl
 have ku:=fun n hn=>Zhf Tryz.underlying37 2 n hn
 have kd:=fun d:Dg=>Ziu 1 d
 have hf:(Tryz.prog.fieldsOf 70).toList=(match Tryz.prog.underlying 70 with|some (.struct fs)=>fs|_=>#[]).toList:=by kernel_rfl
 rw[hf,Tryz.underlying70]
 simp only[dpS,dpL,FitsK,c8,cd,ZbO,ku _ h.1,ku _ h.2,kd]
 simp
theorem Ygu(x y:Dp)(hx:x.ok)(hy:y.ok)(b:Bool)(h:decide (x=y)=b)(w:World):
  (Op.equalIn 10000 70 (.agg (dpC x).toArray) (.agg (dpC y).toArray)).run Tryz.prog w=.ok b w:=by
 have hu:Tryz.prog.underlying 70=some (.struct (Tryz.prog.fieldsOf 70)):=by kernel_rfl
 exact Zpp hu 4 (by decide +kernel) (by decide) 3 (dpS x) (dpS y) (dpL x) (dpL y) (by rw[ZyQ];exact ZoJ x) (by rw[ZyQ];exact ZoJ y) (by decide +kernel) (Ye7 x hx) (Ye7 y hy) b (by rw[Ygo,←h,decide_eq_true_eq]) w
theorem ZgI{α:Type}{ps qs:List α}{j:Nat}(h1:j<ps.length)(h2:j<qs.length)(h:ps.take j=qs.take j):ps.take (j+1)=qs.take (j+1)↔ps[j]=qs[j]:=by
 rw[Vy5 h1,Vy5 h2,h]
 exact⟨fun e=>by have:=List.append_cancel_left e;simpa using this,fun e=>by rw[e]⟩
theorem ZmC(F G:Nat→Prop)(A D:Option Addr)(c d:Nat)(ps qs:List Rc)(w:World)(hr:Row F w A ps)(hs:Row G w D qs)(hc:ps.length≤9223372036854775807)(hd:qs.length≤9223372036854775807):
  Calls Tryz.prog 21 #[.slice A ps.length c,.slice D qs.length d] w fun e w'=>e=.returned (.bool (decide (ps=qs)))∧Below w.heap.size w w':=by
 obtain⟨ans,ha⟩:∃ans,decide (ps=qs)=ans:=⟨_,rfl⟩
 rw[ha]
 replace ha:=hid ha
 have hu:=Tryz.underlying61
 by_cases hl:ps.length=qs.length
 ·have hl2:=hid hl
  rw[← hl]at hd ⊢
  replace hl:=hl2
  clear hl2
  go_enter Tryz.func21,Tryz.ntmps21
  go_wp2
  go_loopw [5] (fun i wr=>∃j:Nat,j≤ps.length∧i=.int .i64 j∧ps.take j=qs.take j∧Below w.heap.size w wr) (fun i _=>ps.length-(intOf i).toNat)
  case atStart=>exact⟨0,Nat.zero_le _,rfl,by simp,Below.refl _ _⟩
  case round=>
   obtain⟨j,hj,rfl,hrel,hb⟩:=hrel
   by_cases hlt:j<ps.length
   ·have hlt2:j<qs.length:=by rw[← hl.out];exact hlt
    have E:=hid (ZgI hlt hlt2 hrel)
    replace hrel:=hid hrel
    obtain⟨b,o,hA,r1,k1⟩:=ZnG hr hlt
    obtain⟨b',o',hD,r2,k2⟩:=ZnG hs hlt2
    subst hA hD
    obtain⟨eb,heb⟩:∃eb,decide (ps[j]=qs[j])=eb:=⟨_,rfl⟩
    have hE:∀W,(Op.equalIn 10000 61 (.agg (rcC ps[j]).toArray) (.agg (rcC qs[j]).toArray)).run Tryz.prog W=.ok eb W:=fun W=>ZkL ps[j] qs[j] k1 k2 eb heb W
    have hno:eb=false→false=ans:=by
     intro h
     rw[← ha.out]
     refine(Vy1 fun e=>?_).symm
     have:=E.out.1 (by rw[e])
     rw[h]at heb;simp[this]at heb
    have hyes:eb=true→ps.take (j+1)=qs.take (j+1):=fun h1=>E.out.2 (by simpa [h1] using heb)
    have hi1:=hid (ZdM ps[j])
    have hi2:=hid (ZdM qs[j])
    clear heb E k1 k2
    generalize rcC ps[j]=d1 at *
    generalize rcC qs[j]=d2 at *
    have q1:=hid r1
    have q2:=hid r2
    clear hlt2 r1 r2
    cases eb
    ·replace hno:=hid (hno rfl)
     clear hyes
     go_wp2
     refine rgB fun hHeld=>?_
     refine' tkW 0 1 ?_
     refine' tkP 2 rfl ?_
     refine' tkM 3 rfl (fun _ h=>Zab h (Zab hb q1.out)) hu hi1.out ?_
     simp only[sQ]
     refine' tkW 4 5 ?_
     refine' tkP 6 rfl ?_
     refine' tkM 7 rfl (fun _ h=>Zab h (Zab hb q2.out)) hu hi2.out ?_
     simp only[sQ]
     refine' tkP 8 rfl ?_
     simp only[sQ]
     refine dnN ?_
     go_wp2
     go_ret
     exact⟨by rw[← hno.out];rfl,hb.trans (hHeld.mono hb.size)⟩
    ·replace hyes:=hid (hyes rfl)
     clear hno
     go_wp2
     refine rgB fun hHeld=>?_
     refine' tkW 0 1 ?_
     refine' tkP 2 rfl ?_
     refine' tkM 3 rfl (fun _ h=>Zab h (Zab hb q1.out)) hu hi1.out ?_
     simp only[sQ]
     refine' tkW 4 5 ?_
     refine' tkP 6 rfl ?_
     refine' tkM 7 rfl (fun _ h=>Zab h (Zab hb q2.out)) hu hi2.out ?_
     simp only[sQ]
     refine' tkP 8 rfl ?_
     simp only[sQ]
     refine dnN ?_
     go_wp2
     go_roundw
     case rel=>exact⟨j+1,by omega,by go_num,hyes.out,hb.trans (hHeld.mono hb.size)⟩
     case measure=>simp[intOf];omega
   ·obtain rfl:j=ps.length:=by omega
    have e1:true=ans:=by
     rw[← ha.out]
     refine(Vy2 ?_).symm
     rw[List.take_length]at hrel
     rw[hrel,hl.out,List.take_length]
    replace e1:=hid e1
    replace hrel:=trivial
    go_wp2
    go_ret
    exact⟨by rw[← e1.out];rfl,hb⟩
 ·have e0:false=ans:=by
   rw[← ha.out]
   exact(Vy1 fun e=>hl (by rw[e])).symm
  replace e0:=hid e0
  have q1:((ps.length:Int)==(qs.length:Int))=false:=by rw[beq_eq_false_iff_ne];omega
  clear ha
  go_enter Tryz.func21,Tryz.ntmps21
  go_wp2
  go_ret
  exact⟨by rw[← e0.out];rfl,Below.refl _ _⟩
def bigB(n:Nat):Bool:=(decide (4<(n:Int))&&decide ((n:Int)≤16))||decide (20<(n:Int))
def greatB(n m:Nat):Bool:=bigB n||bigB m
theorem Zom(n:Nat):(bigB n=false∧decide (4<(n:Int))=false∧decide ((n:Int)≤16)=true∧decide (20<(n:Int))=false)∨(bigB n=true∧decide (4<(n:Int))=true∧decide ((n:Int)≤16)=true∧decide (20<(n:Int))=false)∨
  (bigB n=false∧decide (4<(n:Int))=true∧decide ((n:Int)≤16)=false∧decide (20<(n:Int))=false)∨(bigB n=true∧decide (4<(n:Int))=true∧decide ((n:Int)≤16)=false∧decide (20<(n:Int))=true):=by
 unfold bigB
 rcases Nat.lt_or_ge 4 n with h|h
 ·rcases Nat.lt_or_ge 16 n with k|k
  ·rcases Nat.lt_or_ge 20 n with m|m
   ·have a:decide (4<(n:Int))=true:=Vy2 (by omega)
    have b:decide ((n:Int)≤16)=false:=Vy1 (by omega)
    have c:decide (20<(n:Int))=true:=Vy2 (by omega)
    rw[a,b,c];exact .inr (.inr (.inr ⟨rfl,rfl,rfl,rfl⟩))
   ·have a:decide (4<(n:Int))=true:=Vy2 (by omega)
    have b:decide ((n:Int)≤16)=false:=Vy1 (by omega)
    have c:decide (20<(n:Int))=false:=Vy1 (by omega)
    rw[a,b,c];exact .inr (.inr (.inl ⟨rfl,rfl,rfl,rfl⟩))
  ·have a:decide (4<(n:Int))=true:=Vy2 (by omega)
   have b:decide ((n:Int)≤16)=true:=Vy2 (by omega)
   have c:decide (20<(n:Int))=false:=Vy1 (by omega)
   rw[a,b,c];exact .inr (.inl ⟨rfl,rfl,rfl,rfl⟩)
 ·have a:decide (4<(n:Int))=false:=Vy1 (by omega)
  have b:decide ((n:Int)≤16)=true:=Vy2 (by omega)
  have c:decide (20<(n:Int))=false:=Vy1 (by omega)
  rw[a,b,c];exact .inl ⟨rfl,rfl,rfl,rfl⟩
theorem Zgi(D:Option Addr)(d n:Nat)(X:Option Addr)(e m:Nat)(w:World):
  Calls Tryz.prog 17 #[.agg #[.slice D n d,.slice X m e]] w fun r w'=>r=.returned (.bool (greatB n m))∧Below w.heap.size w w':=by
 have hB:=Zae (l:=[Value.slice D n d,.slice X m e]) (Vx0 w (.cells #[Value.slice D n d,.slice X m e] 36))
 have c0:=hB 0 _ rfl
 have c1:=hB 1 _ rfl
 have W0:=hid (Zad w (.cells #[Value.slice D n d,.slice X m e] 36))
 clear hB
 have hg:greatB n m=(bigB n||bigB m):=rfl
 rw[hg]
 rcases Zom n with ⟨p0,p1,p2,p3⟩|⟨p0,p1,p2,p3⟩|⟨p0,p1,p2,p3⟩|⟨p0,p1,p2,p3⟩<;>rcases Zom m with ⟨k0,k1,k2,k3⟩|⟨k0,k1,k2,k3⟩|⟨k0,k1,k2,k3⟩|⟨k0,k1,k2,k3⟩
 all_goals
  rw[p0,k0]
  clear p0 k0 hg
  go_enter Tryz.func17,Tryz.ntmps17
  go_wp2
  go_ret
  exact⟨rfl,W0.out⟩
theorem Zpd(Fa Fb Ga Gb:Nat→Prop)(D:Option Addr)(d:Nat)(ds:List Dp)(X:Option Addr)(e:Nat)(xs:List Tx)(D2:Option Addr)(d2:Nat)(dt:List Dp)(X2:Option Addr)(e2:Nat)(xt:List Tx)(w:World)
  (h1:Row Fa w D ds) (h2:Row Fb w D2 dt) (h3:Row Ga w X xs) (h4:Row Gb w X2 xt) (l1:ds.length≤1000000) (l2:xs.length≤1000000):
  Calls Tryz.prog 23 #[.agg #[.slice D ds.length d,.slice X xs.length e],.agg #[.slice D2 dt.length d2,.slice X2 xt.length e2]] w fun r w'=>r=.returned (.bool (decide (ds=dt)&&decide (xs=xt)))∧Below w.heap.size w w':=by
 obtain⟨ans,ha⟩:∃ans,(decide (ds=dt)&&decide (xs=xt))=ans:=⟨_,rfl⟩
 rw[ha]
 replace ha:=hid ha
 have hud:=Tryz.underlying70
 have hux:=Tryz.underlying39
 obtain⟨Y0,Z0,W0⟩:=Ye2 w [Value.slice D ds.length d,.slice X xs.length e] [Value.slice D2 dt.length d2,.slice X2 xt.length e2] 36 36
 have y0:=Y0 0 _ rfl
 have z0:=Z0 0 _ rfl
 have y1:=Y0 1 _ rfl
 have z1:=Z0 1 _ rfl
 replace Y0:=hid Y0
 replace Z0:=hid Z0
 have Rds:=hid (h1.bel W0)
 have Rdt:=hid (h2.bel W0)
 have Rxs:=hid (h3.bel W0)
 have Rxt:=hid (h4.bel W0)
 replace W0:=hid W0
 clear h1 h2 h3 h4
 by_cases hl:ds.length=dt.length
 rotate_left
 ·have e0:false=ans:=by
   rw[← ha.out,eq_comm,Bool.and_eq_false_iff]
   left
   exact Vy1 fun e=>hl (by rw[e])
  replace e0:=hid e0
  have q1:((ds.length:Int) !=(dt.length:Int))=true:=by rw[bne_iff_ne];omega
  clear ha
  go_enter Tryz.func23,Tryz.ntmps23
  go_wp2
  go_ret
  exact⟨by rw[← e0.out];rfl,W0.out⟩
 have p1:((ds.length:Int) !=(dt.length:Int))=false:=by rw[hl];simp
 by_cases hk:xs.length=xt.length
 rotate_left
 ·have e0:false=ans:=by
   rw[← ha.out,eq_comm,Bool.and_eq_false_iff]
   right
   exact Vy1 fun e=>hk (by rw[e])
  replace e0:=hid e0
  have q1:((xs.length:Int) !=(xt.length:Int))=true:=by rw[bne_iff_ne];omega
  clear ha
  replace hl:=hid hl
  go_enter Tryz.func23,Tryz.ntmps23
  go_wp2
  go_ret
  exact⟨by rw[← e0.out];rfl,W0.out⟩
 have p2:((xs.length:Int) !=(xt.length:Int))=false:=by rw[hk];simp
 have hds:=hid hl
 have hxs:=hid hk
 clear hl hk
 go_enter Tryz.func23,Tryz.ntmps23
 go_wp2
 generalize (w.alloc (.cells #[Value.slice D ds.length d,.slice X xs.length e] 36)).alloc (.cells #[Value.slice D2 dt.length d2,.slice X2 xt.length e2] 36)=w1 at *
 go_loopw [5] (fun i wr=>∃j:Nat,j≤ds.length∧i=.int .i64 j∧ds.take j=dt.take j∧Below w1.heap.size w1 wr) (fun i _=>ds.length-(intOf i).toNat)
 case atStart=>exact⟨0,Nat.zero_le _,rfl,by simp,Below.refl _ _⟩
 case round=>
  clear y0 z0 y1 z1
  obtain⟨j,hj,rfl,hrel,hb⟩:=hrel
  have y0:=(Zab hb Y0.out) 0 _ rfl
  by_cases hlt:j<ds.length
  ·have hlt2:j<dt.length:=by rw[← hds.out];exact hlt
   have E:=hid (ZgI hlt hlt2 hrel)
   replace hrel:=hid hrel
   have y0:=(Zab hb Y0.out) 0 _ rfl
   have z0:=(Zab hb Z0.out) 0 _ rfl
   obtain⟨b,o,hAe,r1,k1⟩:=Zsb (Rds.out.bel hb) hlt
   obtain⟨b',o',hDe,r2,k2⟩:=Zsb (Rdt.out.bel hb) hlt2
   subst hAe hDe
   obtain⟨eb,heb⟩:∃eb,decide (ds[j]=dt[j])=eb:=⟨_,rfl⟩
   have hE:∀W,(Op.equalIn 10000 70 (.agg (dpC ds[j]).toArray) (.agg (dpC dt[j]).toArray)).run Tryz.prog W=.ok eb W:=fun W=>Ygu ds[j] dt[j] k1 k2 eb heb W
   have hno:eb=false→false=ans:=by
    intro h
    rw[← ha.out,eq_comm,Bool.and_eq_false_iff]
    left
    refine Vy1 fun e=>?_
    have:=E.out.1 (by rw[e])
    rw[h]at heb;simp[this]at heb
   have hyes:eb=true→ds.take (j+1)=dt.take (j+1):=fun h1=>E.out.2 (by simpa [h1] using heb)
   have hi1:=hid (Zia ds[j])
   have hi2:=hid (Zia dt[j])
   clear heb E k1 k2
   generalize dpC ds[j]=c1 at *
   generalize dpC dt[j]=c2 at *
   have q1:=hid r1
   have q2:=hid r2
   clear r1 r2
   cases eb
   ·as_aux_lemma=>
    replace hno:=hid (hno rfl)
    clear hyes
    go_wp2
    refine rgB fun hHeld=>?_
    refine' tkP 0 rfl ?_
    refine' tkC 1 rfl y0 ?_
    refine' tkW 2 3 ?_
    simp only[sQ]
    refine' tkM 4 rfl (fun _ h=>Zab h q1.out) hud hi1.out ?_
    refine' tkP 5 rfl ?_
    refine' tkC 6 rfl z0 ?_
    refine' tkP 7 rfl ?_
    simp only[sQ]
    refine' tkP 8 rfl ?_
    refine' tkM 9 rfl (fun _ h=>Zab h q2.out) hud hi2.out ?_
    refine' tkP 10 rfl ?_
    simp only[sQ]
    refine dnN ?_
    go_wp2
    go_ret
    exact⟨by rw[← hno.out];rfl,W0.out.trans ((hb.trans (hHeld.mono hb.size)).mono W0.out.size)⟩
   ·as_aux_lemma=>
    replace hyes:=hid (hyes rfl)
    clear hno
    go_wp2
    refine rgB fun hHeld=>?_
    refine' tkP 0 rfl ?_
    refine' tkC 1 rfl y0 ?_
    refine' tkW 2 3 ?_
    simp only[sQ]
    refine' tkM 4 rfl (fun _ h=>Zab h q1.out) hud hi1.out ?_
    refine' tkP 5 rfl ?_
    refine' tkC 6 rfl z0 ?_
    refine' tkP 7 rfl ?_
    simp only[sQ]
    refine' tkP 8 rfl ?_
    refine' tkM 9 rfl (fun _ h=>Zab h q2.out) hud hi2.out ?_
    refine' tkP 10 rfl ?_
    simp only[sQ]
    refine dnN ?_
    go_wp2
    go_roundw
    case rel=>exact⟨j+1,by omega,by go_num,hyes.out,hb.trans (hHeld.mono hb.size)⟩
    case measure=>simp[intOf];omega
  ·obtain rfl:j=ds.length:=by omega
   have eD:ds=dt:=by rw[List.take_length]at hrel;rw[hrel,hds.out,List.take_length]
   replace eD:=hid eD
   have y0:=(Zab hb Y0.out) 0 _ rfl
   have hb1:=hid hb
   clear hrel hb
   go_wp2
   go_loopw [6] (fun i wr=>∃j:Nat,j≤xs.length∧i=.int .i64 j∧xs.take j=xt.take j∧Below w1.heap.size w1 wr) (fun i _=>xs.length-(intOf i).toNat)
   case atStart=>exact⟨0,Nat.zero_le _,rfl,by simp,hb1.out⟩
   case round=>
    clear y0 hb1
    obtain⟨j,hj,rfl,hrel,hb⟩:=hrel
    have y1:=(Zab hb Y0.out) 1 _ rfl
    by_cases hlt:j<xs.length
    ·have hlt2:j<xt.length:=by rw[← hxs.out];exact hlt
     have E:=hid (ZgI hlt hlt2 hrel)
     replace hrel:=hid hrel
     have y0:=(Zab hb Y0.out) 1 _ rfl
     have z0:=(Zab hb Z0.out) 1 _ rfl
     obtain⟨b,o,hAe,r1,k1⟩:=Zvs (Rxs.out.bel hb) hlt
     obtain⟨b',o',hDe,r2,k2⟩:=Zvs (Rxt.out.bel hb) hlt2
     subst hAe hDe
     obtain⟨eb,heb⟩:∃eb,decide (xs[j]=xt[j])=eb:=⟨_,rfl⟩
     have hE:∀W,(Op.equalIn 10000 39 (.agg (txC xs[j]).toArray) (.agg (txC xt[j]).toArray)).run Tryz.prog W=.ok eb W:=fun W=>Zfm xs[j] xt[j] k1 k2 eb heb W
     have hno:eb=false→false=ans:=by
      intro h
      rw[← ha.out,eq_comm,Bool.and_eq_false_iff]
      right
      refine Vy1 fun e=>?_
      have:=E.out.1 (by rw[e])
      rw[h]at heb;simp[this]at heb
     have hyes:eb=true→xs.take (j+1)=xt.take (j+1):=fun h1=>E.out.2 (by simpa [h1] using heb)
     have hi1:=hid (Zby xs[j])
     have hi2:=hid (Zby xt[j])
     clear heb E k1 k2
     generalize txC xs[j]=c1 at *
     generalize txC xt[j]=c2 at *
     have q1:=hid r1
     have q2:=hid r2
     clear r1 r2
     cases eb
     ·as_aux_lemma=>
      replace hno:=hid (hno rfl)
      clear hyes
      go_wp2
      refine rgB fun hHeld=>?_
      refine' tkP 0 rfl ?_
      refine' tkC 1 rfl y0 ?_
      refine' tkW 2 3 ?_
      simp only[sQ]
      refine' tkM 4 rfl (fun _ h=>Zab h q1.out) hux hi1.out ?_
      refine' tkP 5 rfl ?_
      refine' tkC 6 rfl z0 ?_
      refine' tkP 7 rfl ?_
      simp only[sQ]
      refine' tkP 8 rfl ?_
      refine' tkM 9 rfl (fun _ h=>Zab h q2.out) hux hi2.out ?_
      refine' tkP 10 rfl ?_
      simp only[sQ]
      refine dnN ?_
      go_wp2
      go_ret
      exact⟨by rw[← hno.out];rfl,W0.out.trans ((hb.trans (hHeld.mono hb.size)).mono W0.out.size)⟩
     ·as_aux_lemma=>
      replace hyes:=hid (hyes rfl)
      clear hno
      go_wp2
      refine rgB fun hHeld=>?_
      refine' tkP 0 rfl ?_
      refine' tkC 1 rfl y0 ?_
      refine' tkW 2 3 ?_
      simp only[sQ]
      refine' tkM 4 rfl (fun _ h=>Zab h q1.out) hux hi1.out ?_
      refine' tkP 5 rfl ?_
      refine' tkC 6 rfl z0 ?_
      refine' tkP 7 rfl ?_
      simp only[sQ]
      refine' tkP 8 rfl ?_
      refine' tkM 9 rfl (fun _ h=>Zab h q2.out) hux hi2.out ?_
      refine' tkP 10 rfl ?_
      simp only[sQ]
      refine dnN ?_
      go_wp2
      go_roundw
      case rel=>exact⟨j+1,by omega,by go_num,hyes.out,hb.trans (hHeld.mono hb.size)⟩
      case measure=>simp[intOf];omega
    ·obtain rfl:j=xs.length:=by omega
     have e1:true=ans:=by
      rw[← ha.out,eq_comm,Bool.and_eq_true]
      refine⟨Vy2 eD.out,Vy2 ?_⟩
      rw[List.take_length]at hrel
      rw[hrel,hxs.out,List.take_length]
     replace e1:=hid e1
     replace hrel:=trivial
     go_wp2
     go_ret
     exact⟨by rw[← e1.out];rfl,W0.out.trans (hb.mono W0.out.size)⟩
def zDp:Dp:=⟨0,⟨List.replicate 32 0,rfl⟩,0⟩
theorem Ybp:Slot Tryz.prog Dp 33 70 (.agg (dpC zDp).toArray) 48 where
 under:=Tryz.underlying33
 info:=by kernel_rfl
 zero:=by decide +kernel
 pos:=by decide
theorem Zsp:Slot Tryz.prog Tx 34 39 (.agg zTxC) 120 where
 under:=Tryz.underlying34
 info:=by kernel_rfl
 zero:=by decide +kernel
 pos:=by decide
theorem Yjg{F G:Nat→Prop}{w:World}{A:Option Addr}{xs:List Dp}(h:Row F w A xs):Src G w A xs:=fun hn=>by
 obtain⟨b,o,hA,-,-,hc⟩:=h hn
 exact⟨b,o,hA,fun j x hx=>by obtain⟨vs,h1,h2⟩:=hc j x hx;exact⟨vs,h1,h2⟩⟩
theorem Yjh{F G:Nat→Prop}{w:World}{A:Option Addr}{xs:List Tx}(h:Row F w A xs):Src G w A xs:=fun hn=>by
 obtain⟨b,o,hA,-,-,hc⟩:=h hn
 exact⟨b,o,hA,fun j x hx=>by obtain⟨vs,h1,h2⟩:=hc j x hx;exact⟨vs,h1,h2⟩⟩
def zBodyC:Array Value:=#[.slice none 0 0,.slice none 0 0]
theorem YbU:(Tryz.prog.info? 36).map (fun i=>(i.zero,i.size))=some (some (.agg zBodyC),zBodyC.size):=by kernel_rfl
theorem ZfA(u v:Value):(Tryz.prog.info? 36).map (·.size)=some ([u,v]:List Value).length:=by
 show _=some 2
 kernel_rfl
theorem YdH(A B:Option Addr)(n m c d:Nat):(#[Value.slice A n c,.slice B m d]:Array Value).all (·.oneCell')=true:=all_oneCell_toArray (cs:=[Value.slice A n c,.slice B m d]) fun u hu=>by
 simp only[List.mem_cons,List.not_mem_nil,or_false]at hu
 rcases hu with rfl|rfl<;>rfl
theorem Zpf(F G:Nat→Prop)(D:Option Addr)(d:Nat)(ds:List Dp)(X:Option Addr)(e:Nat)(xs:List Tx)(w:World)(hD:Row F w D ds)(hX:Row G w X xs)(l1:ds.length≤1000000)(l2:xs.length≤1000000):
  Calls Tryz.prog 19 #[.agg #[.slice D ds.length d,.slice X xs.length e]] w fun r w'=>∃A' c' B' d',r=.returned (.agg #[.slice A' ds.length c',.slice B' xs.length d'])∧OwnR 70 w' w.heap.size A' c' ds∧OwnR 39 w' w.heap.size B' d' xs∧Below w.heap.size w w':=by
 have hub:=Tryz.underlying36
 obtain⟨Y0,Z1,Z2,W0⟩:=Zl0 w [Value.slice D ds.length d,.slice X xs.length e] zBodyC.toList zBodyC.toList 36 36 36
 clear Z1 Z2
 have Z1:=Vx0 (w.alloc (.cells #[Value.slice D ds.length d,.slice X xs.length e] 36)) (.cells zBodyC 36)
 have b2:=Zad ((w.alloc (.cells #[Value.slice D ds.length d,.slice X xs.length e] 36)).alloc (.cells zBodyC 36)) (.cells zBodyC 36)
 have Z2:=Vx0 ((w.alloc (.cells #[Value.slice D ds.length d,.slice X xs.length e] 36)).alloc (.cells zBodyC 36)) (.cells zBodyC 36)
 replace Z1:=(b2.block _ (block_lt Z1)).trans Z1
 simp only[Vx2]at Z1 Z2
 have s3:(((w.alloc (.cells #[Value.slice D ds.length d,.slice X xs.length e] 36)).alloc (.cells zBodyC 36)).alloc (.cells zBodyC 36)).heap.size=w.heap.size+1+1+1:=by simp only[Vx2]
 have y0:=Y0 0 _ rfl
 have c2:=(Zae (l:=[.slice none 0 0,.slice none 0 0]) Z2) 0 _ rfl
 replace Z1:=hid Z1
 replace Z2:=hid Z2
 replace Y0:=hid Y0
 have hD0:=hid (hD.bel W0)
 have hXw:=hid hX
 replace W0:=hid W0
 replace s3:=hid s3
 clear b2 hD hX
 go_enter Tryz.func19,Tryz.ntmps19
 go_wp2_with (first
  |(with_reducible refine Zac rfl 36 rfl zBodyC YbU ?_)
  |(at_builtin;refine ZbG Ybp rfl (.tmp 5) (.tmp 7) rfl (w.heap.size+1+1+1) (w.heap.size+1+1+1) none D 0 ds.length 0 d [] ds (fun _=>False) rfl rfl rfl rfl (OwnQ.nil _ _ _) (Yjg hD0.out) (fun b hb=>hb.elim) (by simp only[List.length_nil];omega) (Nat.le_of_eq s3.out.symm) ?_;intro A4 c4 w4 o4 hb4;rw[List.nil_append]at o4 ⊢;have z24:=(hb4.block (w.heap.size+1+1) (by omega)).trans Z2.out;have z14:=hid ((hb4.block (w.heap.size+1) (by omega)).trans Z1.out);have F4:=Zap z24 0;have c24:=(Zae (l:=[.slice none 0 0,.slice none 0 0]) z24) 0 _ rfl;have z25:=hid (show (w4.setCell ⟨w.heap.size+1+1,0,none⟩ (.slice A4 ds.length c4)).heap[w.heap.size+1+1]? =some (.cells #[.slice A4 ds.length c4,.slice none 0 0] 36 (0,0)) by rw[ZaD z24];rfl);have c25:=(Zae (l:=[.slice A4 ds.length c4,.slice none 0 0]) z25.out) 1 _ rfl;have z15:=hid ((Vy3 w4 ⟨w.heap.size+1+1,0,none⟩ (.slice A4 ds.length c4) (w.heap.size+1) (show w.heap.size+1≠w.heap.size+1+1 by omega)).trans z14.out);have c26:=(Zak (w':=(w4.setCell ⟨w.heap.size+1+1,0,none⟩ (.slice A4 ds.length c4))) Y0.out (fun _=>(Vy3 w4 ⟨w.heap.size+1+1,0,none⟩ (.slice A4 ds.length c4) w.heap.size (show w.heap.size≠w.heap.size+1+1 by omega)).trans (hb4.block _ (by omega)))) 1 _ rfl;have B5:=hid ((W0.out.trans (hb4.mono (by omega))).setCell (p:=⟨w.heap.size+1+1,0,none⟩) (show w.heap.size≤w.heap.size+1+1 by omega) (.slice A4 ds.length c4));have O5:=hid (OwnQ.keptG (g:=w.heap.size+1+1) o4 (fun b _ hne=>Vy3 w4 ⟨w.heap.size+1+1,0,none⟩ (.slice A4 ds.length c4) b hne) (by omega) (by omega));have X5:=hid (hXw.out.bel B5.out);have lt5:=hid (block_lt z25.out);clear z24 z14 o4 hb4)
  |(at_builtin;refine ZbG Zsp rfl (.tmp 11) (.tmp 13) rfl (w4.setCell ⟨w.heap.size+1+1,0,none⟩ (.slice A4 ds.length c4)).heap.size (w4.setCell ⟨w.heap.size+1+1,0,none⟩ (.slice A4 ds.length c4)).heap.size none X 0 xs.length 0 e [] xs (fun _=>False) rfl rfl rfl rfl (OwnQ.nil _ _ _) (Yjh X5.out) (fun b hb=>hb.elim) (by simp only[List.length_nil];omega) (Vx8 _) ?_;intro A6 c6 w6 o6 hb6;rw[List.nil_append]at o6 ⊢;have z26:=(hb6.block _ (block_lt z25.out)).trans z25.out;have z16:=(hb6.block _ (block_lt z15.out)).trans z15.out;have F6:=Zap z26 1;have d26:=(Zae (l:=[.slice A4 ds.length c4,.slice none 0 0]) z26) 1 _ rfl;have z27:=hid (show (w6.setCell ⟨w.heap.size+1+1,1,none⟩ (.slice A6 xs.length c6)).heap[w.heap.size+1+1]? =some (.cells #[.slice A4 ds.length c4,.slice A6 xs.length c6] 36 (0,0)) by rw[ZaD z26];rfl);have r7:=hid (Zae (l:=[.slice A4 ds.length c4,.slice A6 xs.length c6]) z27.out);have z17:=hid ((Vy3 w6 ⟨w.heap.size+1+1,1,none⟩ (.slice A6 xs.length c6) (w.heap.size+1) (show w.heap.size+1≠w.heap.size+1+1 by omega)).trans z16);have B7:=hid ((B5.out.trans (hb6.mono B5.out.size)).setCell (p:=⟨w.heap.size+1+1,1,none⟩) (show w.heap.size≤w.heap.size+1+1 by omega) (.slice A6 xs.length c6));have O7:=hid (OwnQ.keptG (g:=w.heap.size+1+1) (OwnQ.bel O5.out hb6) (fun b _ hne=>Vy3 w6 ⟨w.heap.size+1+1,1,none⟩ (.slice A6 xs.length c6) b hne) (by omega) (by omega));have Q7:=hid (OwnQ.keptG (g:=w.heap.size+1+1) o6 (fun b _ hne=>Vy3 w6 ⟨w.heap.size+1+1,1,none⟩ (.slice A6 xs.length c6) b hne) lt5.out lt5.out);clear z26 z16 o6 hb6)
  |(with_reducible refine lDr r7.out (ZfA _ _) hub ?_)
  |((with_reducible refine stW 2 16 (w.heap.size+1) 36 zBodyC ?_ ?_ ?_ ?_ ?_);exact z17.out;exact ZfA _ _;rfl;exact YdH _ _ _ _ _ _;intro w8 hgE hbE hsE))
 refine Vy0 (v:=.agg #[.slice A4 ds.length c4,.slice A6 xs.length c6]) ?_ rfl ⟨A4,c4,A6,c6,rfl,?_,?_,?_⟩
 ·exact results_cell_row Tryz.results19 _ _ (w.heap.size+1) 36 _ (0,0) _ rfl hgE hub rfl (ZfA _ _)
 ·exact OwnR.base (OwnQ.keptG O7.out (fun b hl hne=>hbE.block b hl (fun e=>hne (by injection e))) (by omega) (by omega)) (by omega)
 ·exact OwnR.base (OwnQ.keptG Q7.out (fun b hl hne=>hbE.block b hl (fun e=>hne (by injection e))) (by have:=lt5.out;omega) (by have:=lt5.out;omega)) (by have:=lt5.out;omega)
 ·exact B7.out.grown hbE B7.out.size (fun g e=>by injection e with e;omega)
end Go.Proofs.YtomhoehlgagiiaaGreatDoor
