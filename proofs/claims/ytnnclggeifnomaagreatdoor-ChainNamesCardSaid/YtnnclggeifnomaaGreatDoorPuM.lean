import Derived.Test.YtnnclggeifnomaaGreatDoorPuL
import Derived.Test.YtnnclggeifnomaaGreatDoorTxM
set_option maxRecDepth 100000
set_option linter.all false
set_option maxHeartbeats 16000000
namespace Go.Proofs.YtnnclggeifnomaaGreatDoor
open Go.RowKit Go.Shelf
def upF(a:Ac):Int×Ac:=(0,⟨(a.n+1) % 18446744073709551616,a.b⟩)
def lessF(n m:Nat)(a:Ac):Int×Ac:=if n+m≤a.b then (0,⟨a.n,a.b-(n+m)⟩) else (150,a)
theorem ZxJ(w:World):TurnC 227 #[] upF w:=by
 intro W hW g a hg ha h0
 obtain⟨c1,-,f1,-⟩:=ZlX h0
 have hw:IntKind.u64.wrap ((a.n:Int)+1)=(((a.n+1) % 18446744073709551616:Nat):Int):=by rw[IntKind.wrap_u64];omega
 have hE:=Yhu ((a.n+1) % 18446744073709551616) h0
 unfold upF
 generalize hs:(((a.n+1) % 18446744073709551616:Nat):Int)=s at *
 replace hE:=hid hE
 clear hs h0 ha
 go_enter Tryz.func227,Tryz.ntmps227
 go_wp2
 go_ret
 exact⟨_,rfl,hE.out,fun _=>rfl,ZoD _ _ _ _⟩
theorem ZxI(n m:Nat)(w:World):Calls Tryz.prog 228 #[.int .u64 (n:Int),.int .u64 (m:Int)] w fun e w'=>∃nb mb,e=.returned (.func (.func 254) #[] #[.pointer (some ⟨nb,0,none⟩),.pointer (some ⟨mb,0,none⟩)])∧nb<w'.heap.size∧mb<w'.heap.size∧w'.cell? ⟨nb,0,none⟩=some (.int .u64 (n:Int))∧w'.cell? ⟨mb,0,none⟩=some (.int .u64 (m:Int))∧Below w.heap.size w w':=by
 have h1:=(Zab (Zad (w.alloc (.cells #[.int .u64 (n:Int)] 128)) (.cells #[.int .u64 (m:Int)] 128)) (Zae (l:=[Value.int .u64 (n:Int)]) (Vx0 w (.cells #[.int .u64 (n:Int)] 128)))) 0 _ rfl
 have h2:=(Zae (l:=[Value.int .u64 (m:Int)]) (Vx0 (w.alloc (.cells #[.int .u64 (n:Int)] 128)) (.cells #[.int .u64 (m:Int)] 128))) 0 _ rfl
 rw[Vx2]at h2
 replace h1:=hid h1
 replace h2:=hid h2
 go_enter Tryz.func228,Tryz.ntmps228
 go_wp2
 go_ret
 exact⟨w.heap.size,w.heap.size+1,rfl,by simp only[Vx2];omega,by simp only[Vx2];omega,h1.out,h2.out,Zag (Zad _ _) (Zad _ _)⟩
theorem Zqy(n m:Nat)(hn:n<18446744073709551616)(hm:m<18446744073709551616)(w:World)(nb mb:Nat)(hnb:nb<w.heap.size)(hmb:mb<w.heap.size)(h1:w.cell? ⟨nb,0,none⟩=some (.int .u64 (n:Int)))(h2:w.cell? ⟨mb,0,none⟩=some (.int .u64 (m:Int))):
  TurnC 254 #[.pointer (some ⟨nb,0,none⟩),.pointer (some ⟨mb,0,none⟩)] (lessF n m) w:=by
 intro W hW g a hg ha h0
 obtain⟨-,c1,-,f1⟩:=ZlX h0
 have c2:W.cell? ⟨nb,0,none⟩=some (.int .u64 (n:Int)):=(hW.cell hnb).trans h1
 have c3:W.cell? ⟨mb,0,none⟩=some (.int .u64 (m:Int)):=(hW.cell hmb).trans h2
 obtain⟨ha1,ha2⟩:=ha
 clear h1 h2
 by_cases hle:n+m≤a.b
 ·have hF:lessF n m a=(0,⟨a.n,a.b-(n+m)⟩):=if_pos hle
  rw[hF]
  have hA:=fun W=>Zil n m ((n+m:Nat):Int) 0 (by rw[Nat.mod_eq_of_lt (by omega)]) (by omega) W
  have hw:IntKind.u64.wrap ((a.b:Int)-((n+m:Nat):Int))=((a.b-(n+m):Nat):Int):=by rw[IntKind.wrap_u64];omega
  have hgt:decide (((n+m:Nat):Int)>(a.b:Int))=false:=Vy1 (by omega)
  have hE:=Yba (a.b-(n+m)) h0
  generalize ((a.b-(n+m):Nat):Int)=s at *
  generalize ((n+m:Nat):Int)=q at *
  replace hE:=hid hE
  clear hle hF h0
  go_enter Tryz.func254,Tryz.ntmps254
  go_wp2
  go_ret
  exact⟨_,rfl,hE.out,fun _=>rfl,ZoD _ _ _ _⟩
 ·have hF:lessF n m a=(150,a):=if_neg hle
  rw[hF]
  by_cases hlt:n+m<18446744073709551616
  ·have hA:=fun W=>Zil n m ((n+m:Nat):Int) 0 (by rw[Nat.mod_eq_of_lt (by omega)]) (by omega) W
   have hgt:decide (((n+m:Nat):Int)>(a.b:Int))=true:=Vy2 (by omega)
   generalize ((n+m:Nat):Int)=q at *
   replace h0:=hid h0
   clear hle hF hlt
   go_enter Tryz.func254,Tryz.ntmps254
   go_wp2
   go_ret
   exact⟨a,rfl,h0.out,fun h=>absurd h (show ¬(150:Int)=0 by decide),Zm5 _ _⟩
  ·have hA:=fun W=>Zil n m ((n+m-18446744073709551616:Nat):Int) 1 (by rw[show (n+m) % 18446744073709551616=n+m-18446744073709551616 by omega]) (by omega) W
   generalize ((n+m-18446744073709551616:Nat):Int)=q at *
   replace h0:=hid h0
   clear hle hF hlt
   go_enter Tryz.func254,Tryz.ntmps254
   go_wp2
   go_ret
   exact⟨a,rfl,h0.out,fun h=>absurd h (show ¬(150:Int)=0 by decide),Zm5 _ _⟩
theorem YjQ:∀(args:Array Value) (W:World),(callFunc 227 args).run Tryz.prog W=.ok (.enter 227 args) W:=fun _ _=>by kernel_rfl
theorem YcZ:∀(args:Array Value) (W:World),(callFunc 254 args).run Tryz.prog W=.ok (.enter 254 args) W:=fun _ _=>by kernel_rfl
def spUp(k:Dg):Sp:=⟨k,227,#[],upF⟩
def spLess(k:Dg)(n m nb mb:Nat):Sp:=⟨k,254,#[.pointer (some ⟨nb,0,none⟩),.pointer (some ⟨mb,0,none⟩)],lessF n m⟩
theorem Yjp{a:Ac}(ha:a.ok)(h:(upF a).1=0):(upF a).2.ok:=⟨Nat.mod_lt _ (by decide),ha.2⟩
theorem Ydl{n m:Nat}{a:Ac}(ha:a.ok)(h:(lessF n m a).1=0):(lessF n m a).2.ok:=by
 unfold lessF at h ⊢
 split at h
 ·rename_i hlt
  rw[if_pos hlt]
  exact⟨ha.1,Nat.lt_of_le_of_lt (Nat.sub_le _ _) ha.2⟩
 ·exact absurd h (show ¬(150:Int)=0 by decide)
def bareT(t:Tr)(x:Tx):Tr:=setT t (fromX x) ⟨(inA (allT t) (fromX x)).n+1,(inA (allT t) (fromX x)).b⟩
section
variable{t:Tr}{x:Tx}{box:Dg}
theorem Zym(hm:mayA t=true)(hn:nextB (allT t) x=true):runW t t [spUp (fromX x)]=(bareT t x,0):=by
 rw[ZgV (by rfl)]
 show (setT t (fromX x) ⟨((getA t (fromX x)).n+1) % 18446744073709551616,(getA t (fromX x)).b⟩,(0:Int))=_
 rw[Zdv hm,Nat.mod_eq_of_lt (Zni hn)]
 rfl
theorem Zus(hm:mayA t=true)(hn:nextB (allT t) x=true)(hl:t.ns.length≤90000):StOf (bareT t x) (bareL (allT t) x) t 257:=StOf.bare hm hn hl
theorem YdZ(nb mb n1 n2:Nat)(hz:payTE t x=0)(hl:t.ns.length≤90000):∃R,runW (bareT t x) (bareT t x) [spLess (fromX x) x.a x.f nb mb,spMore x.t x.a n1,spMore box x.f n2]=(R,payTC t x box)∧PayOk t x box R:=by
 obtain⟨hm,-,hn⟩:=Zel hz
 have hs:=(Zcm hm).2
 have h1:=Zus hm hn hl
 have hC:payTC t x box=paidC (allT t) x box:=by unfold payTC;rw[if_pos hz]
 rw[hC]
 generalize bareT t x=T1 at *
 have g1:getA T1 (fromX x)=⟨(inA (allT t) (fromX x)).n+1,(inA (allT t) (fromX x)).b⟩:=by rw[h1.get,bare_self hs hn]
 by_cases hp:poorB (allT t) x=true
 ·have hlt:=of_decide_eq_true hp
  have e:lessF x.a x.f (getA T1 (fromX x))=(150,getA T1 (fromX x)):=by rw[g1];exact if_neg (by dsimp only;omega)
  have hc:paidC (allT t) x box=150:=by unfold paidC;rw[if_pos hp]
  refine⟨T1,?_,ZpQ hz (by rw[hc];decide) h1 (by omega)⟩
  rw[Zkc (by show ¬(lessF x.a x.f (getA T1 (fromX x))).1=0;rw[e];exact(show ¬(150:Int)=0 by decide)),hc]
  show (T1,(lessF x.a x.f (getA T1 (fromX x))).1)=_
  rw[e]
 ·have hlt:¬(inA (allT t) (fromX x)).b<x.a+x.f:=fun h=>hp (Vy2 h)
  have e:lessF x.a x.f (getA T1 (fromX x))=(0,⟨(inA (allT t) (fromX x)).n+1,(inA (allT t) (fromX x)).b-(x.a+x.f)⟩):=by rw[g1];exact if_pos (by dsimp only;omega)
  have h2:=h1.less hn hl
  rw[ZgV (by show (lessF x.a x.f (getA T1 (fromX x))).1=0;rw[e])]
  show ∃R,runW T1 (setT T1 (fromX x) (lessF x.a x.f (getA T1 (fromX x))).2) _=_∧_
  rw[e]
  dsimp only
  generalize setT T1 (fromX x) ⟨(inA (allT t) (fromX x)).n+1,(inA (allT t) (fromX x)).b-(x.a+x.f)⟩=T2 at *
  have hov:∀b,overB (allT t) x box=b→paidC (allT t) x box=if b=true then 151 else 0:=fun b h=>by unfold paidC;rw[if_neg hp,h]
  by_cases hb:moreB (lessL (allT t) x) x.t x.a=true
  ·have e2:moreF x.a (getA T2 x.t)=(0,⟨(inA (lessL (allT t) x) x.t).n,(inA (lessL (allT t) x) x.t).b+x.a⟩):=by rw[h2.get];exact ZkX (of_decide_eq_true hb)
   have h3:=h2.more hb (by omega)
   rw[ZgV (by show (moreF x.a (getA T2 x.t)).1=0;rw[e2])]
   show ∃R,runW T1 (setT T2 x.t (moreF x.a (getA T2 x.t)).2) _=_∧_
   rw[e2]
   dsimp only
   generalize setT T2 x.t ⟨(inA (lessL (allT t) x) x.t).n,(inA (lessL (allT t) x) x.t).b+x.a⟩=T3 at *
   by_cases hb2:moreB (moreL (lessL (allT t) x) x.t x.a) box x.f=true
   ·have e3:moreF x.f (getA T3 box)=(0,⟨(inA (moreL (lessL (allT t) x) x.t x.a) box).n,(inA (moreL (lessL (allT t) x) x.t x.a) box).b+x.f⟩):=by rw[h3.get];exact ZkX (of_decide_eq_true hb2)
    have h4:=h3.more hb2 (by omega)
    have hc:paidC (allT t) x box=0:=hov false (by unfold overB;rw[hb,hb2];rfl)
    rw[ZgV (by show (moreF x.f (getA T3 box)).1=0;rw[e3])]
    show ∃R,(setT T3 box (moreF x.f (getA T3 box)).2,(0:Int))=_∧_
    rw[e3,hc]
    exact⟨_,rfl,YdX hz hc h4 (by omega)⟩
   ·have e3:moreF x.f (getA T3 box)=(151,getA T3 box):=ZpD (by rw[h3.get];exact fun h=>hb2 (Vy2 h))
    have hc:paidC (allT t) x box=151:=hov true (by unfold overB;rw[hb,Bool.eq_false_iff.2 hb2];rfl)
    refine⟨T1,?_,ZpQ hz (by rw[hc];decide) h1 (by omega)⟩
    rw[Zkc (by show ¬(moreF x.f (getA T3 box)).1=0;rw[e3];exact(show ¬(151:Int)=0 by decide)),hc]
    show (T1,(moreF x.f (getA T3 box)).1)=_
    rw[e3]
  ·have e2:moreF x.a (getA T2 x.t)=(151,getA T2 x.t):=ZpD (by rw[h2.get];exact fun h=>hb (Vy2 h))
   have hc:paidC (allT t) x box=151:=hov true (by unfold overB;rw[Bool.eq_false_iff.2 hb];rfl)
   refine⟨T1,?_,ZpQ hz (by rw[hc];decide) h1 (by omega)⟩
   rw[Zkc (by show ¬(moreF x.a (getA T2 x.t)).1=0;rw[e2];exact(show ¬(151:Int)=0 by decide)),hc]
   show (T1,(moreF x.a (getA T2 x.t)).1)=_
   rw[e2]
end
def PayPost(t:Tr)(x:Tx)(box:Dg)(w:World)(e:Ending)(w':World):Prop:=∃(o:Tr) (A':Option Addr) (c':Nat),e=.returned (.tuple #[.agg #[.slice A' o.ns.length c',.int .i64 o.root],.int .i64 (payTC t x box),.int .i64 (payTE t x)])∧OwnR 106 w' w.heap.size A' c' o.ns∧Below w.heap.size w w'∧PayOk t x box o
theorem Zyt(w:World)(l m q:List Value)(t u v:TypeId):
  (((w.alloc (.cells l.toArray t)).alloc (.cells m.toArray u)).alloc (.cells q.toArray v)).rangeAt w.heap.size 0 l∧
  (((w.alloc (.cells l.toArray t)).alloc (.cells m.toArray u)).alloc (.cells q.toArray v)).rangeAt (w.heap.size+1) 0 m∧
  (((w.alloc (.cells l.toArray t)).alloc (.cells m.toArray u)).alloc (.cells q.toArray v)).rangeAt (w.heap.size+1+1) 0 q∧
  Below w.heap.size w (((w.alloc (.cells l.toArray t)).alloc (.cells m.toArray u)).alloc (.cells q.toArray v)):=by
 have h1:=Zae (Vx0 w (.cells l.toArray t))
 have h2:=Zae (Vx0 (w.alloc (.cells l.toArray t)) (.cells m.toArray u))
 have h3:=Zae (Vx0 ((w.alloc (.cells l.toArray t)).alloc (.cells m.toArray u)) (.cells q.toArray v))
 simp only[Vx2]at h2 h3
 exact⟨Zab (Zad _ _) (Zab (Zad _ _) h1),Zab (Zad _ _) h2,h3,Zag (Zag (Zad _ _) (Zad _ _)) (Zad _ _)⟩
theorem YeA(x:Tx):decide (x=signX x)=decide (x.s=signD x):=by
 rw[decide_eq_decide]
 constructor
 ·intro h
  exact congrArg Tx.s h
 ·intro h
  obtain⟨p,t,n,a,f,s⟩:=x
  unfold signX
  rw[← h]
theorem YgR(n:Nat)(h:n<18446744073709551616):decide (n<18446744073709551615)= !decide ((n:Int)=18446744073709551615):=by
 by_cases e:n=18446744073709551615
 ·rw[Vy1 (by omega),Vy2 (by omega)];rfl
 ·rw[Vy2 (by omega),Vy1 (by omega)];rfl
theorem ZvU(F:Nat→Prop)(A:Option Addr)(c:Nat)(ns:List Nd)(root:Int)(x:Tx)(w:World)(hx:x.ok)(hr:Row F w A ns)(hc:ns.length≤90000)(hT:Tab w):
  Calls Tryz.prog 226 #[.agg #[.slice A ns.length c,.int .i64 root],.agg (txC x).toArray,.agg ((fromX x).1.map bv).toArray] w fun e w'=>e=.returned (.int .i64 (payTE ⟨ns,root⟩ x))∧Below w.heap.size w w':=by
 have hut:=Tryz.underlying24
 have hu:=Tryz.underlying37
 have hux:=Tryz.underlying145
 obtain⟨T0,X0,D0,W0⟩:=Zyt w [Value.slice A ns.length c,.int .i64 root] (txC x) ((fromX x).1.map bv) 24 145 37
 have N0:=hid (BoxX.of X0).n
 have R0:=hid ((hr.mono (G:=fun b=>b<w.heap.size) fun b _ h=>h).bel W0)
 have H0:=hid (hT.bel W0 hT.low)
 have hlow:=hid hT.low
 replace T0:=hid T0
 replace X0:=hid X0
 replace D0:=hid D0
 replace W0:=hid W0
 have jT:=hid (show (Tryz.prog.info? 24).map (·.size)=some ([Value.slice A ns.length c,.int .i64 root]).length from Zah)
 have jX:=hid (Zby x)
 have jD:=hid (ZaF (fromX x))
 have hG:=fun W hW=>ZcG (fun b=>b<w.heap.size) A c ns root (fromX x) W hW (by omega)
 have hCk:=hid (fun W hT=>Zds x hx _ (YeA x) W hT)
 have hFl:∀W,Calls Tryz.prog 220 #[.agg #[.slice A ns.length c,.int .i64 root]] W fun e w'=>e=.returned (.bool false)∧Below W.heap.size W w':=fun W=>by
  have:=Zmm A c ns.length root W
  rwa [Vy1 (by omega)]at this
 have eE:payTE ⟨ns,root⟩ x=if mayA ⟨ns,root⟩=true then (if decide (x.s=signD x)=true then (if nextB (allT ⟨ns,root⟩) x=true then 0 else 2) else 110) else 8:=by
  unfold payTE
  rw[Vy1 (show ¬260944<ns.length by omega)]
  rfl
 have hnb:mayA ⟨ns,root⟩=true→nextB (allT ⟨ns,root⟩) x=(decide (x.n=(getA ⟨ns,root⟩ (fromX x)).n)&& !decide ((x.n:Int)=18446744073709551615)):=fun h=>by
  unfold nextB
  rw[Zdv h,YgR x.n hx.1]
 obtain⟨pe,hpe⟩:∃v,payTE ⟨ns,root⟩ x=v:=⟨_,rfl⟩
 rw[hpe]at eE ⊢
 have nA:=hid (ZbW (getA ⟨ns,root⟩ (fromX x)))
 replace hFl:=hid hFl
 generalize hav:getA ⟨ns,root⟩ (fromX x)=av at *
 generalize (fromX x).1.map bv=dk at *
 generalize mayA ⟨ns,root⟩=m at *
 generalize decide (x.s=signD x)=sg at *
 generalize nextB (allT ⟨ns,root⟩) x=nb at *
 clear hpe hav hr hT
 generalize txC x=cx at *
 cases m with
 |false=>
  obtain rfl:pe=8:=eE
  simp only[Bool.false_eq_true,if_false]at hG
  replace hG:=hid hG
  clear hnb
  go_enter Tryz.func226,Tryz.ntmps226
  go_wp2_with (first
   |(with_reducible refine lDr T0.out jT.out hut ?_)
   |(with_reducible refine lDr D0.out jD.out hu ?_))
  refine(hG.out _ R0.out).mono ?_
  rintro e w1 ⟨rfl,hB⟩
  have W1:=hid (W0.out.trans (hB.mono W0.out.size))
  have e1:=hid (Vx0 w1 (.cells (acC ac0).toArray 130))
  clear hB
  go_wp2_with (first
   |(with_reducible refine Zac rfl 130 rfl (acC ac0).toArray ZaZ ?_)
   |((with_reducible refine stW 7 13 _ 130 (acC ac0).toArray ?_ ?_ ?_ ?_ ?_);exact e1.out;exact ZaM;rfl;exact nA.out;intro w2 hgS hbS hsS;have X2:=hid (Zan rfl hbS);clear hgS hbS hsS))
  go_ret
  exact⟨rfl,W1.out.trans (X2.out.mono W1.out.size)⟩
 |true=>
  simp only[if_true]at hG eE
  replace hG:=hid hG
  replace hnb:=hnb rfl
  go_enter Tryz.func226,Tryz.ntmps226
  go_wp2_with (first
   |(with_reducible refine lDr T0.out jT.out hut ?_)
   |(with_reducible refine lDr D0.out jD.out hu ?_))
  refine(hG.out _ R0.out).mono ?_
  rintro e w1 ⟨rfl,hB⟩
  have W1:=hid (W0.out.trans (hB.mono W0.out.size))
  have H1:=hid (H0.out.bel hB (Vx4 hlow.out W0.out.size))
  have T1:=hid (Zab hB T0.out)
  have X1:=hid (Zab hB X0.out)
  have N1:=hid ((hB.cell (Vx5 _ _ N0.out)).trans N0.out)
  have e1:=hid (Vx0 w1 (.cells (acC ac0).toArray 130))
  clear hB H0 T0 X0 N0 D0 R0 hG
  go_wp2_with (first
   |(with_reducible refine Zac rfl 130 rfl (acC ac0).toArray ZaZ ?_)
   |((with_reducible refine stW 7 13 _ 130 (acC ac0).toArray ?_ ?_ ?_ ?_ ?_);exact e1.out;exact ZaM;rfl;exact nA.out;intro w2 hgS hbS hsS;have X2:=hid (Zan rfl hbS);have W2:=hid (W1.out.trans (X2.out.mono W1.out.size));have H2:=hid (H1.out.bel X2.out (Vx4 hlow.out W1.out.size));have T2:=hid (Zab X2.out T1.out);have x2:=hid (Zab X2.out X1.out);have N2:=hid ((X2.out.cell (Vx5 _ _ N1.out)).trans N1.out);have A2:=hid ((Zae (l:=acC av) hgS) 0 _ rfl);clear hgS hbS hsS H1 T1 X1 N1)
   |(with_reducible refine lDr x2.out jX.out hux ?_))
  refine(hCk.out _ H2.out).mono ?_
  rintro e w3 ⟨rfl,hB⟩
  have W3:=hid (W2.out.trans (hB.mono W2.out.size))
  have T3:=hid (Zab hB T2.out)
  have N3:=(hB.cell (Vx5 _ _ N2.out)).trans N2.out
  have A3:=(hB.cell (Vx5 _ _ A2.out)).trans A2.out
  clear hB H2 T2 x2 N2 A2 W1 e1 X2
  cases sg with
  |false=>
   obtain rfl:pe=110:=eE
   clear hnb
   go_wp2
   go_ret
   exact⟨rfl,W3.out⟩
  |true=>
   simp only[if_true]at eE
   by_cases q1:x.n=av.n
   ·have k1:((x.n:Int) !=(av.n:Int))=false:=by simp[q1]
    by_cases q2:(x.n:Int)=18446744073709551615
    ·have k2:((x.n:Int)==18446744073709551615)=true:=by simp[q2]
     have hnb2:nb=false:=by rw[hnb,Vy2 q1,Vy2 q2];rfl
     subst hnb2
     obtain rfl:pe=2:=eE
     clear hnb q1 q2
     generalize ((x.n:Nat):Int)=xn at *
     generalize ((av.n:Nat):Int)=an at *
     go_wp2
     go_ret
     exact⟨rfl,W3.out⟩
    ·have k2:((x.n:Int)==18446744073709551615)=false:=by simp[q2]
     have hnb2:nb=true:=by rw[hnb,Vy2 q1,Vy1 q2];rfl
     subst hnb2
     obtain rfl:pe=0:=eE
     clear hnb q1 q2
     generalize ((x.n:Nat):Int)=xn at *
     generalize ((av.n:Nat):Int)=an at *
     go_wp2_with ((with_reducible refine lDr T3.out jT.out hut ?_))
     refine(hFl.out _).mono ?_
     rintro e w4 ⟨rfl,hB⟩
     go_wp2
     go_ret
     exact⟨rfl,W3.out.trans (hB.mono W3.out.size)⟩
   ·have k1:((x.n:Int) !=(av.n:Int))=true:=by simp;omega
    have hnb2:nb=false:=by rw[hnb,Vy1 q1];rfl
    subst hnb2
    obtain rfl:pe=2:=eE
    clear hnb q1
    generalize ((x.n:Nat):Int)=xn at *
    generalize ((av.n:Nat):Int)=an at *
    go_wp2
    go_ret
    exact⟨rfl,W3.out⟩
theorem Yct(w:World)(l m q:List Value)(t u v y:TypeId):
  ((((w.alloc (.cells l.toArray t)).alloc (.cells m.toArray u)).alloc (.cells q.toArray v)).alloc (.cells zTrC y)).rangeAt w.heap.size 0 l∧
  ((((w.alloc (.cells l.toArray t)).alloc (.cells m.toArray u)).alloc (.cells q.toArray v)).alloc (.cells zTrC y)).rangeAt (w.heap.size+1) 0 m∧
  ((((w.alloc (.cells l.toArray t)).alloc (.cells m.toArray u)).alloc (.cells q.toArray v)).alloc (.cells zTrC y)).rangeAt (w.heap.size+1+1) 0 q∧
  ((((w.alloc (.cells l.toArray t)).alloc (.cells m.toArray u)).alloc (.cells q.toArray v)).alloc (.cells zTrC y)).heap[w.heap.size+1+1+1]? =some (.cells zTrC y (0,0))∧
  Below w.heap.size w ((((w.alloc (.cells l.toArray t)).alloc (.cells m.toArray u)).alloc (.cells q.toArray v)).alloc (.cells zTrC y)):=by
 obtain⟨h1,h2,h3,h4⟩:=Zyt w l m q t u v
 have h5:=Vx0 (((w.alloc (.cells l.toArray t)).alloc (.cells m.toArray u)).alloc (.cells q.toArray v)) (.cells zTrC y)
 simp only[Vx2]at h5
 exact⟨Zab (Zad _ _) h1,Zab (Zad _ _) h2,Zab (Zad _ _) h3,h5,Zag h4 (Zad _ _)⟩
theorem ZvV(F:Nat→Prop)(A:Option Addr)(c:Nat)(ns:List Nd)(root:Int)(x:Tx)(box:Dg)(w:World)(hx:x.ok)(hr:Row F w A ns)(hc:ns.length≤90000)(hT:Tab w):
  Calls Tryz.prog 187 #[.agg #[.slice A ns.length c,.int .i64 root],.agg (txC x).toArray,.agg (box.1.map bv).toArray] w (PayPost ⟨ns,root⟩ x box w):=by
 have hut:=Tryz.underlying24
 have hu:=Tryz.underlying37
 have hux:=Tryz.underlying145
 obtain⟨T0,X0,B0,z0,W0⟩:=Yct w [Value.slice A ns.length c,.int .i64 root] (txC x) (box.1.map bv) 24 145 37 24
 have R0:=hid ((hr.mono (G:=fun b=>b<w.heap.size) fun b _ h=>h).bel W0)
 have H0:=hid (hT.bel W0 hT.low)
 have hlow:=hid hT.low
 replace T0:=hid T0
 replace X0:=hid X0
 replace B0:=hid B0
 replace z0:=hid z0
 replace W0:=hid W0
 have jT:=hid (show (Tryz.prog.info? 24).map (·.size)=some ([Value.slice A ns.length c,.int .i64 root]).length from Zah)
 have jX:=hid (Zby x)
 have jD:=hid (ZaF (fromX x))
 have aD:=hid (ZdN (fromX x))
 have zD:=hid (zDg (fromX x))
 have nD:=hid (Zji (fromX x))
 have jB:=hid (ZaF box)
 have jt:=hid (ZaF x.t)
 have hbt:=hid ZbU
 have hFr:=hid (fun W hT=>Zg2 x hx W hT)
 have hMy:=fun W hW hT=>ZvU (fun b=>b<w.heap.size) A c ns root x W hx hW hc hT
 unfold PayPost
 by_cases hz:payTE ⟨ns,root⟩ x=0
 case neg=>
  have hCd:payTC ⟨ns,root⟩ x box=0:=by unfold payTC;rw[if_neg hz]
  rw[hCd]
  have hok:=hid (Yg8 (t:=⟨ns,root⟩) (x:=x) (box:=box) hz)
  have hzn:(payTE ⟨ns,root⟩ x !=0)=true:=bne_iff_ne.2 hz
  clear hz hCd hr hT
  generalize payTE ⟨ns,root⟩ x=pe at *
  replace hMy:=hid hMy
  generalize txC x=cx at *
  generalize (fromX x).1.map bv=dk at *
  generalize box.1.map bv=db at *
  go_enter Tryz.func187,Tryz.ntmps187
  go_wp2_with (first
   |(with_reducible refine Zac rfl 24 rfl zTrC Zas ?_)
   |(with_reducible refine lDr X0.out jX.out hux ?_))
  generalize (((w.alloc (.cells #[.slice A ns.length c,.int .i64 root] 24)).alloc (.cells cx.toArray 145)).alloc (.cells db.toArray 37)).alloc (.cells zTrC 24)=w0 at *
  refine(hFr.out _ H0.out).mono ?_
  rintro e w1 ⟨rfl,hB⟩
  have W1:=hid (W0.out.trans (hB.mono W0.out.size))
  have H1:=hid (H0.out.bel hB (Vx4 hlow.out W0.out.size))
  have R1:=hid (R0.out.bel hB)
  have z1:=hid ((hB.block _ (block_lt z0.out)).trans z0.out)
  have T1:=hid (Zab hB T0.out)
  have X1:=hid (Zab hB X0.out)
  have e1:=hid (Vx0 w1 (.cells z32 37))
  clear hB hFr
  go_wp2_with (first
   |(with_reducible refine Zac rfl 37 rfl z32 Zam ?_)
   |((with_reducible refine stW 9 14 _ 37 z32 ?_ ?_ ?_ ?_ ?_);exact e1.out;exact aD.out;exact zD.out;exact nD.out;intro w2 hgS hbS hsS;have X:=hid (Zan rfl hbS);have D2:=hid (Zae (l:=dk) hgS);have W2:=hid (W1.out.trans (X.out.mono W1.out.size));have H2:=hid (H1.out.bel X.out (Vx4 hlow.out W1.out.size));have R2:=hid (R1.out.bel X.out);have z2:=hid ((X.out.block _ (block_lt z1.out)).trans z1.out);have T2:=hid (Zab X.out T1.out);have X2:=hid (Zab X.out X1.out);clear hgS hbS hsS X e1)
   |(with_reducible refine lDr T2.out jT.out hut ?_)
   |(with_reducible refine lDr X2.out jX.out hux ?_)
   |(with_reducible refine lDr D2.out jD.out hu ?_))
  refine(hMy.out _ R2.out H2.out).mono ?_
  rintro e w3 ⟨rfl,hB⟩
  have W3:=hid (W2.out.trans (hB.mono W2.out.size))
  have z3:=hid ((hB.block _ (block_lt z2.out)).trans z2.out)
  clear hB
  go_wp2_with (first
   |((with_reducible refine Zaf rfl 24 _ rfl zTrC [] ?_ ?_ ?_);exact hbt.out;rfl)
   |((with_reducible refine stW 6 21 (w.heap.size+1+1+1) 24 zTrC ?_ ?_ ?_ ?_ ?_);exact z3.out;exact Zah;rfl;exact ZeP;intro w9 hg9 hb9 hs9))
  exact Vy0 (Zk7 Tryz.results187 _ _ (w.heap.size+1+1+1) none 0 0 0 rfl hg9) rfl ⟨⟨[],0⟩,none,0,rfl,OwnR.nil _ _,W3.out.grown hb9 W3.out.size (fun g e=>by injection e with e;omega),hok.out⟩
 case pos=>
  obtain⟨hm,-,hn⟩:=Zel hz
  have hSt:=Zus hm hn hc
  have hmB:=hSt.may
  have hlB:=hSt.len
  have hUp:=hid (fun W (hW:Row (fun b=>b<w.heap.size) W A ns) sb (hS:∀j (h:j<[spUp (fromX x)].length),W.rangeAt sb (j * 33) (stC [spUp (fromX x)][j]))=>(show Calls Tryz.prog 221 #[.agg #[.slice A ns.length c,.int .i64 root],.slice (some ⟨sb,0,none⟩) 1 1] W fun e w'=>∃(A':Option Addr) (c':Nat),e=.returned (.tuple #[.agg #[.slice A' (bareT ⟨ns,root⟩ x).ns.length c',.int .i64 (bareT ⟨ns,root⟩ x).root],.int .i64 0])∧OwnR 106 w' W.heap.size A' c' (bareT ⟨ns,root⟩ x).ns∧Below W.heap.size W w' from
   ZiY (fun b=>b<w.heap.size) A c ns root [spUp (fromX x)] sb 1 W hW hm (by simp only[List.length_singleton];omega) (by simp) hS (fun s hs=>by
    simp only[Vy4]at hs
    subst hs
    exact⟨ZxJ W,YjQ,fun a ha h0=>Yjp ha h0⟩) _ _ (Zym hm hn)))
  have hWk:=hid (fun A5 c5 W (hW:Row (fun b=>b≠w.heap.size+1+1+1) W A5 (bareT ⟨ns,root⟩ x).ns) sb nb mb n1 n2 (l1:nb<W.heap.size) (l2:mb<W.heap.size) (l3:n1<W.heap.size) (l4:n2<W.heap.size) (h1:W.cell? ⟨nb,0,none⟩=some (.int .u64 (x.a:Int))) (h2:W.cell? ⟨mb,0,none⟩=some (.int .u64 (x.f:Int))) (h3:W.cell? ⟨n1,0,none⟩=some (.int .u64 (x.a:Int))) (h4:W.cell? ⟨n2,0,none⟩=some (.int .u64 (x.f:Int)))
   (hS:∀j (h:j<[spLess (fromX x) x.a x.f nb mb,spMore x.t x.a n1,spMore box x.f n2].length),W.rangeAt sb (j * 33) (stC [spLess (fromX x) x.a x.f nb mb,spMore x.t x.a n1,spMore box x.f n2][j]))=>(show Calls Tryz.prog 221 #[.agg #[.slice A5 (bareT ⟨ns,root⟩ x).ns.length c5,.int .i64 (bareT ⟨ns,root⟩ x).root],.slice (some ⟨sb,0,none⟩) 3 3] W fun e w'=>∃(R:Tr) (A':Option Addr) (c':Nat),e=.returned (.tuple #[.agg #[.slice A' R.ns.length c',.int .i64 R.root],.int .i64 (payTC ⟨ns,root⟩ x box)])∧OwnR 106 w' W.heap.size A' c' R.ns∧Below W.heap.size W w'∧PayOk ⟨ns,root⟩ x box R from by
   obtain⟨R,hR1,hR2⟩:=YdZ (box:=box) nb mb n1 n2 hz hc
   exact(ZiY _ A5 c5 (bareT ⟨ns,root⟩ x).ns (bareT ⟨ns,root⟩ x).root [spLess (fromX x) x.a x.f nb mb,spMore x.t x.a n1,spMore box x.f n2] sb 3 W hW hmB (by simp only[List.length_cons,List.length_nil];dsimp only at hlB;omega) (by simp) hS (fun s hs=>by
    simp only[List.mem_cons,List.not_mem_nil,or_false]at hs
    rcases hs with rfl|rfl|rfl
    ·exact⟨Zqy x.a x.f hx.2.1 hx.2.2 W nb mb l1 l2 h1 h2,YcZ,fun a ha h0=>Ydl ha h0⟩
    ·exact⟨ZhE x.a hx.2.1 W n1 l3 h3,Zpr,fun a ha h0=>ZpE ha h0⟩
    ·exact⟨ZhE x.f hx.2.2 W n2 l4 h4,Zpr,fun a ha h0=>ZpE ha h0⟩) R _ hR1).mono fun e w' h=>by
     obtain⟨A',c',k1,k2,k3⟩:=h
     exact⟨R,A',c',k1,k2,k3,hR2⟩))
  have hLe:=hid (fun W=>ZxI x.a x.f W)
  have hMa:=hid (fun W=>Zmo x.a W)
  have hMf:=hid (fun W=>Zmo x.f W)
  have bU:=hid (ZjH (spUp (fromX x)))
  have bL:=hid (fun nb mb=>ZjH (spLess (fromX x) x.a x.f nb mb))
  have bA:=hid (fun nb=>ZjH (spMore x.t x.a nb))
  have bF:=hid (fun nb=>ZjH (spMore box x.f nb))
  rw[hz]at hMy ⊢
  replace hMy:=hid hMy
  clear hz hm hn hSt hmB hlB hr hT
  generalize payTC ⟨ns,root⟩ x box=gc at *
  generalize bareT ⟨ns,root⟩ x=Tb at *
  have Y0:=hid (BoxX.of X0.out).t
  have U0:=hid (BoxX.of X0.out).a
  have V0:=hid (BoxX.of X0.out).f
  generalize txC x=cx at *
  go_enter Tryz.func187,Tryz.ntmps187
  go_wp2_with (first
   |(with_reducible refine Zac rfl 24 rfl zTrC Zas ?_)
   |(with_reducible refine lDr X0.out jX.out hux ?_))
  generalize (((w.alloc (.cells #[.slice A ns.length c,.int .i64 root] 24)).alloc (.cells cx.toArray 145)).alloc (.cells (box.1.map bv).toArray 37)).alloc (.cells zTrC 24)=w0 at *
  refine(hFr.out _ H0.out).mono ?_
  rintro e w1 ⟨rfl,hB⟩
  have W1:=hid (W0.out.trans (hB.mono W0.out.size))
  have H1:=hid (H0.out.bel hB (Vx4 hlow.out W0.out.size))
  have R1:=hid (R0.out.bel hB)
  have z1:=hid ((hB.block _ (block_lt z0.out)).trans z0.out)
  have T1:=hid (Zab hB T0.out)
  have X1:=hid (Zab hB X0.out)
  have B1:=hid (Zab hB B0.out)
  have Y1:=hid (Zab hB Y0.out)
  have U1:=hid ((hB.cell (Vx5 _ _ U0.out)).trans U0.out)
  have V1:=hid ((hB.cell (Vx5 _ _ V0.out)).trans V0.out)
  have e1:=hid (Vx0 w1 (.cells z32 37))
  clear hB hFr
  go_wp2_with (first
   |(with_reducible refine Zac rfl 37 rfl z32 Zam ?_)
   |((with_reducible refine stW 9 14 _ 37 z32 ?_ ?_ ?_ ?_ ?_);exact e1.out;exact aD.out;exact zD.out;exact nD.out;intro w2 hgS hbS hsS;have X:=hid (Zan rfl hbS);have D2:=hid (Zae (l:=(fromX x).1.map bv) hgS);have W2:=hid (W1.out.trans (X.out.mono W1.out.size));have H2:=hid (H1.out.bel X.out (Vx4 hlow.out W1.out.size));have R2:=hid (R1.out.bel X.out);have z2:=hid ((X.out.block _ (block_lt z1.out)).trans z1.out);have T2:=hid (Zab X.out T1.out);have X2:=hid (Zab X.out X1.out);have B2:=hid (Zab X.out B1.out);have Y2:=hid (Zab X.out Y1.out);have U2:=hid ((X.out.cell (Vx5 _ _ U1.out)).trans U1.out);have V2:=hid ((X.out.cell (Vx5 _ _ V1.out)).trans V1.out);clear hgS hbS hsS X e1)
   |(with_reducible refine lDr T2.out jT.out hut ?_)
   |(with_reducible refine lDr X2.out jX.out hux ?_)
   |(with_reducible refine lDr D2.out jD.out hu ?_))
  refine(hMy.out _ R2.out H2.out).mono ?_
  rintro e w3 ⟨rfl,hB⟩
  have W3:=hid (W2.out.trans (hB.mono W2.out.size))
  have R3:=hid (R2.out.bel hB)
  have z3:=hid ((hB.block _ (block_lt z2.out)).trans z2.out)
  have T3:=hid (Zab hB T2.out)
  have B3:=hid (Zab hB B2.out)
  have D3:=hid (Zab hB D2.out)
  have Y3:=hid (Zab hB Y2.out)
  have U3:=hid ((hB.cell (Vx5 _ _ U2.out)).trans U2.out)
  have V3:=hid ((hB.cell (Vx5 _ _ V2.out)).trans V2.out)
  clear hB hMy
  go_wp2_with (first
   |(with_reducible refine lDr T3.out jT.out hut ?_)
   |(with_reducible refine lDr D3.out jD.out hu ?_)
   |((with_reducible refine Zaf rfl 276 _ rfl (stC (spUp (fromX x))).toArray [(0,.agg ((fromX x).1.map bv).toArray),(1,.func (.func 227) #[] #[])] ?_ ?_ ?_);exact bU.out;rfl)
   |((with_reducible refine ZnZ rfl 1 _ rfl [spUp (fromX x)] ?_ ?_ ?_ ?_ ?_);rfl;decide;decide;rfl;intro g4 w4 eg4 rg4 hB4;have rs4:=hid rg4;have W4:=hid (W3.out.trans (hB4.mono W3.out.size));have R4:=hid (R3.out.bel hB4);have z4:=hid ((hB4.block _ (block_lt z3.out)).trans z3.out);have B4:=hid (Zab hB4 B3.out);have D4:=hid (Zab hB4 D3.out);have Y4:=hid (Zab hB4 Y3.out);have U4:=hid ((hB4.cell (Vx5 _ _ U3.out)).trans U3.out);have V4:=hid ((hB4.cell (Vx5 _ _ V3.out)).trans V3.out);clear rg4 eg4 hB4))
  refine(hUp.out _ R4.out g4 rs4.out).mono ?_
  rintro e w5 ⟨A5,c5,rfl,ho5,hB⟩
  have O5:=hid ((OwnR.row ho5).mono (G:=fun b=>b≠w.heap.size+1+1+1) (fun b hb _=>by have:=block_lt z4.out;omega))
  have W5:=hid (W4.out.trans (hB.mono W4.out.size))
  have z5:=hid ((hB.block _ (block_lt z4.out)).trans z4.out)
  have B5:=hid (Zab hB B4.out)
  have D5:=hid (Zab hB D4.out)
  have Y5:=hid (Zab hB Y4.out)
  have U5:=hid ((hB.cell (Vx5 _ _ U4.out)).trans U4.out)
  have V5:=hid ((hB.cell (Vx5 _ _ V4.out)).trans V4.out)
  have e5:=hid (Vx0 w5 (.cells zTrC 24))
  have jC:=hid (show (Tryz.prog.info? 24).map (·.size)=some ([Value.slice A5 Tb.ns.length c5,.int .i64 Tb.root]).length from Zah)
  clear hB ho5 hUp
  go_wp2_with (first
   |(with_reducible refine Zac rfl 24 rfl zTrC Zas ?_)
   |((with_reducible refine stW 11 29 _ 24 zTrC ?_ ?_ ?_ ?_ ?_);exact e5.out;exact Zah;rfl;exact Zat A5 Tb.ns.length c5 Tb.root;intro w6 hgS hbS hsS;have X6:=hid (Zan rfl hbS);have Q6:=hid (Zae (l:=[Value.slice A5 Tb.ns.length c5,.int .i64 Tb.root]) hgS);have lt6:=hid (block_lt hgS);have W6:=hid (W5.out.trans (X6.out.mono W5.out.size));have z6:=hid ((X6.out.block _ (block_lt z5.out)).trans z5.out);have B6:=hid (Zab X6.out B5.out);have D6:=hid (Zab X6.out D5.out);have Y6:=hid (Zab X6.out Y5.out);have U6:=hid ((X6.out.cell (Vx5 _ _ U5.out)).trans U5.out);have V6:=hid ((X6.out.cell (Vx5 _ _ V5.out)).trans V5.out);have O6:=hid (O5.out.bel X6.out);clear hgS hbS hsS X6 O5 e5))
  have m1:=hid (show w.heap.size+1+1+1<w1.heap.size from block_lt z1.out)
  have m5:=hid (show w.heap.size+1+1+1<w5.heap.size from block_lt z5.out)
  have m6:=hid (show w.heap.size+1+1+1<w6.heap.size from block_lt z6.out)
  refine wp_region_noPanic ?_
  refine wp_region_held_drew (S:=fun W=>Chg (fun b=>b=w.heap.size+1+1+1) w6 W) (by kernel_rfl) ?_ (fun hHeld=>?_)
  ·exact Chg.of_bel (Zao w6)
  refine' tkM 0 rfl (fun _ h=>Zak Q6.out (fun hb=>h.block _ hb (by have:=m5.out;omega))) hut jC.out ?_
  refine' tkM 1 rfl (fun _ h=>Zak D6.out (fun hb=>h.block _ hb (by have:=m1.out;omega))) hu jD.out ?_
  refine' tkP 2 rfl ?_
  refine' tkF 3 (fun W hSw=>(World.cell?_of_block (a:=⟨w.heap.size+1,65,none⟩) (hSw.block _ (Vx5 _ _ U6.out) (by show ¬w.heap.size+1=w.heap.size+1+1+1;omega))).trans U6.out) rfl ?_
  simp only[sQ]
  refine' tkP 4 rfl ?_
  refine' tkF 5 (fun W hSw=>(World.cell?_of_block (a:=⟨w.heap.size+1,66,none⟩) (hSw.block _ (Vx5 _ _ V6.out) (by show ¬w.heap.size+1=w.heap.size+1+1+1;omega))).trans V6.out) rfl ?_
  refine' tkP 8 rfl ?_
  refine' tkM 9 rfl (fun _ h=>Zak Y6.out (fun hb=>h.block _ hb (by omega))) hu jt.out ?_
  simp only[sQ]
  refine' tkP 10 rfl ?_
  refine' tkF 11 (fun W hSw=>(World.cell?_of_block (a:=⟨w.heap.size+1,65,none⟩) (hSw.block _ (Vx5 _ _ U6.out) (by show ¬w.heap.size+1=w.heap.size+1+1+1;omega))).trans U6.out) rfl ?_
  refine' tkM 14 rfl (fun _ h=>Zak B6.out (fun hb=>h.block _ hb (by omega))) hu jB.out ?_
  refine' tkP 15 rfl ?_
  simp only[sQ]
  refine' tkF 16 (fun W hSw=>(World.cell?_of_block (a:=⟨w.heap.size+1,66,none⟩) (hSw.block _ (Vx5 _ _ V6.out) (by show ¬w.heap.size+1=w.heap.size+1+1+1;omega))).trans V6.out) rfl ?_
  simp only[sQ]
  refine rdH 6 rfl fun K hK=>?_
  go_simp
  refine(hLe.out _).mono ?_
  rintro e v1 ⟨nb,mb,rfl,qa,qb,qc,qd,hB⟩
  have z7:=hid ((hB.block _ (block_lt (show w6.drew.heap[w.heap.size+1+1+1]? =_ from z6.out))).trans z6.out)
  have R7:=hid ((O6.out.bel (Zao w6)).bel hB)
  have a7:=hid qa
  have b7:=hid qb
  have c7:=hid qc
  have d7:=hid qd
  go_wp2_with fail
  refine hK.out _ _ (hHeld.trans (Chg.of_bel hB)) fun hHeld=>?_
  clear hK K
  try simp only[sQ]
  refine' tkH 7 rfl (Yb1 (by rfl) _ _ rfl _ _ (bL.out nb mb) rfl) ?_
  simp only[sQ]
  refine rdH 12 rfl fun K hK=>?_
  go_simp
  refine(hMa.out _).mono ?_
  rintro e v2 ⟨n1,rfl,qa,qc,hB⟩
  have z8:=hid ((hB.block _ (block_lt z7.out)).trans z7.out)
  have R8:=hid (R7.out.bel hB)
  have a8:=hid (Vx4 a7.out hB.size)
  have b8:=hid (Vx4 b7.out hB.size)
  have c8:=hid ((hB.cell (Vx5 _ _ c7.out)).trans c7.out)
  have d8:=hid ((hB.cell (Vx5 _ _ d7.out)).trans d7.out)
  have e8:=hid qa
  have f8:=hid qc
  go_wp2_with fail
  refine hK.out _ _ (hHeld.trans (Chg.of_bel hB)) fun hHeld=>?_
  clear hK K
  try simp only[sQ]
  refine' tkH 13 rfl (Yb1 (by rfl) _ _ rfl _ _ (bA.out n1) rfl) ?_
  simp only[sQ]
  refine rdH 17 rfl fun K hK=>?_
  go_simp
  refine(hMf.out _).mono ?_
  rintro e v3 ⟨n2,rfl,qa,qc,hB⟩
  have z9:=hid ((hB.block _ (block_lt z8.out)).trans z8.out)
  have R9:=hid (R8.out.bel hB)
  have a9:=hid (Vx4 a8.out hB.size)
  have b9:=hid (Vx4 b8.out hB.size)
  have c9:=hid ((hB.cell (Vx5 _ _ c8.out)).trans c8.out)
  have d9:=hid ((hB.cell (Vx5 _ _ d8.out)).trans d8.out)
  have e9:=hid (Vx4 e8.out hB.size)
  have f9:=hid ((hB.cell (Vx5 _ _ f8.out)).trans f8.out)
  have h9:=hid qa
  have i9:=hid qc
  go_wp2_with fail
  refine hK.out _ _ (hHeld.trans (Chg.of_bel hB)) fun hHeld=>?_
  clear hK K
  try simp only[sQ]
  refine' tkH 18 rfl (Yb1 (by rfl) _ _ rfl _ _ (bF.out n2) rfl) ?_
  simp only[sQ]
  refine rdH 19 rfl fun K hK=>?_
  refine ZlK rfl 3 _ rfl [spLess (fromX x) x.a x.f nb mb,spMore x.t x.a n1,spMore box x.f n2] rfl (by decide) (by decide) rfl ?_
  intro g10 v4 eg10 rg10 hB
  have z10:=hid ((hB.block _ (block_lt z9.out)).trans z9.out)
  have R10:=hid (R9.out.bel hB)
  have a10:=hid (Vx4 a9.out hB.size)
  have b10:=hid (Vx4 b9.out hB.size)
  have c10:=hid ((hB.cell (Vx5 _ _ c9.out)).trans c9.out)
  have d10:=hid ((hB.cell (Vx5 _ _ d9.out)).trans d9.out)
  have e10:=hid (Vx4 e9.out hB.size)
  have f10:=hid ((hB.cell (Vx5 _ _ f9.out)).trans f9.out)
  have h10:=hid (Vx4 h9.out hB.size)
  have i10:=hid ((hB.cell (Vx5 _ _ i9.out)).trans i9.out)
  skip
  refine hK.out _ _ (hHeld.trans (Chg.of_bel hB)) fun hHeld=>?_
  clear hK K
  try simp only[sQ]
  refine rdH 20 rfl fun K hK=>?_
  go_simp
  refine(hWk.out _ _ _ R10.out g10 nb mb n1 n2 a10.out b10.out e10.out h10.out c10.out d10.out f10.out i10.out rg10).mono ?_
  rintro e v5 ⟨R,A3,c3,rfl,ho,hB,hok⟩
  have z11:=hid ((hB.block _ (block_lt z10.out)).trans z10.out)
  have lt10:=hid (block_lt z10.out)
  replace ho:=hid ho
  replace hok:=hid hok
  go_wp2_with fail
  refine hK.out _ _ (hHeld.trans (Chg.of_bel hB)) fun hHeld=>?_
  clear hK K
  try simp only[sQ]
  refine' tkW 21 22 ?_
  refine' tkP 23 rfl ?_
  simp only[sQ]
  refine rdH 24 rfl fun K hK=>?_
  refine Zaj rfl 24 (.tmp 6) (.tmp 53) rfl (w.heap.size+1+1+1) _ rfl rfl 24 zTrC z11.out Zah rfl (Zat _ _ _ _) ?_
  intro w9 d9 hG9
  have z12:=hid d9
  refine hK.out _ _ (hHeld.trans ((Chg.of_grown hG9).mono (fun b _ e=>by injection e))) fun hHeld=>?_
  clear hK K
  try simp only[sQ]
  refine' tkP 25 rfl ?_
  simp only[sQ]
  refine dnN ?_
  have b9:=hid (W6.out.trans (hHeld.below W6.out.size (fun b hb=>by omega)))
  have y9:=hid (Zae (l:=[Value.slice A3 R.ns.length c3,.int .i64 R.root]) z12.out)
  have jR:=hid (show (Tryz.prog.info? 24).map (·.size)=some ([Value.slice A3 R.ns.length c3,.int .i64 R.root]).length from Zah)
  have ho9:=hid (OwnQ.keptAtP ho.out hG9 lt10.out lt10.out)
  clear hHeld hG9 d9 ho
  go_wp2_with (first
   |(with_reducible refine lDr y9.out jR.out hut ?_)
   |((with_reducible refine wpList_store_row rfl 24 (.tmp 6) (.tmp 55) rfl (w.heap.size+1+1+1) _ rfl rfl 24 #[Value.slice A3 R.ns.length c3,.int .i64 R.root] ?_ ?_ ?_ ?_ ?_);exact z12.out;exact Zah;rfl;exact Zat _ _ _ _;intro w7 hg7 hb7 hs7))
  exact Vy0 (Zk7 Tryz.results187 _ _ (w.heap.size+1+1+1) A3 R.ns.length c3 R.root rfl hg7) rfl ⟨R,A3,c3,rfl,OwnR.base (OwnQ.keptAtP ho9.out hb7 lt10.out lt10.out) (by have:=lt10.out;omega),b9.out.grown hb7 b9.out.size (fun k e=>by injection e with e;omega),hok.out⟩
end Go.Proofs.YtnnclggeifnomaaGreatDoor
