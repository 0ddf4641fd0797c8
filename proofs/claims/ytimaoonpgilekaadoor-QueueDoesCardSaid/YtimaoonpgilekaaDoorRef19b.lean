import Derived.Test.YtimaoonpgilekaaDoorRef19a
import Derived.Test.YtimaoonpgilekaaDoorRef11a
import Derived.Test.YtimaoonpgilekaaDoorQuE
set_option linter.all false
set_option maxHeartbeats 8000000
namespace Go.Proofs.YtimaoonpgilekaaDoor
open Go.RowKit
set_option maxRecDepth 100000
theorem ROwn_any(d:Dg)(x:Tx)(hx:x.ok)(w:World):Calls Tryd.prog 38 #[.agg (txC x).toArray,.agg (d.1.map bv).toArray] w fun e w'=>e=.returned (.bool (ownX x d))∧Below w.heap.size w w':=by
 have hu:=Tryd.underlying23
 have hux:=Tryd.underlying33
 obtain⟨b1,hb1⟩:∃b,decide (x.s=signD x)=b:=⟨_,rfl⟩
 obtain⟨b2,hb2⟩:∃b,decide (fromX x=d)=b:=⟨_,rfl⟩
 have hs:(x=signX x)↔(x.s=signD x):=⟨fun h=>congrArg Tx.s h,fun h=>Yjo rfl rfl rfl rfl rfl h⟩
 have hv:ownX x d=(b1&&b2):=by unfold ownX;rw[← hb1,←hb2];congr 1;exact decide_eq_decide.2 hs
 rw[hv]
 have X0:=Zae (Vx0 w (.cells (txC x).toArray 33))
 have e2:=Zad (w.alloc (.cells (txC x).toArray 33)) (.cells (d.1.map bv).toArray 23)
 have D0:=ZeJ (w.alloc (.cells (txC x).toArray 33)) d 23
 rw[Vx2]at D0
 replace X0:=hid (Zab e2 X0)
 replace D0:=hid D0
 have W0:=hid (Zag (Zad w (.cells (txC x).toArray 33)) e2)
 have jx:=hid (Zby x)
 have jd:=hid (ZaF d)
 have hC:=hid (fun W=>Zgj x hx b1 hb1 W)
 have hF:=hid (fun W=>Zi4 x W)
 have hD:(keyD x.p).1.map bv=(fromX x).1.map bv:=rfl
 rw[hD]at hF
 have hE:∀W,(Op.equalIn 10000 23 (.agg ((fromX x).1.map bv).toArray) (.agg (d.1.map bv).toArray)).run Tryd.prog W=.ok b2 W:=fun W=>ZaL (fromX x) d b2 hb2 W
 clear hx hb1 hb2 e2 hv hs hD
 generalize txC x=cx at *
 generalize (fromX x).1.map bv=cf at *
 generalize d.1.map bv=cd at *
 go_enter Tryd.func38,Tryd.ntmps38
 go_wp2
 generalize (w.alloc (.cells cx.toArray 33)).alloc (.cells cd.toArray 23)=w1 at *
 cases b1
 ·refine rgB fun hHeld=>?_
  refine' tkM 0 rfl (fun _ h=>Zab h X0.out) hux jx.out ?_
  simp only[sQ]
  refine rdC 1 rfl (hC.out _) fun v1 hB hHeld=>?_
  try simp only[sQ]
  refine' tkW 2 3 ?_
  refine' tkW 4 5 ?_
  simp only[sQ]
  refine' tkW 6 7 ?_
  refine' tkW 8 9 ?_
  simp only[sQ]
  refine dnN ?_
  go_wp2
  go_ret
  exact⟨rfl,W0.out.trans (hHeld.mono W0.out.size)⟩
 ·refine rgB fun hHeld=>?_
  refine' tkM 0 rfl (fun _ h=>Zab h X0.out) hux jx.out ?_
  simp only[sQ]
  refine rdC 1 rfl (hC.out _) fun v1 hB hHeld=>?_
  try simp only[sQ]
  refine' tkW 2 3 ?_
  refine' tkM 4 rfl (fun _ h=>Zab h X0.out) hux jx.out ?_
  refine' tkM 6 rfl (fun _ h=>Zab h D0.out) hu jd.out ?_
  simp only[sQ]
  refine rdC 5 rfl (hF.out _) fun v2 hB hHeld=>?_
  try simp only[sQ]
  refine' tkW 7 8 ?_
  refine' tkP 9 rfl ?_
  simp only[sQ]
  refine dnN ?_
  go_wp2
  go_ret
  exact⟨rfl,W0.out.trans (hHeld.mono W0.out.size)⟩
theorem row_numR{F:Nat→Prop}{w:World}{D:Option Addr}{xs:List Tx}(h:Row F w D xs){j:Nat}(hj:j<xs.length):∃b o,D=some ⟨b,o,none⟩∧w.rangeAt b (o+j * 99) (txC xs[j])∧w.cell? ⟨b,o+j * 99+64,none⟩=some (.int .u64 (xs[j].n:Int))∧xs[j].ok:=by
 obtain⟨b,o,h1,h2,h3⟩:=Yoa h hj
 refine⟨b,o,h1,h2,h2 64 _ ?_,h3⟩
 have e:txC xs[j]=(xs[j].p.1.map bv++xs[j].t.1.map bv)++(.int .u64 (xs[j].n:Int)::([.int .u64 (xs[j].a:Int),.int .u64 (xs[j].f:Int)]++xs[j].s.1.map bv)):=by simp[txC,txS]
 rw[e,List.getElem?_append_right (by simp[xs[j].p.2,xs[j].t.2])]
 simp[xs[j].p.2,xs[j].t.2]
theorem may_long{d:Dg}{xs:List Tx}(h:256<xs.length):mayL ⟨d,xs⟩=false:=by
 cases hm:mayL ⟨d,xs⟩
 ·rfl
 ·have h3:xs.length≤256:=(Yn2 hm).1
  omega
theorem may_not{d:Dg}{xs:List Tx}(h:soB xs=false):mayL ⟨d,xs⟩=false:=by
 cases hm:mayL ⟨d,xs⟩
 ·rfl
 ·have h3:soB xs=true:=(Yn2 hm).2.1
  rw[h]at h3;cases h3
theorem may_own{d:Dg}{xs:List Tx}{j:Nat}(hj:j<xs.length)(h:ownX xs[j] d=false):mayL ⟨d,xs⟩=false:=by
 cases hm:mayL ⟨d,xs⟩
 ·rfl
 ·have h3:ownX xs[j] d=true:=(Yn2 hm).2.2 _ (List.getElem_mem hj)
  rw[h]at h3;cases h3
theorem may_yes{d:Dg}{xs:List Tx}(h1:¬256<xs.length)(h2:soB xs=true)(h3:(xs.all fun x=>ownX x d)=true):mayL ⟨d,xs⟩=true:=
 Yoq (by show xs.length≤256;omega) h2 (List.all_eq_true.1 h3)
theorem RMayLn_any(F:Nat→Prop)(d:Dg)(A:Option Addr)(c:Nat)(xs:List Tx)(w:World)(hr:Row F w A xs)(hc:xs.length≤1000000):
  Calls Tryd.prog 37 #[.agg (lnC d A xs.length c).toArray] w fun e w'=>e=.returned (.bool (mayL ⟨d,xs⟩))∧Below w.heap.size w w':=by
 obtain⟨ck,hck⟩:∃k,mayL ⟨d,xs⟩=k:=⟨_,rfl⟩
 have K1:=hid (fun h=>hck.symm.trans (may_long (d:=d) (xs:=xs) h))
 have K2:=hid (fun h=>hck.symm.trans (may_not (d:=d) (xs:=xs) h))
 have K3:=hid (fun j (hj:j<xs.length) h=>hck.symm.trans (may_own (d:=d) hj h))
 have K4:=hid (fun h1 h2 h3=>hck.symm.trans (may_yes (d:=d) (xs:=xs) h1 h2 h3))
 rw[hck]
 have hu:=Tryd.underlying23
 have hux:=Tryd.underlying33
 have B:=BoxL.new w d A xs.length c 26
 have W0:=hid (Zad w (.cells (lnC d A xs.length c).toArray 26))
 have R0:=hid (hr.bel W0.out)
 have hD:=hid B.d
 have c0:=B.x
 have jd:=hid (ZaF d)
 have hown:=hid (fun (x:Tx) (hx:x.ok) W=>ROwn_any d x hx W)
 clear hck hr B
 obtain⟨own,ho⟩:∃f:Tx→Bool,(fun x=>ownX x d)=f:=⟨_,rfl⟩
 have ho2:∀x,ownX x d=own x:=fun x=>congrFun ho x
 have htk:=hid (fun (j:Nat) (hj:j<xs.length)=>Yp8 (xs:=xs) (d:=d) hj)
 simp only[ho2]at K3 K4 hown htk
 clear ho ho2
 generalize lnC d A xs.length c=cl at *
 generalize d.1.map bv=cd at *
 go_enter Tryd.func37,Tryd.ntmps37
 by_cases hlong:256<xs.length
 ·have e1:=hid (K1.out hlong)
  have hw:(256:Int)<(xs.length:Int):=by omega
  go_wp2
  go_ret
  exact⟨Yoo e1.out.symm,W0.out⟩
 ·have hw:¬(256:Int)<(xs.length:Int):=by omega
  replace K4:=hid (K4.out hlong)
  have hln:xs.length≤256:=by omega
  clear K1 hlong
  go_wp2
  generalize w.alloc (.cells cl.toArray 26)=w0 at *
  go_loopw [3] (fun i wr=>∃j:Nat,j≤xs.length∧i=.int .i64 j∧(xs.take j).all own=true∧soB (xs.take j)=true∧Below w0.heap.size w0 wr) (fun i _=>xs.length-(intOf i).toNat)
  case atStart=>exact⟨0,Nat.zero_le _,rfl,rfl,rfl,Below.refl _ _⟩
  case round=>
   obtain⟨j,hj,rfl,hrel,hso,hb⟩:=hrel
   have c1:=(hb.cell (Vx5 _ _ c0)).trans c0
   by_cases hlt:j<xs.length
   ·have hlt2:(j:Int)<(xs.length:Int):=by omega
    obtain⟨b,o,hA,r1,cn,m1⟩:=row_numR R0.out hlt
    have hO:=hid (fun W=>hown.out xs[j] m1 W)
    have K3j:=hid (fun h=>K3.out j hlt h)
    have hyes:=hid (fun h=>htk.out j hlt hrel h)
    have q1:=hid (Zab hb r1)
    have cn1:=(hb.cell (Vx5 _ _ cn)).trans cn
    have j1:=hid (Zby xs[j])
    have D1:=hid (Zab hb hD.out)
    replace hrel:=hid hrel
    obtain⟨q,hq⟩:∃q,own xs[j]=q:=⟨_,rfl⟩
    rw[hq]at K3j hyes hO
    cases q
    ·have e1:=hid (K3j.out rfl)
     subst hA
     clear hq m1 r1 cn
     generalize txC xs[j]=d1 at *
     go_wp2
     refine rgB fun hHeld=>?_
     refine' tkP 0 rfl ?_
     refine' tkC 1 rfl c1 ?_
     refine' tkW 2 3 ?_
     simp only[sQ]
     refine' tkM 4 rfl (fun _ h=>Zab h q1.out) hux j1.out ?_
     refine' tkP 5 rfl ?_
     refine' tkM 6 rfl (fun _ h=>Zab h D1.out) hu jd.out ?_
     simp only[sQ]
     refine rdC 7 rfl (hO.out _) fun v7 hB hHeld=>?_
     try simp only[sQ]
     refine' tkW 8 9 ?_
     refine' tkW 10 11 ?_
     simp only[sQ]
     refine' tkW 12 13 ?_
     refine' tkW 14 15 ?_
     simp only[sQ]
     refine' tkW 16 17 ?_
     refine' tkW 18 19 ?_
     simp only[sQ]
     refine' tkW 20 21 ?_
     refine' tkW 22 23 ?_
     simp only[sQ]
     refine' tkW 24 25 ?_
     refine' tkW 26 27 ?_
     simp only[sQ]
     refine' tkP 28 rfl ?_
     simp only[sQ]
     refine dnN ?_
     go_wp2
     go_ret
     exact⟨Yoo e1.out.symm,W0.out.trans ((hb.trans (hHeld.mono hb.size)).mono W0.out.size)⟩
    ·replace hyes:=hid (hyes.out rfl)
     rcases j with _|k
     ·have hs1:=hid (show soB (xs.take (0+1))=true from Yo5 (by rw[List.length_take];omega))
      have hz:¬(((0:Nat):Int)>0):=by decide
      subst hA
      clear hq m1 r1 cn
      generalize txC xs[0]=d1 at *
      go_wp2
      refine rgB fun hHeld=>?_
      refine' tkP 0 rfl ?_
      refine' tkC 1 rfl c1 ?_
      refine' tkW 2 3 ?_
      simp only[sQ]
      refine' tkM 4 rfl (fun _ h=>Zab h q1.out) hux j1.out ?_
      refine' tkP 5 rfl ?_
      refine' tkM 6 rfl (fun _ h=>Zab h D1.out) hu jd.out ?_
      simp only[sQ]
      refine rdC 7 rfl (hO.out _) fun v7 hB hHeld=>?_
      try simp only[sQ]
      refine' tkW 8 9 ?_
      refine' tkW 10 11 ?_
      simp only[sQ]
      refine' tkW 12 13 ?_
      refine' tkW 14 15 ?_
      simp only[sQ]
      refine' tkW 16 17 ?_
      refine' tkW 18 19 ?_
      simp only[sQ]
      refine' tkW 20 21 ?_
      refine' tkW 22 23 ?_
      simp only[sQ]
      refine' tkW 24 25 ?_
      refine' tkW 26 27 ?_
      simp only[sQ]
      refine' tkP 28 rfl ?_
      simp only[sQ]
      refine dnN ?_
      go_wp2
      go_roundw
      case rel=>exact⟨0+1,by omega,by go_num,hyes.out,hs1.out,hb.trans (hHeld.mono hb.size)⟩
      case measure=>simp[intOf];omega
     ·obtain⟨b',o',hA',-,cm,-⟩:=row_numR R0.out (show k<xs.length by omega)
      subst hA
      obtain⟨rfl,rfl⟩:b=b'∧o=o':=by injection hA' with h;injection h with h1 h2;exact⟨h1,h2⟩
      have cm1:=(hb.cell (Vx5 _ _ cm)).trans cm
      have hT2:=YoV hlt
      rw[hso,Bool.true_and]at hT2
      have hno:=hid (fun h:decide (xs[k].n<xs[k+1].n)=false=>Yo6 (hT2.trans h))
      replace hno:=hid (fun h=>K2.out (hno.out h))
      replace hT2:=hid hT2
      replace hso:=hid hso
      have hw1:IntKind.i64.wrap ((k:Int)+1-1)=(k:Int):=by rw[IntKind.wrap_i64];omega
      have hw2:IntKind.i64.wrap (k:Int)=(k:Int):=by rw[IntKind.wrap_i64];omega
      have hw3:((k:Int)+1).toNat=k+1:=by omega
      have hw4:(0:Int)≤(k:Int)+1:=by omega
      have hw5:(k:Int)+1<(xs.length:Int):=by omega
      have hw6:(k:Int)<(xs.length:Int):=by omega
      have hw7:(0:Int)<(k:Int)+1:=by omega
      clear hq m1 r1 cn cm hA' hlt2
      generalize txC xs[k+1]=d1 at *
      by_cases hle:xs[k].n<xs[k+1].n
      ·rw[Vy2 hle]at hT2
       have hg:¬(xs[k+1].n:Int)≤(xs[k].n:Int):=by omega
       clear hno hle
       generalize xs[k].n=n1 at *
       generalize xs[k+1].n=n2 at *
       go_wp2
       refine rgB fun hHeld=>?_
       refine' tkP 0 rfl ?_
       refine' tkC 1 rfl c1 ?_
       refine' tkW 2 3 ?_
       simp only[sQ]
       refine' tkM 4 rfl (fun _ h=>Zab h q1.out) hux j1.out ?_
       refine' tkP 5 rfl ?_
       refine' tkM 6 rfl (fun _ h=>Zab h D1.out) hu jd.out ?_
       simp only[sQ]
       refine rdC 7 rfl (hO.out _) fun v7 hB hHeld=>?_
       try simp only[sQ]
       refine' tkW 8 9 ?_
       refine' tkW 10 11 ?_
       simp only[sQ]
       refine' tkW 12 13 ?_
       refine' tkC 14 rfl c1 ?_
       refine' tkP 15 rfl ?_
       simp only[sQ]
       refine' tkW 16 17 ?_
       refine' tkC 18 rfl cn1 ?_
       refine' tkP 19 rfl ?_
       simp only[sQ]
       refine' tkC 20 rfl c1 ?_
       refine' tkW 21 22 ?_
       refine' tkP 23 rfl ?_
       simp only[sQ]
       refine' tkP 24 rfl ?_
       refine' tkC 25 rfl cm1 ?_
       refine' tkW 26 27 ?_
       simp only[sQ]
       refine' tkP 28 rfl ?_
       simp only[sQ]
       refine dnN ?_
       go_wp2
       go_roundw
       case rel=>exact⟨k+1+1,by omega,by go_num,hyes.out,hT2.out,hb.trans (hHeld.mono hb.size)⟩
       case measure=>simp[intOf];omega
      ·have e1:=hid (hno.out (Vy1 hle))
       have hg:(xs[k+1].n:Int)≤(xs[k].n:Int):=by omega
       clear hno hle hT2
       generalize xs[k].n=n1 at *
       generalize xs[k+1].n=n2 at *
       go_wp2
       refine rgB fun hHeld=>?_
       refine' tkP 0 rfl ?_
       refine' tkC 1 rfl c1 ?_
       refine' tkW 2 3 ?_
       simp only[sQ]
       refine' tkM 4 rfl (fun _ h=>Zab h q1.out) hux j1.out ?_
       refine' tkP 5 rfl ?_
       refine' tkM 6 rfl (fun _ h=>Zab h D1.out) hu jd.out ?_
       simp only[sQ]
       refine rdC 7 rfl (hO.out _) fun v7 hB hHeld=>?_
       try simp only[sQ]
       refine' tkW 8 9 ?_
       refine' tkW 10 11 ?_
       simp only[sQ]
       refine' tkW 12 13 ?_
       refine' tkC 14 rfl c1 ?_
       refine' tkP 15 rfl ?_
       simp only[sQ]
       refine' tkW 16 17 ?_
       refine' tkC 18 rfl cn1 ?_
       refine' tkP 19 rfl ?_
       simp only[sQ]
       refine' tkC 20 rfl c1 ?_
       refine' tkW 21 22 ?_
       refine' tkP 23 rfl ?_
       simp only[sQ]
       refine' tkP 24 rfl ?_
       refine' tkC 25 rfl cm1 ?_
       refine' tkW 26 27 ?_
       simp only[sQ]
       refine' tkP 28 rfl ?_
       simp only[sQ]
       refine dnN ?_
       go_wp2
       go_ret
       exact⟨Yoo e1.out.symm,W0.out.trans ((hb.trans (hHeld.mono hb.size)).mono W0.out.size)⟩
   ·obtain rfl:j=xs.length:=by omega
    rw[List.take_length]at hrel hso
    have e1:=hid (K4.out hso hrel)
    replace hrel:=trivial
    go_wp2
    go_ret
    exact⟨Yoo e1.out.symm,W0.out.trans (hb.mono W0.out.size)⟩
theorem RCheckLn_any(F:Nat→Prop)(d:Dg)(A:Option Addr)(c:Nat)(xs:List Tx)(w:World)(hr:Row F w A xs)(hc:xs.length≤1000000):
  Calls Tryd.prog 21 #[.agg (lnC d A xs.length c).toArray] w fun e w'=>e=.returned (.int .i64 (checkL ⟨d,xs⟩))∧Below w.heap.size w w':=by
 obtain⟨m,hm⟩:∃m,mayL ⟨d,xs⟩=m:=⟨_,rfl⟩
 have hck:checkL ⟨d,xs⟩=if m=true then 0 else 8:=by unfold checkL;rw[hm]
 rw[hck]
 have hul:=Tryd.underlying26
 have W0:=hid (Zad w (.cells (lnC d A xs.length c).toArray 26))
 have R0:=hid (hr.bel W0.out)
 have L0:=hid (Zae (Vx0 w (.cells (lnC d A xs.length c).toArray 26)))
 have hM:=hid (fun W (h:Row F W A xs)=>hm▸RMayLn_any F d A c xs W h hc)
 have jl:=hid (YoL d A xs.length c)
 clear hm hck hr
 generalize lnC d A xs.length c=cl at *
 go_enter Tryd.func21,Tryd.ntmps21
 go_wp2_with ((with_reducible refine lDr L0.out jl.out hul ?_))
 refine(hM.out _ R0.out).mono ?_
 rintro e w1 ⟨rfl,hB⟩
 cases m<;>(go_wp2;go_ret;exact⟨rfl,W0.out.trans (hB.mono W0.out.size)⟩)
theorem RSameLn_any(F G:Nat→Prop)(d d':Dg)(A A':Option Addr)(c c':Nat)(xs ys:List Tx)(w:World)(hr:Row F w A xs)(hs:Row G w A' ys)(hc:xs.length≤1000000)(hd:ys.length≤1000000):
  Calls Tryd.prog 20 #[.agg (lnC d A xs.length c).toArray,.agg (lnC d' A' ys.length c').toArray] w fun e w'=>e=.returned (.bool (sameL ⟨d,xs⟩ ⟨d',ys⟩))∧Below w.heap.size w w':=by
 obtain⟨b1,hb1⟩:∃b,decide (d=d')=b:=⟨_,rfl⟩
 obtain⟨b2,hb2⟩:∃b,decide (xs=ys)=b:=⟨_,rfl⟩
 have hv:sameL ⟨d,xs⟩ ⟨d',ys⟩=(b1&&b2):=by unfold sameL;rw[← hb1,←hb2]
 rw[hv]
 have hu:=Tryd.underlying23
 have B0:=BoxL.new w d A xs.length c 26
 have e2:=Zad (w.alloc (.cells (lnC d A xs.length c).toArray 26)) (.cells (lnC d' A' ys.length c').toArray 26)
 have B1:=BoxL.new (w.alloc (.cells (lnC d A xs.length c).toArray 26)) d' A' ys.length c' 26
 rw[Vx2]at B1
 replace B0:=B0.bel e2
 have W0:=hid (Zag (Zad w (.cells (lnC d A xs.length c).toArray 26)) e2)
 have D0:=hid B0.d
 have D1:=hid B1.d
 have c0:=B0.x
 have c1:=B1.x
 have R0:=hid (hr.bel W0.out)
 have S0:=hid (hs.bel W0.out)
 have jd:=hid (ZaF d)
 have jd2:=hid (ZaF d')
 have hEq:=hid (fun W (h:Row F W A xs) (k:Row G W A' ys)=>You F G A A' c c' xs ys W h k (by omega) (by omega))
 have hE:∀W,(Op.equalIn 10000 23 (.agg (d.1.map bv).toArray) (.agg (d'.1.map bv).toArray)).run Tryd.prog W=.ok b1 W:=fun W=>ZaL d d' b1 hb1 W
 rw[hb2]at hEq
 clear hb1 hb2 hv B0 B1 e2 hr hs
 generalize lnC d A xs.length c=cl at *
 generalize lnC d' A' ys.length c'=cm at *
 generalize d.1.map bv=cd at *
 generalize d'.1.map bv=ce at *
 cases b1
 ·go_enter Tryd.func20,Tryd.ntmps20
  go_wp2_with (first
   |(with_reducible refine lDr D0.out jd.out hu ?_)
   |(with_reducible refine lDr D1.out jd2.out hu ?_))
  go_ret
  exact⟨rfl,W0.out⟩
 ·go_enter Tryd.func20,Tryd.ntmps20
  go_wp2_with (first
   |(with_reducible refine lDr D0.out jd.out hu ?_)
   |(with_reducible refine lDr D1.out jd2.out hu ?_))
  refine(hEq.out _ R0.out S0.out).mono ?_
  rintro e w1 ⟨rfl,hB⟩
  go_wp2
  go_ret
  exact⟨rfl,W0.out.trans (hB.mono W0.out.size)⟩
end Go.Proofs.YtimaoonpgilekaaDoor
