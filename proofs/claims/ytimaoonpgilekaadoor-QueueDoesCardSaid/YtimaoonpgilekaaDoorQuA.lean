import Derived.Test.YtimaoonpgilekaaDoorLn
import Derived.Test.YtimaoonpgilekaaDoorTxM
set_option linter.all false
set_option maxHeartbeats 4000000
namespace Go.Proofs.YtimaoonpgilekaaDoor
open Go.RowKit
set_option maxRecDepth 100000
def numV:Value:=.func (.func 44) #[] #[]
def soC(A:Option Addr)(n c:Nat):List Value:=[.slice A n c,numV]
def zSoC:Array Value:=#[.slice none 0 0,.nilFunc]
theorem YqE:(Tryd.prog.info? 61).map (fun i=>(i.zero,i.size))=some (some (.agg zSoC),zSoC.size):=by kernel_rfl
theorem Yqp(A:Option Addr)(n c:Nat):(Tryd.prog.info? 61).map (·.size)=some (soC A n c).length:=by
 show _=some 2
 kernel_rfl
theorem YqG(A:Option Addr)(n c:Nat):(soC A n c).toArray.all (·.oneCell')=true:=all_oneCell_toArray fun v hv=>by
 simp only[soC,List.mem_cons,List.not_mem_nil,or_false]at hv
 rcases hv with rfl|rfl<;>rfl
theorem Yqb(A:Option Addr)(n c:Nat):Tryd.prog.built 61 [(0,.slice A n c),(1,numV)]=some (soC A n c).toArray:=by kernel_rfl
theorem Ypj(x:Tx)(w:World):Calls Tryd.prog 44 #[.agg (txC x).toArray] w fun e w'=>e=.returned (.int .u64 (x.n:Int))∧Below w.heap.size w w':=by
 have B:=(BoxX.new w x 33).n
 have W0:=hid (Zad w (.cells (txC x).toArray 33))
 generalize txC x=cx at *
 generalize x.n=n at *
 go_enter Tryd.func44,Tryd.ntmps44
 go_wp2
 go_ret
 exact⟨rfl,W0.out⟩
theorem Ypm(d:Dg)(A:Option Addr)(n c:Nat)(w:World):Calls Tryd.prog 28 #[.agg (lnC d A n c).toArray] w fun e w'=>e=.returned (.agg (soC A n c).toArray)∧Below w.heap.size w w':=by
 have B0:=((BoxL.new w d A n c 26).bel (Zad _ (.cells zSoC 61))).x
 have z1:=Vx0 (w.alloc (.cells (lnC d A n c).toArray 26)) (.cells zSoC 61)
 rw[Vx2]at z1
 have W0:=hid (Zag (Zad w (.cells (lnC d A n c).toArray 26)) (Zad (w.alloc (.cells (lnC d A n c).toArray 26)) (.cells zSoC 61)))
 replace z1:=hid z1
 have hb:=hid (Yqb A n c)
 have hs:=hid (Yqp A n c)
 have ho:=hid (YqG A n c)
 have hus:=Tryd.underlying61
 generalize lnC d A n c=cl at *
 go_enter Tryd.func28,Tryd.ntmps28
 go_wp2_with (first
  |(with_reducible refine Zac rfl 61 rfl zSoC YqE ?_)
  |((with_reducible refine Zaf rfl 61 _ rfl (soC A n c).toArray [(0,.slice A n c),(1,numV)] ?_ ?_ ?_);exact hb.out;rfl)
  |((with_reducible refine wpList_store_row rfl 61 (.tmp 2) (.tmp 5) rfl (w.heap.size+1) (soC A n c).toArray rfl rfl 61 zSoC ?_ ?_ ?_ ?_ ?_);exact z1.out;exact hs.out;rfl;exact ho.out;intro w6 hg6 hb6 hs6))
 refine Vy0 (v:=.agg (soC A n c).toArray) ?_ rfl ⟨rfl,?_⟩
 ·exact results_cell_row Tryd.results28 _ _ (w.heap.size+1) 61 _ (0,0) _ rfl hg6 hus rfl hs.out
 ·exact W0.out.grown hb6 W0.out.size (fun g e=>by injection e with e;omega)
theorem YpG(d:Dg)(x:Tx)(hx:x.ok)(w:World)(hT:Tab w):Calls Tryd.prog 27 #[.agg (d.1.map bv).toArray,.agg (txC x).toArray] w fun e w'=>e=.returned (.bool (ownX x d))∧Below w.heap.size w w':=by
 have hu:=Tryd.underlying23
 have hux:=Tryd.underlying33
 obtain⟨b1,hb1⟩:∃b,decide (x=signX x)=b:=⟨_,rfl⟩
 obtain⟨b2,hb2⟩:∃b,decide (fromX x=d)=b:=⟨_,rfl⟩
 have hv:ownX x d=(b1&&b2):=by unfold ownX;rw[hb1,hb2]
 rw[hv]
 have D0:=ZeJ w d 23
 have e2:=Zad (w.alloc (.cells (d.1.map bv).toArray 23)) (.cells (txC x).toArray 33)
 have X0:=Zae (Vx0 (w.alloc (.cells (d.1.map bv).toArray 23)) (.cells (txC x).toArray 33))
 rw[Vx2]at X0
 replace D0:=hid (Zab e2 D0)
 replace X0:=hid X0
 have W0:=hid (Zag (Zad w (.cells (d.1.map bv).toArray 23)) e2)
 have T0:=hid (hT.bel W0.out hT.low)
 have hlow:=hid (T0.out.low)
 have jx:=hid (Zby x)
 have jd:=hid (ZaF d)
 have hC:=hid (fun W hW=>Zds x hx b1 hb1 W hW)
 have hF:=hid (fun W hW=>Zg2 x hx W hW)
 have hE:∀W,(Op.equalIn 10000 23 (.agg ((fromX x).1.map bv).toArray) (.agg (d.1.map bv).toArray)).run Tryd.prog W=.ok b2 W:=fun W=>ZaL (fromX x) d b2 hb2 W
 clear hx hb1 hb2 hT e2 hv
 generalize txC x=cx at *
 generalize (fromX x).1.map bv=cf at *
 generalize d.1.map bv=cd at *
 go_enter Tryd.func27,Tryd.ntmps27
 go_wp2
 generalize (w.alloc (.cells cd.toArray 23)).alloc (.cells cx.toArray 33)=w1 at *
 cases b1
 ·refine rgB fun hHeld=>?_
  refine' tkM 0 rfl (fun _ h=>Zab h X0.out) hux jx.out ?_
  simp only[sQ]
  refine rdC 1 rfl (hC.out _ (T0.out.bel hHeld hlow.out)) fun v1 hB hHeld=>?_
  try simp only[sQ]
  refine' tkW 2 3 ?_
  refine' tkW 4 5 ?_
  simp only[sQ]
  refine' tkW 6 7 ?_
  refine' tkW 8 9 ?_
  simp only[sQ]
  refine dnN ?_
  go_wp2
  go_ret
  exact⟨rfl,W0.out.trans (hHeld.mono W0.out.size)⟩
 ·refine rgB fun hHeld=>?_
  refine' tkM 0 rfl (fun _ h=>Zab h X0.out) hux jx.out ?_
  simp only[sQ]
  refine rdC 1 rfl (hC.out _ (T0.out.bel hHeld hlow.out)) fun v1 hB hHeld=>?_
  try simp only[sQ]
  refine' tkW 2 3 ?_
  refine' tkM 4 rfl (fun _ h=>Zab h X0.out) hux jx.out ?_
  refine' tkM 6 rfl (fun _ h=>Zab h D0.out) hu jd.out ?_
  simp only[sQ]
  refine rdC 5 rfl (hF.out _ (T0.out.bel hHeld hlow.out)) fun v2 hB hHeld=>?_
  try simp only[sQ]
  refine' tkW 7 8 ?_
  refine' tkP 9 rfl ?_
  simp only[sQ]
  refine dnN ?_
  go_wp2
  go_ret
  exact⟨rfl,W0.out.trans (hHeld.mono W0.out.size)⟩
theorem YpV(F:Nat→Prop)(A:Option Addr)(c:Nat)(xs:List Tx)(w:World)(hr:Row F w A xs)(hc:xs.length≤1000000):
  Calls Tryd.prog 36 #[.agg (soC A xs.length c).toArray] w fun e w'=>e=.returned (.bool (soB xs))∧Below w.heap.size w w':=by
 obtain⟨ans,hans⟩:∃a,soB xs=a:=⟨_,rfl⟩
 rw[hans]
 replace hans:=hid hans
 have hux:=Tryd.underlying33
 have C:=Zae (Vx0 w (.cells (soC A xs.length c).toArray 61))
 have W0:=hid (Zad w (.cells (soC A xs.length c).toArray 61))
 replace hr:=hid (hr.bel W0.out)
 have c0:=C 0 _ rfl
 have c1:=C 1 _ rfl
 simp only[Nat.zero_add]at c0 c1
 unfold numV at c1
 clear C
 go_enter Tryd.func36,Tryd.ntmps36
 go_wp2
 generalize w.alloc (.cells (soC A xs.length c).toArray 61)=w0 at *
 go_loopw [3] (fun i wr=>∃k:Nat,k≤xs.length∧i=.int .i64 ((k:Int)+1)∧soB (xs.take (k+1))=true∧Below w0.heap.size w0 wr) (fun i _=>xs.length-(intOf i).toNat)
 case atStart=>exact⟨0,Nat.zero_le _,rfl,Yo5 (by rw[List.length_take];omega),Below.refl _ _⟩
 case round=>
  obtain⟨k,hk,rfl,hrel,hb⟩:=hrel
  have c0:=(hb.cell (Vx5 _ _ c0)).trans c0
  have c1:=(hb.cell (Vx5 _ _ c1)).trans c1
  by_cases hlt:k+1<xs.length
  ·obtain⟨b,o,hA,r1,m1⟩:=Yoa hr.out (show k<xs.length by omega)
   obtain⟨b',o',hA',r2,m2⟩:=Yoa hr.out hlt
   subst hA
   obtain⟨rfl,rfl⟩:b=b'∧o=o':=by injection hA' with h;injection h with h1 h2;exact⟨h1,h2⟩
   have hT2:=YoV hlt
   obtain⟨q,hq⟩:∃q,decide (xs[k].n<xs[k+1].n)=q:=⟨_,rfl⟩
   have N1:=hid (fun W=>Ypj xs[k] W)
   have N2:=hid (fun W=>Ypj xs[k+1] W)
   have j1:=hid (Zby xs[k])
   have j2:=hid (Zby xs[k+1])
   have R1:=hid (Zab hb r1)
   have R2:=hid (Zab hb r2)
   have hg1:=hid (fun e:q=false=>show (xs[k+1].n:Int)≤(xs[k].n:Int) by have:=of_decide_eq_false (hq.trans e);omega)
   have hg2:=hid (fun e:q=true=>show ¬(xs[k+1].n:Int)≤(xs[k].n:Int) by have:=of_decide_eq_true (hq.trans e);omega)
   rw[hrel,hq,Bool.true_and]at hT2
   have hno:=hid (fun h:q=false=>Yo6 (hT2.trans h))
   replace hT2:=hid hT2
   replace hrel:=hid hrel
   have hw1:IntKind.i64.wrap ((k:Int)+1-1)=(k:Int):=by rw[IntKind.wrap_i64];omega
   have hw2:IntKind.i64.wrap (k:Int)=(k:Int):=by rw[IntKind.wrap_i64];omega
   have hw3:((k:Int)+1).toNat=k+1:=by omega
   have hw4:(0:Int)≤(k:Int)+1:=by omega
   have hw5:(k:Int)+1<(xs.length:Int):=by omega
   have hw6:(k:Int)<(xs.length:Int):=by omega
   clear m1 m2 r1 r2 hA' hq hr
   generalize txC xs[k]=d1 at *
   generalize txC xs[k+1]=d2 at *
   generalize xs[k].n=n1 at *
   generalize xs[k+1].n=n2 at *
   go_wp2
   refine rgB fun hHeld=>?_
   refine' tkP 0 rfl ?_
   refine' tkC 1 rfl c1 ?_
   refine' tkP 2 rfl ?_
   refine' tkC 3 rfl c0 ?_
   simp only[sQ]
   refine' tkW 4 5 ?_
   refine' tkP 6 rfl ?_
   refine' tkM 7 rfl (fun _ h=>Zab h R1.out) hux j1.out ?_
   simp only[sQ]
   refine' tkP 9 rfl ?_
   refine' tkC 10 rfl c1 ?_
   refine' tkP 11 rfl ?_
   refine' tkC 12 rfl c0 ?_
   simp only[sQ]
   refine' tkW 13 14 ?_
   refine' tkM 15 rfl (fun _ h=>Zab h R2.out) hux j2.out ?_
   simp only[sQ]
   refine rdC 8 rfl (N1.out _) fun v1 hB hHeld=>?_
   try simp only[sQ]
   refine rdC 16 rfl (N2.out _) fun v2 hB hHeld=>?_
   try simp only[sQ]
   refine' tkP 17 rfl ?_
   simp only[sQ]
   refine dnN ?_
   cases q
   ·replace hno:=hid (hno.out rfl)
    have hg:=hg1.out rfl
    clear hg1 hg2
    go_wp2
    go_ret
    exact⟨Yoo (hno.out.symm.trans hans.out),W0.out.trans ((hb.trans (hHeld.mono hb.size)).mono W0.out.size)⟩
   ·have hg:=hg2.out rfl
    clear hg1 hg2
    go_wp2
    go_roundw
    case rel=>exact⟨k+1,by omega,by go_num,hT2.out,hb.trans (hHeld.mono hb.size)⟩
    case measure=>simp[intOf];omega
  ·have e1:soB xs=true:=by rw[← hrel,List.take_of_length_le (by omega)]
   have e2:=hid (e1.symm.trans hans.out)
   replace hrel:=trivial
   have hw5:¬(k:Int)+1<(xs.length:Int):=by omega
   go_wp2
   go_ret
   exact⟨Yoo e2.out,W0.out.trans (hb.mono W0.out.size)⟩
theorem Ypl(F:Nat→Prop)(A:Option Addr)(c n:Nat)(xs:List Tx)(w:World)(hr:Row F w A xs)(hs:soB xs=true)(hc:xs.length≤1000000):
  Calls Tryd.prog 29 #[.agg (soC A xs.length c).toArray,.int .u64 (n:Int)] w fun e w'=>e=.returned (.tuple #[.int .i64 (cntN xs n:Int),.bool (hasN xs n)])∧Below w.heap.size w w':=by
 obtain⟨m,hm⟩:∃m,cntN xs n=m:=⟨_,rfl⟩
 obtain⟨hv,hhv⟩:∃v,hasN xs n=v:=⟨_,rfl⟩
 have hml:=Ypi xs n
 have hI:=fun (i:Nat) (h:i<xs.length)=>Yqs hs (n:=n) h
 have hY:=fun h=>Yqv (xs:=xs) hs (n:=n) h
 have hN:=fun h=>Yqu (xs:=xs) hs (n:=n) h
 rw[hhv]at hY hN
 simp only[hm]at hml hI hY hN ⊢
 rw[hhv]
 replace hI:=hid hI
 replace hY:=hid hY
 replace hN:=hid hN
 have hux:=Tryd.underlying33
 have C:=Zae (Vx0 w (.cells (soC A xs.length c).toArray 61))
 have W0:=hid (Zad w (.cells (soC A xs.length c).toArray 61))
 replace hr:=hid (hr.bel W0.out)
 have c0:=C 0 _ rfl
 have c1:=C 1 _ rfl
 simp only[Nat.zero_add]at c0 c1
 unfold numV at c1
 replace hm:=hid hm
 replace hhv:=hid hhv
 clear C hs
 go_enter Tryd.func29,Tryd.ntmps29
 go_wp2
 generalize w.alloc (.cells (soC A xs.length c).toArray 61)=w0 at *
 refine rgB fun hHeld=>?_
 refine' tkP 0 rfl ?_
 refine' tkC 1 rfl c0 ?_
 refine' tkW 2 3 ?_
 simp only[sQ]
 refine' tkP 4 rfl ?_
 simp only[sQ]
 refine dnN ?_
 go_wp2
 go_loopw [6,7] (fun x y wr=>∃a b:Nat,a≤m∧m≤b∧b≤xs.length∧x=.int .i64 a∧y=.int .i64 b∧Below w0.heap.size w0 wr) (fun x y _=>(intOf y).toNat-(intOf x).toNat)
 case atStart=>exact⟨0,xs.length,Nat.zero_le _,hml,Vx8 _,rfl,rfl,hHeld⟩
 case round=>
  obtain⟨a,b,ham,hmb,hbl,rfl,rfl,hb⟩:=hrel
  have c0:=(hb.cell (Vx5 _ _ c0)).trans c0
  have c1:=(hb.cell (Vx5 _ _ c1)).trans c1
  by_cases hlt:a<b
  ·have hh:∃h:Nat,a+(b-a) / 2=h∧a≤h∧h<b:=⟨_,rfl,by omega,by omega⟩
   obtain⟨h,hh1,hh2,hh3⟩:=hh
   have hq:IntKind.i64.wrap ((b:Int)-a)=((b-a:Nat):Int):=by rw[IntKind.wrap_i64];omega
   have hq2:(a:Int)+((b-a:Nat):Int) / 2=(h:Int):=by omega
   have hhl:h<xs.length:=by omega
   obtain⟨bb,o,hA,r1,m1⟩:=Yoa hr.out hhl
   subst hA
   obtain⟨q,hqq⟩:∃q,decide (xs[h].n<n)=q:=⟨_,rfl⟩
   have hiff:=hI.out _ hhl
   have hlo:=hid (fun e:q=true=>hiff.1 (of_decide_eq_true (hqq.trans e)))
   have hhi:=hid (fun e:q=false=>Nat.le_of_not_lt fun h1=>absurd (hiff.2 h1) (of_decide_eq_false (hqq.trans e)))
   have N1:=hid (fun W=>Ypj xs[h] W)
   have j1:=hid (Zby xs[h])
   have R1:=hid (Zab hb r1)
   have hg1:=hid (fun e:q=false=>show ¬(xs[h].n:Int)<(n:Int) by have:=of_decide_eq_false (hqq.trans e);omega)
   have hg2:=hid (fun e:q=true=>show (xs[h].n:Int)<(n:Int) by have:=of_decide_eq_true (hqq.trans e);omega)
   replace hh1:=hid hh1
   have hw5:(h:Int)<(xs.length:Int):=by omega
   clear m1 r1 hqq hiff hr hI hY hN
   generalize txC xs[h]=d1 at *
   generalize xs[h].n=n1 at *
   go_wp2
   refine rgB fun hHeld=>?_
   refine' tkP 0 rfl ?_
   refine' tkC 1 rfl c1 ?_
   refine' tkP 2 rfl ?_
   refine' tkC 3 rfl c0 ?_
   simp only[sQ]
   refine' tkW 4 5 ?_
   refine' tkM 6 rfl (fun _ h=>Zab h R1.out) hux j1.out ?_
   refine' tkP 8 rfl ?_
   simp only[sQ]
   refine rdC 7 rfl (N1.out _) fun v1 hB hHeld=>?_
   try simp only[sQ]
   refine' tkP 9 rfl ?_
   simp only[sQ]
   refine dnN ?_
   have B1:=hb.trans (hHeld.mono hb.size)
   cases q
   ·replace hhi:=hid (hhi.out rfl)
    have hg:=hg1.out rfl
    clear hg1 hg2
    go_wp2
    go_roundw
    case rel=>exact⟨a,h,ham,hhi.out,by omega,rfl,rfl,B1⟩
    case measure=>simp[intOf];omega
   ·replace hlo:=hid (hlo.out rfl)
    have hg:=hg2.out rfl
    clear hg1 hg2
    go_wp2
    go_roundw
    case rel=>exact⟨h+1,b,hlo.out,hmb,hbl,by go_num,rfl,B1⟩
    case measure=>simp[intOf];omega
  ·obtain rfl:a=m:=by omega
   by_cases hml2:a<xs.length
   ·obtain⟨bb,o,hA,r1,m1⟩:=Yoa hr.out hml2
    subst hA
    have hYY:=hY.out hml2
    have N1:=hid (fun W=>Ypj xs[a] W)
    have j1:=hid (Zby xs[a])
    have R1:=hid (Zab hb r1)
    have heq:((xs[a].n:Int)==(n:Int))=hv:=by
     rw[hYY]
     by_cases h1:xs[a].n=n
     ·rw[Vy2 h1,h1];simp
     ·rw[Vy1 h1];exact beq_eq_false_iff_ne.2 (by omega)
    have hw5:(a:Int)<(xs.length:Int):=by omega
    have hw6:decide ((a:Int)<(xs.length:Int))=true:=Vy2 hw5
    clear m1 r1 hYY hr hI hY hN
    generalize txC xs[a]=d1 at *
    generalize xs[a].n=n1 at *
    go_wp2
    refine rgB fun hHeld=>?_
    refine' tkW 0 1 ?_
    refine' tkP 2 rfl ?_
    refine' tkC 3 rfl c0 ?_
    simp only[sQ]
    refine' tkW 4 5 ?_
    refine' tkW 6 7 ?_
    simp only[sQ]
    refine' tkC 8 rfl c1 ?_
    refine' tkP 9 rfl ?_
    refine' tkC 10 rfl c0 ?_
    refine' tkP 11 rfl ?_
    simp only[sQ]
    refine' tkP 12 rfl ?_
    refine' tkM 13 rfl (fun _ h=>Zab h R1.out) hux j1.out ?_
    refine' tkP 15 rfl ?_
    simp only[sQ]
    refine rdC 14 rfl (N1.out _) fun v1 hB hHeld=>?_
    try simp only[sQ]
    refine' tkW 16 17 ?_
    refine' tkW 18 19 ?_
    simp only[sQ]
    refine dnN ?_
    go_wp2
    go_ret2
    exact⟨rfl,W0.out.trans ((hb.trans (hHeld.mono hb.size)).mono W0.out.size)⟩
   ·have hNN:=hN.out hml2
    subst hNN
    have hw5:¬(a:Int)<(xs.length:Int):=by omega
    have hw6:decide ((a:Int)<(xs.length:Int))=false:=Vy1 hw5
    clear hr hI hY hN
    go_wp2
    refine rgB fun hHeld=>?_
    refine' tkW 0 1 ?_
    refine' tkP 2 rfl ?_
    refine' tkC 3 rfl c0 ?_
    simp only[sQ]
    refine' tkW 4 5 ?_
    refine' tkW 6 7 ?_
    simp only[sQ]
    refine' tkW 8 9 ?_
    refine' tkW 10 11 ?_
    simp only[sQ]
    refine' tkW 12 13 ?_
    refine' tkW 14 15 ?_
    simp only[sQ]
    refine' tkW 16 17 ?_
    refine' tkW 18 19 ?_
    simp only[sQ]
    refine dnN ?_
    go_wp2
    go_ret2
    exact⟨rfl,W0.out.trans ((hb.trans (hHeld.mono hb.size)).mono W0.out.size)⟩
end Go.Proofs.YtimaoonpgilekaaDoor
