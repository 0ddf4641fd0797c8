import Derived.Test.YtnnclggeifnomaaGreatDoorRf10
import Derived.Test.YtnnclggeifnomaaGreatDoorNumX
import Derived.Test.YtnnclggeifnomaaGreatDoorCatB
import Derived.Test.YtnnclggeifnomaaGreatDoorTrM
import Derived.Shelf.Spec.BitsCarry
import Derived.Test.YtnnclggeifnomaaGreatDoorTrD
set_option maxRecDepth 100000
set_option linter.all false
set_option maxHeartbeats 8000000
namespace Go.Proofs.YtnnclggeifnomaaGreatDoor
open Go.RowKit
theorem Zn2(a:Ac)(ha:a.ok)(b:Bool)(hb:decide (a=ac0)=b)(w:World):
  Calls Tryz.prog 126 #[.agg (acC a).toArray] w fun e w'=>e=.returned (.bool b)∧Below w.heap.size w w':=by
 have hu:=Tryz.underlying130
 have h0:=Vx0 w (.cells (acC a).toArray 130)
 have b0:=hid (Zad w (.cells (acC a).toArray 130))
 have q0:=hid (Zae h0)
 have ia:=hid (show (Tryz.prog.info? 130).map (·.size)=some (acC a).length from ZaM)
 have hb0:=hid Zer
 have hE:∀W,(Op.equalIn 10000 130 (.agg (acC a).toArray) (.agg (acC ac0).toArray)).run Tryz.prog W=.ok b W:=fun W=>ZgB a ac0 ha ZiN b hb W
 clear h0 hb
 generalize acC a=ca at *
 generalize (acC ac0).toArray=cz at *
 go_enter Tryz.func126,Tryz.ntmps126
 go_wp2_with (first
  |(with_reducible refine lDr q0.out ia.out hu ?_)
  |((with_reducible refine Zaf rfl 130 _ rfl cz [] ?_ ?_ ?_);exact hb0.out;rfl))
 go_ret
 exact⟨rfl,b0.out⟩
theorem ZhD(a:Ac)(ha:a.ok)(w:World):
  Calls Tryz.prog 266 #[.agg (acC a).toArray] w fun e w'=>∃A c,e=.returned (.slice A (acB a).length c)∧Own 5 w' w.heap.size A c (acB a)∧Below w.heap.size w w':=by
 have h0:=Vx0 w (.cells (acC a).toArray 130)
 have b0:=hid (Zad w (.cells (acC a).toArray 130))
 have q0:=hid (Zae h0)
 have c0:=q0.out 0 _ rfl
 have c1:=q0.out 1 _ rfl
 obtain⟨x,hx⟩:∃x,be 8 a.n=x:=⟨_,rfl⟩
 obtain⟨y,hy⟩:∃y,be 8 a.b=y:=⟨_,rfl⟩
 have p1:putE a.n 8=0:=by unfold putE;rw[if_pos (by decide)];exact if_pos ha.1
 have p2:putE a.b 8=0:=by unfold putE;rw[if_pos (by decide)];exact if_pos ha.2
 have d1:=hid (fun W=>Zfr a.n _ 8 x 0 W rfl ha.1 (by unfold putB;rw[if_pos p1];exact hx) p1)
 have d2:=hid (fun W=>Zfr a.b _ 8 y 0 W rfl ha.2 (by unfold putB;rw[if_pos p2];exact hy) p2)
 have l1:x.length=8:=by rw[← hx];exact Zav 8 a.n
 have l2:y.length=8:=by rw[← hy];exact Zav 8 a.b
 have hB:acB a=[x,y].flatten:=by unfold acB;rw[hx,hy];simp
 rw[hB]
 have h16:[x,y].flatten.length=16:=by simp[l1,l2]
 have hC:=hid (fun A c W (h:Rds W A [x,y])=>Zjc A c [x,y] W h (by simp) (by rw[h16];omega))
 generalize [x,y].flatten=z at *
 rw[h16]at hC ⊢
 clear hx hy p1 p2 h0 hB q0 h16
 go_enter Tryz.func266,Tryz.ntmps266
 go_wp2_with fail
 refine(d1.out _).mono ?_
 rintro e w1 ⟨A1,k1,rfl,o1,hb⟩
 have c11:=(hb.cell (Vx5 _ _ c1)).trans c1
 have W1:=hid (b0.out.trans (hb.mono b0.out.size))
 have v1:=hid o1.cap
 have r1:=hid o1.rd
 clear hb c0 c1 d1 o1
 go_wp2_with fail
 refine(d2.out _).mono ?_
 rintro e w2 ⟨A2,k2,rfl,o2,hb⟩
 have W2:=hid (W1.out.trans (hb.mono W1.out.size))
 have r2:=hid o2.rd
 have v2:=hid o2.cap
 replace r1:=hid (r1.out.bel hb)
 have R:=hid (Zcz w2 A1 A2 k1 k2 x y 41 r1.out r2.out v1.out v2.out)
 have W3:=hid (W2.out.trans ((Zad w2 (.cells [Value.slice A1 x.length k1,.slice A2 y.length k2].toArray 41)).mono W2.out.size))
 rw[l1,l2]at R W3
 try rw[l2]
 clear hb o2 c11 d2 v1 v2
 go_wp2_with fail
 refine(hC.out _ _ _ R.out).mono ?_
 rintro e w3 ⟨A3,k3,rfl,o3,hb⟩
 go_wp2
 go_ret
 exact⟨_,_,rfl,o3.base W3.out.size,W3.out.trans (hb.mono W3.out.size)⟩
theorem ZiI{l:List UInt8}(h:8≤l.length):takeE l 8=0:=by
 unfold takeE;rw[if_pos (by decide),if_neg (by omega)]
theorem Zlk{l:List UInt8}(h:l.length<8):takeE l 8=10:=by
 unfold takeE;rw[if_pos (by decide),if_pos (by omega)]
theorem Zd2(A:Option Addr)(c:Nat)(l:List UInt8)(w:World)(hr:Rd w A l)(hc:l.length≤c)(hm:c≤maxLen)(hl47:l.length≤140737488351232):
  Calls Tryz.prog 85 #[.slice A l.length c] w fun e w'=>e=.returned (.tuple #[.agg (acC (acOf l)).toArray,.int .i64 (acE l)])∧Below w.heap.size w w':=by
 have hu:=Tryz.underlying130
 have h0:=hid (Vx0 w (.cells (acC ac0).toArray 130))
 have b0:=hid (Zad w (.cells (acC ac0).toArray 130))
 have hb0:=hid Zer
 have n0:=hid (ZbW ac0)
 obtain⟨o,ho⟩:∃o,l.take 16=o:=⟨_,rfl⟩
 have hol:o.length=min 16 l.length:=by rw[← ho,List.length_take]
 have r0:Rd (w.alloc (.cells (acC ac0).toArray 130)) A o:=by rw[← ho];exact(hr.take 16).alloc _
 have hmi:min (l.length:Int) 16=(o.length:Int):=by omega
 have hm2:c≤9223372036854775807:=by unfold maxLen at hm;omega
 have hcut:=fun W=>Zcl slotU8k A l.length c o.length (by omega) W
 replace r0:=hid r0
 by_cases h8:l.length<8
 ·have e1:acE l=10:=by unfold acE;rw[if_pos (by omega)]
  have e2:acOf l=ac0:=Zi5 (by rw[e1];decide)
  rw[e1,e2]
  have T1:=hid (fun W (h:Rd W A o)=>Zdu A o.length c o 8 0 [] 10 W h rfl (by omega) hm2 (by omega) (by unfold takeN;rw[Zlk (by omega)];rfl) (by unfold takeR;rw[Zlk (by omega)];rfl) (Zlk (by omega)))
  clear e1 e2 ho hr hc hol
  generalize o.length=k at *
  go_enter Tryz.func85,Tryz.ntmps85
  go_wp2_with ((with_reducible refine Zac rfl 130 rfl (acC ac0).toArray ZaZ ?_))
  refine(T1.out _ r0.out).mono ?_
  rintro e w1 ⟨A1,c1,rfl,-,hb⟩
  have h1:=hid ((hb.block _ (block_lt h0.out)).trans h0.out)
  have W1:=hid (b0.out.trans (hb.mono b0.out.size))
  clear hb
  go_wp2_with (first
   |((with_reducible refine Zaf rfl 130 _ rfl (acC ac0).toArray [] ?_ ?_ ?_);exact hb0.out;rfl)
   |((with_reducible refine stW 2 25 w.heap.size 130 (acC ac0).toArray ?_ ?_ ?_ ?_ ?_);exact h1.out;exact ZaM;rfl;exact n0.out;intro w3 hg3 hb3 hs3))
  exact Vy0 (Zgv rfl _ _ w.heap.size ac0 rfl hg3) rfl ⟨rfl,W1.out.grown hb3 W1.out.size (fun g e=>by injection e with e;omega)⟩
 have hN1:takeN o 8=num (l.take 8):=by unfold takeN;rw[ZiI (by omega),if_pos rfl,←ho,List.take_take];rfl
 have T1:=hid (fun W (h:Rd W A o)=>Zdu A o.length c o 8 (num (l.take 8):Int) (o.drop 8) 0 W h rfl (by omega) hm2 (by omega) (by rw[hN1]) (by unfold takeR;rw[ZiI (by omega)];rfl) (ZiI (by omega)))
 by_cases h16:l.length<16
 ·have e1:acE l=10:=by unfold acE;rw[if_pos (by omega)]
  have e2:acOf l=ac0:=Zi5 (by rw[e1];decide)
  rw[e1,e2]
  have hd:(o.drop 8).length<8:=by rw[List.length_drop];omega
  have T2f:=hid (fun A1 c1 W (h:Rd W A1 (o.drop 8)) (q1:(o.drop 8).length≤c1) (q2:c1≤maxLen)=>Zdu A1 (o.drop 8).length c1 (o.drop 8) 8 0 [] 10 W h rfl q1 (by unfold maxLen at q2;omega) (by omega) (by unfold takeN;rw[Zlk hd];rfl) (by unfold takeR;rw[Zlk hd];rfl) (Zlk hd))
  clear e1 e2 ho hr hc hol hN1 hd
  generalize o.drop 8=y at *
  generalize o.length=k at *
  generalize num (l.take 8)=n1 at *
  go_enter Tryz.func85,Tryz.ntmps85
  go_wp2_with ((with_reducible refine Zac rfl 130 rfl (acC ac0).toArray ZaZ ?_))
  refine(T1.out _ r0.out).mono ?_
  rintro e w1 ⟨A1,c1,rfl,o1,hb⟩
  have h1:=hid ((hb.block _ (block_lt h0.out)).trans h0.out)
  have W1:=hid (b0.out.trans (hb.mono b0.out.size))
  have r1:=hid o1.rd
  have k1:=o1.cap
  have T2:=hid (T2f.out A1 c1 w1 r1.out k1.1 k1.2)
  clear hb k1 o1
  go_wp2_with fail
  refine T2.out.mono ?_
  rintro e w2 ⟨A2,c2,rfl,-,hb⟩
  have h2:=hid ((hb.block _ (block_lt h1.out)).trans h1.out)
  have W2:=hid (W1.out.trans (hb.mono W1.out.size))
  clear hb T2
  go_wp2_with (first
   |((with_reducible refine Zaf rfl 130 _ rfl (acC ac0).toArray [] ?_ ?_ ?_);exact hb0.out;rfl)
   |((with_reducible refine stW 2 35 w.heap.size 130 (acC ac0).toArray ?_ ?_ ?_ ?_ ?_);exact h2.out;exact ZaM;rfl;exact n0.out;intro w3 hg3 hb3 hs3))
  exact Vy0 (Zgv rfl _ _ w.heap.size ac0 rfl hg3) rfl ⟨rfl,W2.out.grown hb3 W2.out.size (fun g e=>by injection e with e;omega)⟩
 have hd:o.drop 8=(l.drop 8).take 8:=by rw[← ho,List.drop_take]
 have hd8:(o.drop 8).length=8:=by rw[List.length_drop];omega
 have hko:o.length=16:=by omega
 have hN2:takeN (o.drop 8) 8=num ((l.drop 8).take 8):=by unfold takeN;rw[ZiI (by omega),if_pos rfl,hd,List.take_take];rfl
 have T2f:=hid (fun A1 c1 W (h:Rd W A1 (o.drop 8)) (q1:(o.drop 8).length≤c1) (q2:c1≤maxLen)=>Zdu A1 (o.drop 8).length c1 (o.drop 8) 8 (num ((l.drop 8).take 8):Int) ((o.drop 8).drop 8) 0 W h rfl q1 (by unfold maxLen at q2;omega) (by omega) (by rw[hN2]) (by unfold takeR;rw[ZiI (by omega)];rfl) (ZiI (by omega)))
 have E3:=hid (fun A n c W (hn:n=l.length-16)=>Zn1 A n c (l.drop 16) (endE (l.drop 16)) W (by rw[List.length_drop,hn]) rfl)
 have hee:endE (l.drop 16)=if 16<l.length then 11 else 0:=by unfold endE;rw[List.length_drop];split<;>split<;>omega
 rw[hko]at T1 hmi hcut
 by_cases h17:16<l.length
 ·have e1:acE l=11:=by unfold acE;rw[if_neg h16,if_pos h17]
  have e2:acOf l=ac0:=Zi5 (by rw[e1];decide)
  rw[e1,e2]
  rw[hee,if_pos h17]at E3
  clear e1 e2 ho hr hol hN1 hN2 hd hd8 hee hko
  generalize (o.drop 8).drop 8=z at *
  generalize o.drop 8=y at *
  generalize num (l.take 8)=n1 at *
  generalize num ((l.drop 8).take 8)=n2 at *
  go_enter Tryz.func85,Tryz.ntmps85
  go_wp2_with ((with_reducible refine Zac rfl 130 rfl (acC ac0).toArray ZaZ ?_))
  refine(T1.out _ r0.out).mono ?_
  rintro e w1 ⟨A1,c1,rfl,o1,hb⟩
  have h1:=hid ((hb.block _ (block_lt h0.out)).trans h0.out)
  have W1:=hid (b0.out.trans (hb.mono b0.out.size))
  have r1:=hid o1.rd
  have k1:=o1.cap
  have T2:=hid (T2f.out A1 c1 w1 r1.out k1.1 k1.2)
  clear hb k1 o1
  go_wp2_with fail
  refine T2.out.mono ?_
  rintro e w2 ⟨A2,c2,rfl,-,hb⟩
  have h2:=hid ((hb.block _ (block_lt h1.out)).trans h1.out)
  have W2:=hid (W1.out.trans (hb.mono W1.out.size))
  clear hb T2
  go_wp2_with fail
  all_goals
   refine(E3.out _ _ _ _ (by omega)).mono ?_
   rintro e w4 ⟨rfl,rfl⟩
   go_wp2_with (first
    |((with_reducible refine Zaf rfl 130 _ rfl (acC ac0).toArray [] ?_ ?_ ?_);exact hb0.out;rfl)
    |((with_reducible refine stW 2 44 w.heap.size 130 (acC ac0).toArray ?_ ?_ ?_ ?_ ?_);exact h2.out;exact ZaM;rfl;exact n0.out;intro w3 hg3 hb3 hs3))
   exact Vy0 (Zgv rfl _ _ w.heap.size ac0 rfl hg3) rfl ⟨rfl,W2.out.grown hb3 W2.out.size (fun g e=>by injection e with e;omega)⟩
 have hl:l.length=16:=by omega
 rw[hee,if_neg h17]at E3
 have hdl:(l.drop 8).take 8=l.drop 8:=List.take_of_length_le (by rw[List.length_drop];omega)
 rw[hdl]at T2f
 obtain⟨n1,hn1⟩:∃n,num (l.take 8)=n:=⟨_,rfl⟩
 obtain⟨n2,hn2⟩:∃n,num (l.drop 8)=n:=⟨_,rfl⟩
 have a1:n1<18446744073709551616:=by rw[← hn1];exact ZkZ (by rw[List.length_take];omega)
 have a2:n2<18446744073709551616:=by rw[← hn2];exact ZkZ (by rw[List.length_drop];omega)
 have hE:acE l=if (⟨n1,n2⟩:Ac)=ac0 then 8 else 0:=by
  unfold acE
  rw[if_neg h16,if_neg h17,hn1,hn2]
  by_cases hz:n1=0∧n2=0
  ·rw[if_pos hz,if_pos (Zuo hz.1 hz.2)]
  ·rw[if_neg hz,if_neg fun q=>hz ⟨congrArg (·.n) q,congrArg (·.b) q⟩]
 have hO:acOf l=⟨n1,n2⟩:=by
  unfold acOf
  rw[hE,hn1,hn2]
  by_cases hz:(⟨n1,n2⟩:Ac)=ac0
  ·rw[if_pos hz,hz];rfl
  ·rw[if_neg hz];rfl
 rw[hn1]at T1
 rw[hn2]at T2f
 rw[hE,hO]
 obtain⟨zb,hzb⟩:∃b,decide ((⟨n1,n2⟩:Ac)=ac0)=b:=⟨_,rfl⟩
 have Z:=hid (fun W=>Zn2 ⟨n1,n2⟩ ⟨a1,a2⟩ zb hzb W)
 have hbl:=hid (Zl1 n1 n2)
 have nb:=hid (ZbW ⟨n1,n2⟩)
 have ia:=hid (show (Tryz.prog.info? 130).map (·.size)=some (acC ⟨n1,n2⟩).length from ZaM)
 have hif:(if (⟨n1,n2⟩:Ac)=ac0 then (8:Int) else 0)=if zb=true then 8 else 0:=by
  rw[← hzb]
  simp only[decide_eq_true_eq]
 have hz0:Hid (zb=true→(⟨n1,n2⟩:Ac)=ac0):=hid fun h=>by rw[h]at hzb;exact of_decide_eq_true hzb
 rw[hif]
 clear ho hr hol hN1 hN2 hd hd8 hee hko hE hO hn1 hn2 hdl hzb hif a1 a2
 generalize (o.drop 8).drop 8=z at *
 generalize o.drop 8=y at *
 cases zb
 all_goals
  go_enter Tryz.func85,Tryz.ntmps85
  go_wp2_with ((with_reducible refine Zac rfl 130 rfl (acC ac0).toArray ZaZ ?_))
  refine(T1.out _ r0.out).mono ?_
  rintro e w1 ⟨A1,c1,rfl,o1,hb⟩
  have h1:=hid ((hb.block _ (block_lt h0.out)).trans h0.out)
  have W1:=hid (b0.out.trans (hb.mono b0.out.size))
  have r1:=hid o1.rd
  have k1:=o1.cap
  have T2:=hid (T2f.out A1 c1 w1 r1.out k1.1 k1.2)
  clear hb k1 o1
  go_wp2_with fail
  refine T2.out.mono ?_
  rintro e w2 ⟨A2,c2,rfl,-,hb⟩
  have h2:=hid ((hb.block _ (block_lt h1.out)).trans h1.out)
  have W2:=hid (W1.out.trans (hb.mono W1.out.size))
  clear hb T2
  go_wp2_with fail
  all_goals
   refine(E3.out _ _ _ _ (by omega)).mono ?_
   rintro e w4 ⟨rfl,rfl⟩
   have e2:=hid (Vx0 w2 (.cells (acC ac0).toArray 130))
   go_wp2_with (first
    |((with_reducible refine Zaf rfl 130 _ rfl (acC ⟨n1,n2⟩).toArray [(0,.int .u64 (n1:Int)),(1,.int .u64 (n2:Int))] ?_ ?_ ?_);exact hbl.out;rfl)
    |(with_reducible refine Zac rfl 130 rfl (acC ac0).toArray ZaZ ?_)
    |((with_reducible refine stW 11 48 w2.heap.size 130 (acC ac0).toArray ?_ ?_ ?_ ?_ ?_);exact e2.out;exact ZaM;rfl;exact nb.out;intro w5 hgS hbS hsS;have X5:=hid (Zan rfl hbS);have q5:=hid (Zae (l:=acC ⟨n1,n2⟩) hgS);have h5:=hid ((X5.out.block _ (block_lt h2.out)).trans h2.out);have W5:=hid (W2.out.trans (X5.out.mono W2.out.size));clear hgS hbS hsS)
    |(with_reducible refine lDr q5.out ia.out hu ?_))
   refine(Z.out _).mono ?_
   rintro e w6 ⟨rfl,hb⟩
   have h6:=hid ((hb.block _ (block_lt h5.out)).trans h5.out)
   have q6:=hid (Zab hb q5.out)
   have W6:=hid (W5.out.trans (hb.mono W5.out.size))
   clear hb
   go_wp2_with (first
    |((with_reducible refine Zaf rfl 130 _ rfl (acC ac0).toArray [] ?_ ?_ ?_);exact hb0.out;rfl)
    |(with_reducible refine lDr q6.out ia.out hu ?_)
    |((with_reducible refine stW 2 51 w.heap.size 130 (acC ac0).toArray ?_ ?_ ?_ ?_ ?_);exact h6.out;exact ZaM;rfl;exact n0.out;intro w3 hg3 hb3 hs3)
    |((with_reducible refine stW 2 52 w.heap.size 130 (acC ac0).toArray ?_ ?_ ?_ ?_ ?_);exact h6.out;exact ZaM;rfl;exact nb.out;intro w3 hg3 hb3 hs3))
   first
    |exact Vy0 (Zgv rfl _ _ w.heap.size ⟨n1,n2⟩ rfl hg3) rfl ⟨rfl,W6.out.grown hb3 W6.out.size (fun g e=>by injection e with e;omega)⟩
    |(rw[hz0.out (by first|trivial|rfl)];exact Vy0 (Zgv rfl _ _ w.heap.size ac0 rfl hg3) rfl ⟨rfl,W6.out.grown hb3 W6.out.size (fun g e=>by injection e with e;omega)⟩)
section
open Go.RowKit Go.Shelf
attribute [local go_sem] Oper.semAt_some
theorem Zrm(A:Option Addr)(n c:Nat)(root:Int)(w:World):
  Calls Tryz.prog 147 #[.agg #[.slice A n c,.int .i64 root]] w fun e w'=>e=.returned (.func (.func 200) #[] #[.pointer (some ⟨w.heap.size,0,none⟩)])∧w'=w.alloc (.cells #[.slice A n c,.int .i64 root] 24):=by
 go_enter Tryz.func147,Tryz.ntmps147
 go_wp2
 go_ret
 exact⟨rfl,rfl⟩
def encA(x:Ac×Int):Array Value:=#[.agg (acC x.1).toArray,.int .i64 x.2]
def mapA(ps:List Pr):List (Ac×Int):=ps.map fun p=>(acOf p.v,0)
theorem ZzS{ps:List Pr}{j:Nat}(h:j<ps.length):mapA (ps.take (j+1))=mapA (ps.take j)++[(acOf ps[j].v,0)]:=by
 unfold mapA
 rw[Vy5 h,List.map_append]
 rfl
theorem Ydu{ps:List Pr}(j:Nat)(hh:heldP (ps.take j)=true):∃r,itA ps=mapA (ps.take j)++r:=by
 induction ps generalizing j with
 |nil=>exact⟨[],by simp[itA,mapA]⟩
 |cons p ps ih=>
  cases j with
  |zero=>exact⟨_,rfl⟩
  |succ j=>
   rw[List.take_succ_cons]at hh
   obtain⟨r,hr⟩:=ih j (Zc5.2 fun q hq=>Zc5.1 hh q (List.mem_cons_of_mem _ hq))
   refine⟨r,?_⟩
   unfold itA
   rw[if_pos (Zc5.1 hh p (List.mem_cons_self ..)),hr]
   rfl
theorem Zno{t:Tr}(hc:t.ns.length≤1000000):(pairsM t).length≤1000000:=by
 unfold pairsM
 split
 ·rename_i h;exact ZeH h hc
 ·simp
theorem Yas{t:Tr}:∀p∈pairsM t,p.v.length≤100000:=fun p hp=>by
 unfold pairsM at hp
 split at hp
 ·rename_i h
  have:=(Zbp h).2.1 p hp
  unfold valB at this
  have:=of_decide_eq_true this
  omega
 ·cases hp
theorem ZuF(n:Nat)(hn:1≤n)(p n₀ lp:Nat)(Z:Nat→Prop)(F:Nat→Prop)(A:Option Addr)(c:Nat)(ns:List Nd)(root:Int)(w0 W:World)(hn0:n₀=w0.heap.size)(hw0:Below n₀ w0 W)(hr:Row F w0 A ns)(hc:ns.length≤1000000)
  (hp:W.heap[p]? =some (.cells #[.slice A ns.length c,.int .i64 root] 24 (0,0))) (hZ:∀b,Z b→b<W.heap.size)
  (J Jx:List (Ac×Int)→World→Prop) (hJ:AbidesFrom W.heap.size J)
  (hY:∀pre x W1,J pre W1→pre.length<1000001→YieldAt Fence.wide (n-1) Tryz.prog lp (encA x) W1 fun e W'=>
   (e=.returned (.bool true)∧J (pre++[x]) W'∧KeepA n₀ Z W1 W')∨(e=.returned (.bool false)∧Jx (pre++[x]) W'))
  (h0:J [] W):
  CallsIn Fence.wide n Tryz.prog 200 #[.func (.yield lp) #[] #[],.pointer (some ⟨p,0,none⟩)] W fun e W'=>(∃ v,e=.returned v)∧
   ((∃ xs,xs=seqA ⟨ns,root⟩∧J xs W')∨(∃ pre,(∃ r,seqA ⟨ns,root⟩=pre++r)∧Jx pre W')):=by
 have hnW:n₀≤W.heap.size:=by rw[hn0];exact hw0.size
 have hut:=Tryz.underlying24
 have hua:=Tryz.underlying130
 have hup:=Tryz.underlying43
 have hb0:=hid Zer
 have hpl:=Zno (t:=⟨ns,root⟩) hc
 have hpv:=Yas (t:=⟨ns,root⟩)
 obtain⟨m,hm⟩:∃m,mayT ⟨ns,root⟩=m:=⟨_,rfl⟩
 have hPr:=hid (fun W' (h:Below W.heap.size W W')=>ZbN F A c ns root W' (hr.bel (hn0▸hw0.trans (h.mono hnW))) hc)
 have hs:seqA ⟨ns,root⟩=if m=true then itA (pairsM ⟨ns,root⟩) else [(ac0,8)]:=by
  unfold seqA pairsM
  rw[hm]
  cases m<;>rfl
 rw[hs]
 rw[hm]at hPr
 clear hs hr hw0 hm
 generalize pairsM ⟨ns,root⟩=ps at *
 replace hY:=hid hY
 refine callsIn_of_wp Tryz.func200 rfl trivial ?_ rfl
 simp only[Tryz.ntmps200,Vx7,List.length_cons,List.length_nil,Nat.reduceAdd,Nat.reduceSub,Array.replicate_succ,Array.replicate_zero,List.push_toArray,List.append_toArray,List.nil_append,List.cons_append]
 gi_wp2_with (((with_reducible refine ZaW rfl 24 (.tmp 1) rfl p rfl 24 #[.slice A ns.length c,.int .i64 root] (0,0) _ ?_ hut rfl ?_ ?_);exact hp;exact Zah))
 refine⟨trivial,callsIn_wide.2 ((hPr.out W (Below.refl _ _)).mono ?_)⟩
 rintro e W1 ⟨A2,c2,rfl,o2,hb⟩
 cases m with
 |false=>
  simp only[Bool.false_eq_true,if_false]at *
  obtain⟨fn,tmps,assign,body,hy,hR⟩:=hY.out [] (ac0,8) W1 (hJ _ W W1 none h0 (ZbR hb) (by intro r e;cases e)) (by simp)
  dsimp only[encA]at hy
  gi_wp2_with (((with_reducible refine ZiV rfl 130 _ rfl (acC ac0).toArray [] ?_ ?_ ?_);exact hb0.out;rfl))
  refine hR.mono ?_
  rintro e W3 (⟨rfl,hJ3,hk3⟩|⟨rfl,hJx3⟩)
  ·gi_wp2
   refine Vy0 (results_none rfl _ _ _) rfl ?_
   first|exact⟨⟨_,rfl⟩,.inl hJ3⟩|exact⟨⟨_,rfl⟩,.inl ⟨_,rfl,hJ3⟩⟩
  ·gi_wp2
   refine Vy0 (results_none rfl _ _ _) rfl ?_
   exact⟨⟨_,rfl⟩,.inr ⟨_,⟨[],rfl⟩,hJx3⟩⟩
 |true=>
  simp only[if_true]at *
  have hJ1:=hJ _ W W1 none h0 (ZbR hb) (by intro r e;cases e)
  have R1:=hid (OwnR.rowS o2)
  have K1:KeepA n₀ Z W W1:=KeepA.bel hb hnW
  have s1:=hb.size
  clear o2
  gi_wp2
  gi_loopw [21] (fun i wr=>∃j:Nat,i=.int .i64 (j:Int)∧j≤ps.length∧heldP (ps.take j)=true∧J (mapA (ps.take j)) wr∧KeepA n₀ Z W1 wr) (fun i _=>ps.length-(intOf i).toNat)
  case atStart=>exact⟨0,rfl,by omega,rfl,hJ1,KeepA.refl _ _ _⟩
  case round=>
   obtain⟨j,rfl,hj0,hh,hj,hk⟩:=hrel
   by_cases hlt:j<ps.length
   ·have hlt2:(j:Int)<(ps.length:Int):=by omega
    have hR:=Ya3 R1.out hk hZ
    obtain⟨b,o,hA,-,A',c',hcell,r2,h1,h2,h3⟩:=ZcO hR hlt
    subst hA
    have hRd:=hid h3.rd
    have hs2:=hid (Zjo ps[j].k (.slice A' ps[j].v.length c'))
    have hvl:=hpv _ (List.getElem_mem hlt)
    have hlen:Hid ((ps[j].k.1.map bv++[Value.slice A' ps[j].v.length c']).length=33):=Zbq _ _
    have hone:Hid ((ps[j].k.1.map bv++[Value.slice A' ps[j].v.length c']).toArray.all (·.oneCell')=true):=all_oneCell_toArray (Enc.one (ZcL (F:=fun b=>W.heap.size≤b∧Soft W1 b) (w:=wr) ps[j].k ps[j].v A' c' h1 h2 h3))
    have e0:=hid (Vx0 wr (.cells zPrC 43))
    have hsn:=hk.1.size
    have hsz:W1.heap.size≤wr.heap.size:=hk.1.size
    have hRA:=hid (fun w (h:Rd w A' ps[j].v)=>Zd2 A' c' ps[j].v w h h1 h2 (by omega))
    have hst:acE ps[j].v≠0→itA ps=mapA (ps.take j)++[(ac0,8)]:=fun h=>Ydi hlt hh h
    have hgo:=ZzS hlt
    have hpre:acE ps[j].v=0→∃r,itA ps=mapA (ps.take j)++[(acOf ps[j].v,0)]++r:=fun h=>by
     obtain⟨r,hr⟩:=Ydu (j+1) (ZuQ hlt hh h)
     exact⟨r,by rw[hr,hgo]⟩
    have hh1:acE ps[j].v=0→heldP (ps.take (j+1))=true:=fun h=>ZuQ hlt hh h
    have hml:(mapA (ps.take j)).length<1000001:=by unfold mapA;rw[Vx6,List.length_take];omega
    generalize ps[j].k=kq at *
    generalize ps[j].v=v at *
    generalize acE v=ev at *
    generalize acOf v=av at *
    have nb:=hid (ZbW av)
    have ia:=hid (show (Tryz.prog.info? 130).map (·.size)=some (acC av).length from ZaM)
    replace hst:=hid hst
    replace hgo:=hid hgo
    replace hpre:=hid hpre
    replace hh1:=hid hh1
    clear hcell h3 hR hh
    gi_wp2_with (first
     |((with_reducible refine ZgY rfl 43 (.tmp 23) rfl b (o+j * 33) rfl (kq.1.map bv++[.slice A' v.length c']) _ ?_ hup rfl hs2.out ?_);exact r2)
     |(with_reducible refine Zcu rfl 43 rfl zPrC ZnQ ?_)
     |((with_reducible refine ZbF rfl 43 (.tmp 6) (.tmp 24) rfl wr.heap.size (kq.1.map bv++[Value.slice A' v.length c']:List Value).toArray rfl ?_ 43 zPrC ?_ ?_ ?_ ?_ ?_);rfl;exact e0.out;exact hs2.out;exact zSizePr.trans hlen.out.symm;exact hone.out;intro w4 hg4 hb4 hs4;have hcell4:=(ZeW hg4).1))
    have B4:=ZfZ hb4
    clear hg4 hb4 r2 hone hlen hs2
    refine⟨trivial,callsIn_wide.2 ((hRA.out w4 (hRd.out.bel B4)).mono ?_)⟩
    rintro e w5 ⟨rfl,hb5⟩
    have B5:=B4.trans (hb5.mono B4.size)
    have hj5:=hJ _ wr w5 none hj (ZbR B5) (by intro r e;cases e)
    have k5:=hk.trans (KeepA.bel B5 (Vx1 (Vx1 hnW s1) hsz))
    have e5:=hid (Vx0 w5 (.cells (acC ac0).toArray 130))
    clear hb5 B4 hcell4 hj
    have s5:=B5.size
    by_cases hz:ev=0
    ·subst hz
     have y1:=hpre.out rfl
     have y2:=hh1.out rfl
     have Y5:=hid (fun w6 (hB:Below w5.heap.size w5 w6)=>hY.out (mapA (ps.take j)) (av,0) w6 (hJ _ w5 w6 none hj5 (ZbR hB) (by intro r e;cases e)) hml)
     have K6:=hid (fun w6 (hB:Below w5.heap.size w5 w6)=>k5.trans (KeepA.bel (Z:=Z) hB (Vx1 (Vx1 (Vx1 hnW s1) hsz) s5)))
     replace y1:=hid y1
     replace y2:=hid y2
     clear hst hpre hh1 hj5 k5
     gi_wp2_with (first
      |(with_reducible refine Zcu rfl 130 rfl (acC ac0).toArray ZaZ ?_)
      |((with_reducible refine ZbF rfl 130 (.tmp 7) (.tmp 29) rfl w5.heap.size _ rfl rfl 130 (acC ac0).toArray ?_ ?_ ?_ ?_ ?_);exact e5.out;exact ZaM;rfl;exact nb.out;intro w6 hgS hbS hsS;have X6:=hid (Zan rfl hbS);have q6:=hid (Zae (l:=acC av) hgS);obtain⟨fn,tmps,assign,body,hy,hR⟩:=Y5.out w6 X6.out;dsimp only[encA]at hy;clear hgS hbS hsS)
      |((with_reducible refine ZgY rfl 130 (.tmp 7) rfl w5.heap.size 0 rfl (acC av) _ ?_ hua rfl ia.out ?_);exact q6.out))
     refine hR.mono ?_
     rintro e W3 (⟨rfl,hJ3,hk3⟩|⟨rfl,hJx3⟩)
     ·gi_wp2
      go_roundw
      case rel=>exact⟨j+1,by go_num,by omega,y2.out,by rw[hgo.out];exact hJ3,(K6.out _ X6.out).trans hk3⟩
      case measure=>simp[intOf];omega
     ·gi_wp2
      refine Vy0 (results_none rfl _ _ _) rfl ?_
      exact⟨⟨_,rfl⟩,.inr ⟨_,y1.out,hJx3⟩⟩
    ·have y1:=hst.out hz
     have Y5:=hid (fun w6 (hB:Below w5.heap.size w5 w6)=>hY.out (mapA (ps.take j)) (ac0,8) w6 (hJ _ w5 w6 none hj5 (ZbR hB) (by intro r e;cases e)) hml)
     have hzb:(ev !=0)=true:=by rw[bne_iff_ne];exact hz
     replace y1:=hid y1
     clear hst hpre hh1 hj5 k5 hz
     gi_wp2_with (first
      |(with_reducible refine Zcu rfl 130 rfl (acC ac0).toArray ZaZ ?_)
      |((with_reducible refine ZiV rfl 130 _ rfl (acC ac0).toArray [] ?_ ?_ ?_);exact hb0.out;rfl)
      |((with_reducible refine ZbF rfl 130 (.tmp 7) (.tmp 29) rfl w5.heap.size _ rfl rfl 130 (acC ac0).toArray ?_ ?_ ?_ ?_ ?_);exact e5.out;exact ZaM;rfl;exact nb.out;intro w6 hgS hbS hsS;have X6:=hid (Zan rfl hbS);obtain⟨fn,tmps,assign,body,hy,hR⟩:=Y5.out w6 X6.out;dsimp only[encA]at hy;clear hgS hbS hsS))
     refine hR.mono ?_
     rintro e W3 (⟨rfl,hJ3,hk3⟩|⟨rfl,hJx3⟩)
     ·gi_wp2
      refine Vy0 (results_none rfl _ _ _) rfl ?_
      first|exact⟨⟨_,rfl⟩,.inl ⟨_,rfl,by rw[y1.out];exact hJ3⟩⟩|exact⟨⟨_,rfl⟩,.inl (by rw[y1.out];exact hJ3)⟩
     ·gi_wp2
      refine Vy0 (results_none rfl _ _ _) rfl ?_
      exact⟨⟨_,rfl⟩,.inr ⟨_,⟨[],by rw[y1.out,List.append_nil]⟩,hJx3⟩⟩
   ·obtain rfl:j=ps.length:=by omega
    rw[List.take_length]at hj hh
    have hit:itA ps=mapA ps:=Zpz hh
    gi_wp2
    go_end0
    first|exact⟨⟨_,rfl⟩,.inl hj⟩|exact⟨⟨_,rfl⟩,.inl (by rw[hit];exact hj)⟩|exact⟨⟨_,rfl⟩,.inl ⟨_,rfl,by rw[hit];exact hj⟩⟩
end
section
open Go.RowKit Go.Shelf
attribute [local go_sem] Oper.semAt_some
def LoopK(w:World)(pre:List (Ac×Int))(W:World):Prop:=(∀ x∈pre,x.2=0)∧Boxed W (w.heap.size+1) 28 (.int .i64 0)∧Below w.heap.size w W
def LeftK(w:World)(cd:Code)(pre:List (Ac×Int))(W:World):Prop:=cd=.ret∧∃q x,pre=q++[x]∧x.2≠0∧Boxed W (w.heap.size+1) 28 (.int .i64 x.2)∧Below w.heap.size w W
theorem ZwX(w:World)(B:Nat)(hB:w.heap.size≤B):OwnFrom B (LoopK w):=by
 rintro pre X Y row ⟨h1,h2,h3⟩ hg hr
 have hr2:=fun r e=>(hr r e).2
 exact⟨h1,h2.kept hg (Zax h2 hr2),h3.grown hg h3.size (fun k e=>Vx1 hB (hr k e).1)⟩
theorem ZwQ(w:World)(B:Nat)(hB:w.heap.size≤B)(cd:Code):OwnFrom B (LeftK w cd):=by
 rintro pre X Y row ⟨h1,q,x,h2,h3,h4,h5⟩ hg hr
 have hr2:=fun r e=>(hr r e).2
 exact⟨h1,q,x,h2,h3,h4.kept hg (Zax h4 hr2),h5.grown hg h5.size (fun k e=>Vx1 hB (hr k e).1)⟩
theorem Zvt{t:Tr}{q r:List (Ac×Int)}{x:Ac×Int}(h:seqA t=q++[x]++r)(hx:x.2≠0):mayA t=false∧x.2=8:=by
 have hm:x∈seqA t:=by rw[h];simp
 refine⟨?_,?_⟩
 ·cases hq:mayA t with
  |false=>rfl
  |true=>exact absurd ((Zp6 t).1 hq x hm) hx
 ·rcases Yet t x hm with h|h
  ·exact absurd h hx
  ·exact h
theorem ZcT(F:Nat→Prop)(A:Option Addr)(c:Nat)(ns:List Nd)(root:Int)(w:World)(hr:Row F w A ns)(hc:ns.length≤1000000):
  Calls Tryz.prog 101 #[.agg #[.slice A ns.length c,.int .i64 root]] w fun e w'=>e=.returned (.int .i64 (if mayA ⟨ns,root⟩=true then 0 else 8))∧Below w.heap.size w w':=by
 have hut:=Tryz.underlying24
 obtain⟨ans,hans⟩:∃a:Int,(if mayA ⟨ns,root⟩=true then (0:Int) else 8)=a:=⟨_,rfl⟩
 rw[hans]
 replace hans:=hid hans
 have b1:=Vx0 w (.cells #[.slice A ns.length c,.int .i64 root] 24)
 have c1:=Boxed.new (w.alloc (.cells #[.slice A ns.length c,.int .i64 root] 24)) 28 (.int .i64 0)
 rw[Vx2]at c1
 have b2:=hid (((Zad (w.alloc (.cells #[.slice A ns.length c,.int .i64 root] 24)) (.cells #[.int .i64 0] 28)).block _ (block_lt b1)).trans b1)
 have X2:Hid (Below w.heap.size w ((w.alloc (.cells #[.slice A ns.length c,.int .i64 root] 24)).alloc (.cells #[.int .i64 0] 28))):=hid (by(repeat (first|exact Below.refl _ _|assumption|refine Zag ?_ (by assumption)|refine Zag ?_ (Zad _ _))))
 refine(callsIn_wide (n:=4)).1 ?_
 refine callsIn_of_wp_marks Tryz.func101 rfl trivial ?_ rfl
 simp only[Tryz.ntmps101,Vx7,List.length_cons,List.length_nil,Nat.reduceAdd,Nat.reduceSub,Array.replicate_succ,Array.replicate_zero,List.push_toArray,List.append_toArray,List.nil_append,List.cons_append]
 gi_wp2_with (((with_reducible refine ZaW rfl 24 (.tmp 1) rfl w.heap.size rfl 24 #[.slice A ns.length c,.int .i64 root] (0,0) _ ?_ hut rfl ?_ ?_);exact b2.out;exact Zah))
 refine⟨trivial,callsIn_wide.2 ((Zrm A ns.length c root _).mono ?_)⟩
 rintro e W0 ⟨rfl,hW0⟩
 have hs0:W0.heap.size=w.heap.size+1+1+1:=by rw[hW0];simp
 have c3:Boxed W0 (w.heap.size+1) 28 (.int .i64 0):=by rw[hW0];exact c1.alloc _
 have b3:W0.heap[w.heap.size+1+1]? =some (.cells #[.slice A ns.length c,.int .i64 root] 24 (0,0)):=by
  rw[hW0]
  have:=Vx0 ((w.alloc (.cells #[.slice A ns.length c,.int .i64 root] 24)).alloc (.cells #[.int .i64 0] 28)) (.cells #[.slice A ns.length c,.int .i64 root] 24)
  simp only[Vx2]at this
  exact this
 have Y0:Below w.heap.size w W0:=by rw[hW0];exact X2.out.trans ((Zad _ _).mono X2.out.size)
 clear hW0 b1 b2 c1 X2
 simp only[Vx2]
 gi_wp2
 refine wpIn_rangeFunc_ownG (F:=Fence.wide) rfl (by omega) (gf:=200) (lb:=#[.pointer (some ⟨w.heap.size+1+1,0,none⟩)]) rfl trivial (enters_of Tryz.func200 (by kernel_rfl) rfl)
  (encs:=encA) (Kp:=KeepA w.heap.size (fun b=>b=w.heap.size+1)) (S:=fun xs=>xs=seqA ⟨ns,root⟩) (Sp:=fun pre=>∃r,seqA ⟨ns,root⟩=pre++r) (N:=1000001) (w0:=W0)
  (fun l J Jx W hW hJ hJx hY h0=>ZuF 3 (by omega) (w.heap.size+1+1) w.heap.size l (fun b=>b=w.heap.size+1) F A c ns root w W rfl (Y0.trans (hW.mono Y0.size)) hr hc ((hW.block _ (block_lt b3)).trans b3)
   (fun b hb=>by have:=hW.size;omega) J Jx hJ hY h0)
  (fun h k=>h.trans k) (ZtN Y0.size) (Below.refl _ _) (fun _=>rfl)
  (LoopK w) (LeftK w) (ZwX w _ Y0.size) (fun cd=>ZwQ w _ Y0.size cd)
  ⟨by simp,c3,Y0⟩
  (fun x=>{ tmps:=#[.agg #[.slice A ns.length c,.int .i64 root],.pointer (some ⟨w.heap.size,0,none⟩),.pointer (some ⟨w.heap.size+1,0,none⟩),undef,.int .i64 x.2,.agg #[.slice A ns.length c,.int .i64 root],.func (.func 200) #[] #[.pointer (some ⟨w.heap.size+1+1,0,none⟩)],.agg (acC x.1).toArray,.int .i64 x.2,undef,undef,undef],defers:=[] }) ?assign ?body ?done ?stop
 case assign=>
  rintro l ⟨a,e⟩ W K hK
  dsimp only[encA]
  gi_wp2
  exact hK
 case body=>
  rintro l pre ⟨a,e⟩ W ⟨he0,hE,hB⟩ hlt
  have hcE:=hE.cell
  have hfE:=hE.frozen
  simp only
  by_cases hz:e=0
  ·subst hz
   gi_wp2
   refine⟨KeepsFrom.refl _ _,KeepA.refl _ _ _,?_,hE,hB⟩
   intro z hz
   rcases List.mem_append.1 hz with hz|hz
   ·exact he0 z hz
   ·rw[List.mem_singleton.1 hz]
  ·have hzb:(e !=0)=true:=by rw[bne_iff_ne];exact hz
   replace hz:=hid hz
   gi_wp2
   exact⟨(KeepsOthers.setCell _ _ _).from _,rfl,pre,_,rfl,hz.out,hE.set _,hB.setCell (p:=⟨w.heap.size+1,0,none⟩) (by show _≤w.heap.size+1;omega) _⟩
 case done=>
  rintro D xs W hD hS ⟨he0,hE,hB⟩ hK
  have hm:mayA ⟨ns,root⟩=true:=(Zp6 _).2 (by rw[← hS];exact he0)
  have h0:ans=0:=by rw[← hans.out,hm];rfl
  subst h0
  have hcE:=hE.cell
  have hfE:=hE.frozen
  clear hS he0
  gi_wp2
  have X1:=hE.set (.int .i64 0)
  have X4:Below w.heap.size w (W.setCell ⟨w.heap.size+1,0,none⟩ (.int .i64 0)):=hB.setCell (p:=⟨w.heap.size+1,0,none⟩) (by show _≤w.heap.size+1;omega) _
  have X6:(W.setCell ⟨w.heap.size+1,0,none⟩ (.int .i64 0)).heap[D]? =some (.deferred (some [])):=(Vy3 _ _ _ _ (by show D≠w.heap.size+1;omega)).trans hK
  generalize W.setCell ⟨w.heap.size+1,0,none⟩ (.int .i64 0)=Y at *
  have hD2:=fun (r:Nat) (e:some D=some r)=>(⟨_,by cases e;exact X6,rfl⟩:∃o:Obj,Y.heap[r]? =some o∧o.isCells=false)
  refine⟨by simp,.inl ⟨_,_,rfl,run_takeDeferred X6,?_⟩⟩
  exact⟨_,Zkb rfl _ _ _ _ _ rfl (Zbc Tryz.isAgg28 (X1.kept (grownBy_putObj' Y D _) (Zax X1 hD2))),rfl,X4.trans (belowK_b (w:=w) (Vx8 _) Y D _ _ (by omega) X6 rfl rfl)⟩
 case stop=>
  rintro D cd pre W hD ⟨r,hS⟩ ⟨rfl,q,x,rfl,hx,hE,hB⟩ hK
  obtain⟨hm,hx8⟩:=Zvt hS hx
  have h0:ans=8:=by rw[← hans.out,hm];rfl
  subst h0
  rw[hx8]at hE
  have hD2:=fun (r:Nat) (e:some D=some r)=>(⟨_,by cases e;exact hK,rfl⟩:∃o:Obj,W.heap[r]? =some o∧o.isCells=false)
  gi_wp2
  refine⟨by simp,.inl ⟨_,_,rfl,run_takeDeferred hK,?_⟩⟩
  exact⟨_,Zkb rfl _ _ _ _ _ rfl (Zbc Tryz.isAgg28 (hE.kept (grownBy_putObj' W D _) (Zax hE hD2))),rfl,hB.trans (belowK_b (w:=w) (Vx8 _) W D _ _ (by omega) hK rfl rfl)⟩
end
section
open Go.RowKit Go.Shelf
attribute [local go_sem] Oper.semAt_some
def renAdd:Ren where
 f:=fun x=>match x with
  |25=>250
  |y=>y
 t:=fun x=>match x with
  |22=>128
  |y=>y
 g:=fun x=>x
theorem YgN:Lays7.n25 Tryz.prog renAdd where
 mixed:=by kernel_rfl
 f25:=(by kernel_rfl:Tryz.prog.funcs[250]? =some (Body7.n25 renAdd))
 t22:=Tryz.underlying128
 a22:=Tryz.isAgg128
 z22:=Tryz.sizeOf128
 v22:=Tryz.zeroValue128
 i22:=by kernel_rfl
theorem Zil(x y:Nat)(lo cy:Int)(h1:lo=((x+y) % 18446744073709551616:Nat))(h2:cy=((x+y) / 18446744073709551616:Nat))(w:World):
  (callFunc 250 #[.int .u64 (x:Int),.int .u64 (y:Int),.int .u64 0]).run Tryz.prog w=.ok (.value (.tuple #[.int .u64 lo,.int .u64 cy])) w:=by
 subst h1 h2
 exact Any7.bits_Add64 YgN x y 0 (by decide) w
end
theorem Yc7{t:Tr}{k:Dg}(hm:mayA t=true)(hh:getTB t k=true):acE (getTL t k)=0∧acOf (getTL t k)=getA t k∧(getTL t k).length≤100000:=by
 have hm':=hm
 unfold mayA at hm
 simp only[Bool.and_eq_true]at hm
 have hl:getTL t k=getV (allT t) k:=by unfold getTL;rw[if_pos hh]
 unfold getTB at hh
 simp only[Bool.and_eq_true]at hh
 obtain⟨p,hp,rfl⟩:=ZbC.1 hh.2
 have hv:=ZdZ (Zbp hm.1).1 hp
 rw[hl,hv]
 have hz:=Zc5.1 hm.2 p hp
 refine⟨hz,?_,by have:=Zph hz;omega⟩
 unfold getA inA
 rw[if_pos hm',hv]
theorem Ygz{t:Tr}{k:Dg}(hm:mayA t=true)(hh:getTB t k=false):getA t k=ac0:=by
 have hm':=hm
 unfold mayA at hm
 simp only[Bool.and_eq_true]at hm
 unfold getTB at hh
 rw[hm.1,Bool.true_and]at hh
 unfold getA
 rw[if_pos hm']
 exact ZeX hh
theorem ZcG(F:Nat→Prop)(A:Option Addr)(c:Nat)(ns:List Nd)(root:Int)(k:Dg)(w:World)(hr:Row F w A ns)(hc:ns.length≤1000000):
  Calls Tryz.prog 247 #[.agg #[.slice A ns.length c,.int .i64 root],.agg (k.1.map bv).toArray] w fun e w'=>e=.returned (.tuple #[.agg (acC (getA ⟨ns,root⟩ k)).toArray,.int .i64 (if mayA ⟨ns,root⟩=true then 0 else 8)])∧Below w.heap.size w w':=by
 have hut:=Tryz.underlying24
 have hu:=Tryz.underlying37
 obtain⟨T0,K0,W0⟩:=ZcD w A ns.length c root k 24 37
 have h2:=Vx0 ((w.alloc (.cells #[.slice A ns.length c,.int .i64 root] 24)).alloc (.cells (k.1.map bv).toArray 37)) (.cells (acC ac0).toArray 130)
 have b2:=Zad ((w.alloc (.cells #[.slice A ns.length c,.int .i64 root] 24)).alloc (.cells (k.1.map bv).toArray 37)) (.cells (acC ac0).toArray 130)
 simp only[Vx2]at h2
 have X0:=hid (Zab b2 T0.all)
 replace K0:=hid (Zab b2 K0)
 replace W0:=hid (W0.trans (b2.mono W0.size))
 have jT:=hid (show (Tryz.prog.info? 24).map (·.size)=some ([Value.slice A ns.length c,.int .i64 root]).length from Zah)
 have i1:=hid (ZaF k)
 have r0:=hid (hr.bel W0.out)
 have hb0:=hid Zer
 have n0:=hid (ZbW ac0)
 replace h2:=hid h2
 obtain⟨m,hm⟩:∃m,mayA ⟨ns,root⟩=m:=⟨_,rfl⟩
 obtain⟨hb,hhb⟩:∃hb,getTB ⟨ns,root⟩ k=hb:=⟨_,rfl⟩
 have hC:=fun W hW=>ZcT F A c ns root W hW hc
 have hG:=fun W hW=>ZfQ F A c ns root k W hW hc
 obtain⟨csT,hcs⟩:∃cs,[Value.slice A ns.length c,.int .i64 root]=cs:=⟨_,rfl⟩
 have hcsA: #[Value.slice A ns.length c,.int .i64 root]=csT.toArray:=by rw[← hcs]
 rw[hm]at hC ⊢
 rw[hhb]at hG
 have hno:m=false→getA ⟨ns,root⟩ k=ac0:=fun h=>by unfold getA;rw[hm,h];rfl
 have hyes:m=true→hb=true→acE (getTL ⟨ns,root⟩ k)=0∧acOf (getTL ⟨ns,root⟩ k)=getA ⟨ns,root⟩ k∧(getTL ⟨ns,root⟩ k).length≤100000:=fun h h'=>Yc7 (hm.trans h) (hhb.trans h')
 have hno2:m=true→hb=false→getA ⟨ns,root⟩ k=ac0:=fun h h'=>Ygz (hm.trans h) (hhb.trans h')
 generalize getA ⟨ns,root⟩ k=av at *
 generalize getTL ⟨ns,root⟩ k=v at *
 rw[hcsA]at W0 X0 r0 hC hG K0 h2 ⊢
 rw[hcs]at X0 jT
 replace hC:=hid hC
 replace hG:=hid hG
 clear T0 hcs hcsA hm hhb b2
 have nb:=hid (ZbW av)
 generalize k.1.map bv=dk at *
 cases m with
 |false=>
  obtain rfl:=hno rfl
  simp only[Bool.false_eq_true,if_false]
  simp only[Bool.false_eq_true,if_false]at hC
  clear hno hyes hno2
  go_enter Tryz.func247,Tryz.ntmps247
  go_wp2_with (first
   |(with_reducible refine Zac rfl 130 rfl (acC ac0).toArray ZaZ ?_)
   |(with_reducible refine lDr X0.out jT.out hut ?_))
  refine(hC.out _ r0.out).mono ?_
  rintro e w1 ⟨rfl,hb⟩
  have W1:=hid (W0.out.trans (hb.mono W0.out.size))
  have h3:=hid ((hb.block _ (block_lt h2.out)).trans h2.out)
  clear hb
  go_wp2_with (first
   |((with_reducible refine Zaf rfl 130 _ rfl (acC ac0).toArray [] ?_ ?_ ?_);exact hb0.out;rfl)
   |((with_reducible refine stW 4 13 (w.heap.size+1+1) 130 (acC ac0).toArray ?_ ?_ ?_ ?_ ?_);exact h3.out;exact ZaM;rfl;exact n0.out;intro w5 hg5 hb5 hs5))
  exact Vy0 (Zgv rfl _ _ (w.heap.size+1+1) ac0 rfl hg5) rfl ⟨rfl,W1.out.grown hb5 W1.out.size (fun g e=>by injection e with e;omega)⟩
 |true=>
  simp only[if_true]at hC ⊢
  have yes:=hid (hyes rfl)
  have no:=hid (hno2 rfl)
  clear hno hyes hno2
  go_enter Tryz.func247,Tryz.ntmps247
  go_wp2_with (first
   |(with_reducible refine Zac rfl 130 rfl (acC ac0).toArray ZaZ ?_)
   |(with_reducible refine lDr X0.out jT.out hut ?_))
  refine(hC.out _ r0.out).mono ?_
  rintro e w1 ⟨rfl,hB⟩
  have W1:=hid (W0.out.trans (hB.mono W0.out.size))
  have h3:=hid ((hB.block _ (block_lt h2.out)).trans h2.out)
  have X1:=hid (Zab hB X0.out)
  have K1:=hid (Zab hB K0.out)
  have r1:=hid (r0.out.bel hB)
  clear hB X0 K0 r0 h2
  go_wp2_with (first
   |(with_reducible refine lDr X1.out jT.out hut ?_)
   |(with_reducible refine lDr K1.out i1.out hu ?_))
  refine(hG.out _ r1.out).mono ?_
  rintro e w2 ⟨A1,c1,rfl,o1,hB⟩
  have W2:=hid (W1.out.trans (hB.mono W1.out.size))
  have h4:=hid ((hB.block _ (block_lt h3.out)).trans h3.out)
  have v1:=hid o1.rd
  have v2:=hid o1.cap
  clear hB X1 K1 r1 h3 o1
  cases hb with
  |false=>
   obtain rfl:=no.out (by first|trivial|rfl)
   go_wp2_with (first
    |((with_reducible refine Zaf rfl 130 _ rfl (acC ac0).toArray [] ?_ ?_ ?_);exact hb0.out;rfl)
    |((with_reducible refine stW 4 23 (w.heap.size+1+1) 130 (acC ac0).toArray ?_ ?_ ?_ ?_ ?_);exact h4.out;exact ZaM;rfl;exact n0.out;intro w5 hg5 hb5 hs5))
   exact Vy0 (Zgv rfl _ _ (w.heap.size+1+1) ac0 rfl hg5) rfl ⟨rfl,W2.out.grown hb5 W2.out.size (fun g e=>by injection e with e;omega)⟩
  |true=>
   obtain⟨y1,y2,y3⟩:=yes.out (by first|trivial|rfl)
   have hR:=Zd2 A1 c1 v w2 v1.out v2.out.1 v2.out.2 (by omega)
   rw[y1,y2]at hR
   replace hR:=hid hR
   clear y1 y2 y3
   go_wp2_with fail
   refine hR.out.mono ?_
   rintro e w3 ⟨rfl,hB⟩
   have W3:=hid (W2.out.trans (hB.mono W2.out.size))
   have h5:=hid ((hB.block _ (block_lt h4.out)).trans h4.out)
   clear hB
   go_wp2_with (((with_reducible refine stW 4 26 (w.heap.size+1+1) 130 (acC ac0).toArray ?_ ?_ ?_ ?_ ?_);exact h5.out;exact ZaM;rfl;exact nb.out;intro w5 hg5 hb5 hs5))
   exact Vy0 (Zgv rfl _ _ (w.heap.size+1+1) av rfl hg5) rfl ⟨rfl,W3.out.grown hb5 W3.out.size (fun g e=>by injection e with e;omega)⟩
def setE(t:Tr)(k:Dg)(a:Ac):Int:=if mayA t=true then (if a=ac0 then (if hasP (allT t) k=true then tdropE t k else 0) else tputE t (acB a)) else 8
def setT(t:Tr)(k:Dg)(a:Ac):Tr:=if mayA t=true then (if a=ac0 then (if hasP (allT t) k=true then tdropT t k else t) else tputT t k (acB a)) else ⟨[],0⟩
theorem Zft{t:Tr}(h:mayA t=true):mayT t=true∧heldP (allT t)=true:=by
 unfold mayA at h
 simpa using h
theorem ZdB{t:Tr}{k:Dg}{a:Ac}(ha:a.ok)(hm:mayA t=true)(hl:t.ns.length≤100000):
  mayA (setT t k a)=true∧mayT (setT t k a)=true∧allT (setT t k a)=setP (allT t) k a∧(setT t k a).ns.length≤t.ns.length+257:=by
 obtain⟨h1,h2⟩:=Zft hm
 have key:mayT (setT t k a)=true∧allT (setT t k a)=setP (allT t) k a∧(setT t k a).ns.length≤t.ns.length+257:=by
  unfold setT setP
  rw[if_pos hm]
  by_cases hz:a=ac0
  ·rw[if_pos hz,if_pos hz]
   by_cases hh:hasP (allT t) k=true
   ·rw[if_pos hh]
    have he:tdropE t k=0:=by unfold tdropE;rw[if_pos h1,if_pos hh,if_neg (by omega)]
    obtain⟨⟨ms,e1,e2⟩,e3,e4⟩:=Zd9 he
    exact⟨e3,e4,by rw[e1,Vx3];omega⟩
   ·rw[if_neg hh]
    exact⟨h1,(Zeo (Bool.eq_false_iff.2 hh)).symm,by omega⟩
  ·rw[if_neg hz,if_neg hz]
   have he:tputE t (acB a)=0:=by unfold tputE;rw[if_pos h1,if_pos (Ztn a),if_neg (by omega)]
   obtain⟨⟨ms,e1,e2⟩,e3,e4⟩:=Zcp (k:=k) he
   exact⟨e3,e4,by rw[e1,Vx3];omega⟩
 refine⟨?_,key⟩
 unfold mayA
 rw[key.1,key.2.1,ZuN h2 ha]
 rfl
theorem Zt0{t:Tr}{k:Dg}{a:Ac}(hm:mayA t=false):setT t k a=⟨[],0⟩:=by unfold setT;rw[hm];rfl
theorem Znh{t:Tr}(h:mayT t=true):∀x∈t.ns,x.v.length≤1000000:=fun x hx=>Vx1 (ZjZ h x hx) (by decide)
theorem Ycu(w:World)(A:Option Addr)(n c:Nat)(root:Int)(k:Dg)(a:Ac)(t u v x:TypeId):
  ((((w.alloc (.cells #[.slice A n c,.int .i64 root] t)).alloc (.cells (k.1.map bv).toArray u)).alloc (.cells (acC a).toArray v)).alloc (.cells zTrC x)).rangeAt w.heap.size 0 [.slice A n c,.int .i64 root]∧
  ((((w.alloc (.cells #[.slice A n c,.int .i64 root] t)).alloc (.cells (k.1.map bv).toArray u)).alloc (.cells (acC a).toArray v)).alloc (.cells zTrC x)).rangeAt (w.heap.size+1) 0 (k.1.map bv)∧
  ((((w.alloc (.cells #[.slice A n c,.int .i64 root] t)).alloc (.cells (k.1.map bv).toArray u)).alloc (.cells (acC a).toArray v)).alloc (.cells zTrC x)).rangeAt (w.heap.size+1+1) 0 (acC a)∧
  ((((w.alloc (.cells #[.slice A n c,.int .i64 root] t)).alloc (.cells (k.1.map bv).toArray u)).alloc (.cells (acC a).toArray v)).alloc (.cells zTrC x)).heap[w.heap.size+1+1+1]? =some (.cells zTrC x (0,0))∧
  Below w.heap.size w ((((w.alloc (.cells #[.slice A n c,.int .i64 root] t)).alloc (.cells (k.1.map bv).toArray u)).alloc (.cells (acC a).toArray v)).alloc (.cells zTrC x)):=by
 obtain⟨h1,h2,h3⟩:=ZcD w A n c root k t u
 have h4:=Zae (Vx0 ((w.alloc (.cells #[.slice A n c,.int .i64 root] t)).alloc (.cells (k.1.map bv).toArray u)) (.cells (acC a).toArray v))
 have h5:=Vx0 (((w.alloc (.cells #[.slice A n c,.int .i64 root] t)).alloc (.cells (k.1.map bv).toArray u)).alloc (.cells (acC a).toArray v)) (.cells zTrC x)
 simp only[Vx2]at h4 h5
 exact⟨Zab (Zad _ _) (Zab (Zad _ _) h1.all),Zab (Zad _ _) (Zab (Zad _ _) h2),Zab (Zad _ _) h4,h5,Zag (Zag h3 (Zad _ _)) (Zad _ _)⟩
theorem YaU{T:Tr}{A:Option Addr}{c:Nat}{w0 w:World}{B:Nat}{e:Int}(ho:OwnR 106 w B A c T.ns)(hB:w0.heap.size≤B)(hb:Below w0.heap.size w0 w):
  ∃A' c',(Ending.returned (.tuple #[.agg #[.slice A T.ns.length c,.int .i64 T.root],.int .i64 e]))=.returned (.tuple #[.agg #[.slice A' T.ns.length c',.int .i64 T.root],.int .i64 e])∧OwnR 106 w w0.heap.size A' c' T.ns∧Below w0.heap.size w0 w:=⟨A,c,rfl,ho.base hB,hb⟩
theorem Zed(F:Nat→Prop)(A:Option Addr)(c:Nat)(ns:List Nd)(root:Int)(k:Dg)(a:Ac)(w:World)(ha:a.ok)(hr:Row F w A ns)(hc:ns.length≤1000000):
  Calls Tryz.prog 248 #[.agg #[.slice A ns.length c,.int .i64 root],.agg (k.1.map bv).toArray,.agg (acC a).toArray] w fun e w'=>∃A' c',e=.returned (.tuple #[.agg #[.slice A' (setT ⟨ns,root⟩ k a).ns.length c',.int .i64 (setT ⟨ns,root⟩ k a).root],.int .i64 (setE ⟨ns,root⟩ k a)])∧OwnR 106 w' w.heap.size A' c' (setT ⟨ns,root⟩ k a).ns∧Below w.heap.size w w':=by
 have hut:=Tryz.underlying24
 have hu:=Tryz.underlying37
 have hua:=Tryz.underlying130
 obtain⟨X0,K0,A0,z0,W0⟩:=Ycu w A ns.length c root k a 24 37 130 24
 replace X0:=hid X0
 replace K0:=hid K0
 replace A0:=hid A0
 replace z0:=hid z0
 replace W0:=hid W0
 have jT:=hid (show (Tryz.prog.info? 24).map (·.size)=some ([Value.slice A ns.length c,.int .i64 root]).length from Zah)
 have i1:=hid (ZaF k)
 have ia:=hid (show (Tryz.prog.info? 130).map (·.size)=some (acC a).length from ZaM)
 have hbt:=hid ZbU
 have r0:=hid (hr.bel W0.out)
 obtain⟨m,hm⟩:∃m,mayA ⟨ns,root⟩=m:=⟨_,rfl⟩
 obtain⟨zb,hzb⟩:∃b,decide (a=ac0)=b:=⟨_,rfl⟩
 have hC:=fun W hW=>ZcT F A c ns root W hW hc
 rw[hm]at hC
 have hZ:=hid (fun W=>Zn2 a ha zb hzb W)
 cases m with
 |false=>
  have eE:setE ⟨ns,root⟩ k a=8:=by unfold setE;rw[hm];rfl
  rw[Zt0 hm,eE]
  simp only[Bool.false_eq_true,if_false]at hC
  replace hC:=hid hC
  clear eE hm hzb hr
  generalize k.1.map bv=dk at *
  generalize acC a=ca at *
  go_enter Tryz.func248,Tryz.ntmps248
  go_wp2_with (first
   |(with_reducible refine Zac rfl 24 rfl zTrC Zas ?_)
   |(with_reducible refine lDr X0.out jT.out hut ?_))
  refine(hC.out _ r0.out).mono ?_
  rintro e w1 ⟨rfl,hB⟩
  have W1:=hid (W0.out.trans (hB.mono W0.out.size))
  have z1:=hid ((hB.block _ (block_lt z0.out)).trans z0.out)
  clear hB
  go_wp2_with (first
   |((with_reducible refine Zaf rfl 24 _ rfl zTrC [] ?_ ?_ ?_);exact hbt.out;rfl)
   |((with_reducible refine stW 6 15 (w.heap.size+1+1+1) 24 zTrC ?_ ?_ ?_ ?_ ?_);exact z1.out;exact Zah;rfl;exact ZeP;intro w9 hg9 hb9 hs9))
  exact Vy0 (Zce Tryz.results248 _ _ (w.heap.size+1+1+1) none 0 0 0 rfl hg9) rfl ⟨none,0,rfl,OwnR.nil _ _,W1.out.grown hb9 W1.out.size (fun g e=>by injection e with e;omega)⟩
 |true=>
  simp only[if_true]at hC
  replace hC:=hid hC
  have hmT:=(Zft hm).1
  cases zb with
  |false=>
   have hne:a≠ac0:=of_decide_eq_false hzb
   have eT:setT ⟨ns,root⟩ k a=tputT ⟨ns,root⟩ k (acB a):=by unfold setT;rw[if_pos hm,if_neg hne]
   have eE:setE ⟨ns,root⟩ k a=tputE ⟨ns,root⟩ (acB a):=by unfold setE;rw[if_pos hm,if_neg hne]
   rw[eT,eE]
   have hBy:=hid (fun W=>ZhD a ha W)
   have hP:=hid (fun V d W (h1:Row F W A ns) (h2:Rd W V (acB a)) (h3:(acB a).length≤d) (h4:d≤maxLen)=>Zdr F A V c d ns root k (acB a) W h1 hc h2 h3 h4)
   clear eT eE hm hmT hzb hr hne
   generalize tputT ⟨ns,root⟩ k (acB a)=T at *
   generalize tputE ⟨ns,root⟩ (acB a)=ee at *
   generalize acB a=v at *
   generalize k.1.map bv=dk at *
   generalize acC a=ca at *
   go_enter Tryz.func248,Tryz.ntmps248
   go_wp2_with (first
    |(with_reducible refine Zac rfl 24 rfl zTrC Zas ?_)
    |(with_reducible refine lDr X0.out jT.out hut ?_))
   refine(hC.out _ r0.out).mono ?_
   rintro e w1 ⟨rfl,hB⟩
   have W1:=hid (W0.out.trans (hB.mono W0.out.size))
   have z1:=hid ((hB.block _ (block_lt z0.out)).trans z0.out)
   have X1:=hid (Zab hB X0.out)
   have K1:=hid (Zab hB K0.out)
   have A1:=hid (Zab hB A0.out)
   have r1:=hid (r0.out.bel hB)
   clear hB X0 K0 A0 r0 z0
   go_wp2_with ((with_reducible refine lDr A1.out ia.out hua ?_))
   refine(hZ.out _).mono ?_
   rintro e w2 ⟨rfl,hB⟩
   have W2:=hid (W1.out.trans (hB.mono W1.out.size))
   have z2:=hid ((hB.block _ (block_lt z1.out)).trans z1.out)
   have X2:=hid (Zab hB X1.out)
   have K2:=hid (Zab hB K1.out)
   have A2:=hid (Zab hB A1.out)
   have r2:=hid (r1.out.bel hB)
   clear hB X1 K1 A1 r1 z1
   go_wp2
   refine wp_region_noPanic ?_
   refine wp_region_held_drew (S:=fun W=>Below w.heap.size w W∧W.rangeAt w.heap.size 0 [Value.slice A ns.length c,.int .i64 root]∧W.rangeAt (w.heap.size+1) 0 dk∧W.rangeAt (w.heap.size+1+1) 0 ca) (by kernel_rfl) ?_ (fun hHeld=>?_)
   ·exact⟨W2.out.trans ((Zao w2).mono W2.out.size),Zab (Zao w2) X2.out,Zab (Zao w2) K2.out,Zab (Zao w2) A2.out⟩
   refine' tkM 0 rfl (fun _ h=>h.2.1) hut jT.out ?_
   refine' tkM 1 rfl (fun _ h=>h.2.2.1) hu i1.out ?_
   refine' tkM 2 rfl (fun _ h=>h.2.2.2) hua ia.out ?_
   simp only[sQ]
   refine rdH 3 rfl fun K hK=>?_
   go_simp
   refine(hBy.out _).mono ?_
   rintro e v1 ⟨A3,c3,rfl,o3,hB⟩
   have r3:=hid o3.rd
   have p3:=hid o3.cap
   have e6:=hid ((hB.block _ (block_lt (show w2.drew.heap[w.heap.size+1+1+1]? =_ from z2.out))).trans z2.out)
   have l6:=hid (block_lt e6.out)
   have q3:=hid ((r2.out.bel (Zao w2)).bel hB)
   go_wp2_with fail
   refine hK.out _ _ (⟨hHeld.1.trans (hB.mono hHeld.1.size),Zab hB hHeld.2.1,Zab hB hHeld.2.2.1,Zab hB hHeld.2.2.2⟩) fun hHeld=>?_
   clear hK K
   try simp only[sQ]
   refine rdH 4 rfl fun K hK=>?_
   go_simp
   refine(hP.out _ _ _ q3.out r3.out p3.out.1 p3.out.2).mono ?_
   rintro e v2 ⟨A4,c4,rfl,o4,hB⟩
   have e7:=hid ((hB.block _ (block_lt e6.out)).trans e6.out)
   have m4:=hid hHeld.1.size
   have o4:=hid o4
   go_wp2_with fail
   refine hK.out _ _ (⟨hHeld.1.trans (hB.mono hHeld.1.size),Zab hB hHeld.2.1,Zab hB hHeld.2.2.1,Zab hB hHeld.2.2.2⟩) fun hHeld=>?_
   clear hK K
   try simp only[sQ]
   refine' tkW 5 6 ?_
   simp only[sQ]
   refine rdH 7 rfl fun K hK=>?_
   refine Zaj rfl 24 (.tmp 6) (.tmp 25) rfl (w.heap.size+1+1+1) _ rfl rfl 24 zTrC e7.out Zah rfl (Zat _ _ _ _) ?_
   intro w9 d9 hG9
   refine hK.out _ _ (⟨hHeld.1.grown hG9 hHeld.1.size (fun g e=>by injection e with e;omega),Zak hHeld.2.1 (fun hb=>hG9.block _ hb (by first|(simp;done)|(simp;omega))),Zak hHeld.2.2.1 (fun hb=>hG9.block _ hb (by first|(simp;done)|(simp;omega))),Zak hHeld.2.2.2 (fun hb=>hG9.block _ hb (by first|(simp;done)|(simp;omega)))⟩) fun hHeld=>?_
   clear hK K
   try simp only[sQ]
   refine' tkP 8 rfl ?_
   simp only[sQ]
   refine dnN ?_
   go_wp2
   exact Vy0 (Zce Tryz.results248 _ _ (w.heap.size+1+1+1) A4 T.ns.length c4 T.root rfl d9) rfl (YaU (o4.out.keptAtP hG9 l6.out l6.out) m4.out hHeld.1)
  |true=>
   have hz0:a=ac0:=of_decide_eq_true hzb
   have hW:=hid (fun W hW=>ZeC F A c ns root W hW hc (Znh hmT))
   obtain⟨hs,hhs⟩:∃b,hasP (allT ⟨ns,root⟩) k=b:=⟨_,rfl⟩
   have hD:=fun W hW=>ZfG F A c ns root k W hW hc
   have eD:tdropE ⟨ns,root⟩ k=if hs=true then (if 261844<ns.length then 9 else 0) else 6:=by unfold tdropE;rw[if_pos hmT,hhs]
   have eT:setT ⟨ns,root⟩ k a=if hs=true then tdropT ⟨ns,root⟩ k else ⟨ns,root⟩:=by unfold setT;rw[if_pos hm,if_pos hz0,hhs]
   have eE:setE ⟨ns,root⟩ k a=if hs=true then tdropE ⟨ns,root⟩ k else 0:=by unfold setE;rw[if_pos hm,if_pos hz0,hhs]
   rw[eT,eE]
   have hd6:hs=true→(tdropE ⟨ns,root⟩ k==6)=false:=fun h=>by
    rw[eD,if_pos h]
    split<;>rfl
   have hd7:hs=false→tdropE ⟨ns,root⟩ k=6:=fun h=>by rw[eD,h];rfl
   clear eT eE hm hmT hzb hr hz0 eD hhs
   generalize tdropE ⟨ns,root⟩ k=de at *
   generalize tdropT ⟨ns,root⟩ k=T at *
   replace hD:=hid hD
   generalize k.1.map bv=dk at *
   generalize acC a=ca at *
   replace hd6:=hid hd6
   replace hd7:=hid hd7
   go_enter Tryz.func248,Tryz.ntmps248
   go_wp2_with (first
    |(with_reducible refine Zac rfl 24 rfl zTrC Zas ?_)
    |(with_reducible refine lDr X0.out jT.out hut ?_))
   refine(hC.out _ r0.out).mono ?_
   rintro e w1 ⟨rfl,hB⟩
   have W1:=hid (W0.out.trans (hB.mono W0.out.size))
   have z1:=hid ((hB.block _ (block_lt z0.out)).trans z0.out)
   have X1:=hid (Zab hB X0.out)
   have K1:=hid (Zab hB K0.out)
   have A1:=hid (Zab hB A0.out)
   have r1:=hid (r0.out.bel hB)
   clear hB X0 K0 A0 r0 z0
   go_wp2_with ((with_reducible refine lDr A1.out ia.out hua ?_))
   refine(hZ.out _).mono ?_
   rintro e w2 ⟨rfl,hB⟩
   have W2:=hid (W1.out.trans (hB.mono W1.out.size))
   have z2:=hid ((hB.block _ (block_lt z1.out)).trans z1.out)
   have X2:=hid (Zab hB X1.out)
   have K2:=hid (Zab hB K1.out)
   have r2:=hid (r1.out.bel hB)
   clear hB X1 K1 A1 r1 z1
   go_wp2_with (first
    |(with_reducible refine lDr X2.out jT.out hut ?_)
    |(with_reducible refine lDr K2.out i1.out hu ?_))
   refine(hD.out _ r2.out).mono ?_
   rintro e w3 ⟨A3,c3,rfl,o3,hB⟩
   have W3:=hid (W2.out.trans (hB.mono W2.out.size))
   have z3:=hid ((hB.block _ (block_lt z2.out)).trans z2.out)
   have X3:=hid (Zab hB X2.out)
   have r3:=hid (r2.out.bel hB)
   have m3:=hid W2.out.size
   replace o3:=hid o3
   have e3:=hid (Vx0 w3 (.cells zTrC 24))
   have j3:=hid (show (Tryz.prog.info? 24).map (·.size)=some ([Value.slice A3 T.ns.length c3,.int .i64 T.root]).length from Zah)
   have l2:=hid (block_lt z2.out)
   clear hB X2 K2 r2 z2
   cases hs with
   |false=>
    obtain rfl:=hd7.out (by first|trivial|rfl)
    simp only[Bool.false_eq_true,if_false]
    go_wp2_with (first
     |(with_reducible refine Zac rfl 24 rfl zTrC Zas ?_)
     |((with_reducible refine stW 9 31 w3.heap.size 24 zTrC ?_ ?_ ?_ ?_ ?_);exact e3.out;exact Zah;rfl;exact Zat A3 T.ns.length c3 T.root;intro w4 hgS hbS hsS;have Y4:=hid (Zan rfl hbS);have X4:=hid (Zab Y4.out X3.out);have W4:=hid (W3.out.trans (Y4.out.mono W3.out.size));have z4:=hid ((Y4.out.block _ (block_lt z3.out)).trans z3.out);have r4:=hid (r3.out.bel Y4.out);clear hgS hbS hsS)
     |(with_reducible refine lDr X4.out jT.out hut ?_))
    refine(hW.out _ r4.out).mono ?_
    rintro e w5 ⟨A5,c5,rfl,o5,hB⟩
    have W5:=hid (W4.out.trans (hB.mono W4.out.size))
    have z5:=hid ((hB.block _ (block_lt z4.out)).trans z4.out)
    have m5:=hid W4.out.size
    have l4:=hid (block_lt z4.out)
    replace o5:=hid o5
    clear hB
    go_wp2_with (((with_reducible refine stW 6 36 (w.heap.size+1+1+1) 24 zTrC ?_ ?_ ?_ ?_ ?_);exact z5.out;exact Zah;rfl;exact Zat A5 ns.length c5 root;intro w9 d9 hG9 hs9))
    exact Vy0 (Zce Tryz.results248 _ _ (w.heap.size+1+1+1) A5 ns.length c5 root rfl d9) rfl (YaU (T:=⟨ns,root⟩) (o5.out.keptAtP hG9 l4.out l4.out) m5.out (W5.out.grown hG9 W5.out.size (fun g e=>by injection e with e;omega)))
   |true=>
    have hd8:=hd6.out (by first|trivial|rfl)
    simp only[if_true]
    go_wp2_with (first
     |(with_reducible refine Zac rfl 24 rfl zTrC Zas ?_)
     |((with_reducible refine stW 9 31 w3.heap.size 24 zTrC ?_ ?_ ?_ ?_ ?_);exact e3.out;exact Zah;rfl;exact Zat A3 T.ns.length c3 T.root;intro w4 hgS hbS hsS;have Y4:=hid (Zan rfl hbS);have q4:=hid (Zae (l:=[Value.slice A3 T.ns.length c3,.int .i64 T.root]) hgS);have W4:=hid (W3.out.trans (Y4.out.mono W3.out.size));have z4:=hid ((Y4.out.block _ (block_lt z3.out)).trans z3.out);have o4:=hid (o3.out.bel Y4.out);clear hgS hbS hsS)
     |(with_reducible refine lDr q4.out j3.out hut ?_)
     |((with_reducible refine stW 6 37 (w.heap.size+1+1+1) 24 zTrC ?_ ?_ ?_ ?_ ?_);exact z4.out;exact Zah;rfl;exact Zat A3 T.ns.length c3 T.root;intro w9 d9 hG9 hs9))
    exact Vy0 (Zce Tryz.results248 _ _ (w.heap.size+1+1+1) A3 T.ns.length c3 T.root rfl d9) rfl (YaU (o4.out.keptAtP hG9 l2.out l2.out) m3.out (W4.out.grown hG9 W4.out.size (fun g e=>by injection e with e;omega)))
end Go.Proofs.YtnnclggeifnomaaGreatDoor
