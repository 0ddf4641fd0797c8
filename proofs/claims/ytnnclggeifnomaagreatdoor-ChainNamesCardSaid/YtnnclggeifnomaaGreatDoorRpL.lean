import Derived.Test.YtnnclggeifnomaaGreatDoorCatB
import Derived.Test.YtnnclggeifnomaaGreatDoorNumX
import Derived.Test.YtnnclggeifnomaaGreatDoorTxM
set_option maxRecDepth 100000
set_option linter.all false
set_option maxHeartbeats 4000000
namespace Go.Proofs.YtnnclggeifnomaaGreatDoor
open Go.RowKit
theorem ZvW(x:Rc)(w:World):Calls Tryz.prog 259 #[.int .u8 (x.k.toNat:Int),.int .i64 x.c] w fun e w'=>e=.returned (.bool (mayR x))∧w'=w:=by
 obtain⟨k1,h1⟩:∃b,((x.k.toNat:Int)==1)=b:=⟨_,rfl⟩
 obtain⟨k2,h2⟩:∃b,((x.k.toNat:Int)==2)=b:=⟨_,rfl⟩
 obtain⟨z,hz⟩:∃b,(x.c==0)=b:=⟨_,rfl⟩
 obtain⟨o,ho⟩:∃b,(x.c==151)=b:=⟨_,rfl⟩
 obtain⟨p,hp⟩:∃b,(x.c==150)=b:=⟨_,rfl⟩
 have e1:(x.k=1)↔k1=true:=by rw[← h1,beq_iff_eq,←UInt8.toNat_inj];show x.k.toNat=1↔_;omega
 have e2:(x.k=2)↔k2=true:=by rw[← h2,beq_iff_eq,←UInt8.toNat_inj];show x.k.toNat=2↔_;omega
 have e3:(x.c=0)↔z=true:=by rw[← hz,beq_iff_eq]
 have e4:(x.c=151)↔o=true:=by rw[← ho,beq_iff_eq]
 have e5:(x.c=150)↔p=true:=by rw[← hp,beq_iff_eq]
 have hM:mayR x=if k1 then (z||o) else (k2&&(z||o||p)):=by
  unfold mayR
  simp only[e1,e2,e3,e4,e5]
  cases k1<;>cases k2<;>cases z<;>cases o<;>cases p<;>rfl
 have hx12:¬(k1=true∧k2=true):=fun h=>by have a:=e1.2 h.1;have b:=e2.2 h.2;rw[a]at b;exact absurd b (by decide)
 rw[hM]
 clear hM e1 e2 e3 e4 e5
 generalize x.k.toNat=vk at *
 generalize x.c=vc at *
 cases k1<;>cases k2
 case true.true=>exact absurd ⟨rfl,rfl⟩ hx12
 all_goals
  clear hx12
  cases z<;>cases o<;>cases p
 all_goals
  go_enter Tryz.func259,Tryz.ntmps259
  go_wp2
  go_ret
  exact⟨rfl,rfl⟩
theorem ZxK(x:Rc)(m:Bool)(hm:mayR x=m)(w:World):Calls Tryz.prog 259 #[.int .u8 (x.k.toNat:Int),.int .i64 x.c] w fun e w'=>e=.returned (.bool m)∧w'=w:=hm▸ZvW x w
theorem Zdq(x:Rc)(w:World):Calls Tryz.prog 234 #[.agg (rcC x).toArray] w fun e w'=>e=.returned (.int .i64 (rcE x))∧Below w.heap.size w w':=by
 have hux:=Tryz.underlying148
 have B0:=BoxR.new w x 148
 have W0:=hid (Zad w (.cells (rcC x).toArray 148))
 have c0:=B0.k
 have c1:=B0.c
 unfold bv at c0
 obtain⟨m,hm⟩:∃m,mayR x=m:=⟨_,rfl⟩
 have hM:=hid (fun W=>ZxK x m hm W)
 have hE:rcE x=if m=true then 0 else 8:=by unfold rcE;rw[hm]
 rw[hE]
 clear B0 hm hE
 generalize rcC x=cx at *
 generalize x.k.toNat=vk at *
 generalize x.c=vc at *
 cases m
 all_goals
  go_enter Tryz.func234,Tryz.ntmps234
  go_wp2_with fail
  refine(hM.out _).mono ?_
  rintro e w1 ⟨rfl,rfl⟩
  go_wp2
  go_ret
  exact⟨rfl,W0.out⟩
theorem Yhg(x:Rc):rcB x=[[x.k],x.i.1,be 2 x.c.toNat].flatten:=by simp[rcB]
theorem Zdp(x:Rc)(w:World):Calls Tryz.prog 192 #[.agg (rcC x).toArray] w fun e w'=>∃A c,e=.returned (.tuple #[.slice A (rcO x).length c,.int .i64 (rcE x)])∧Own 5 w' w.heap.size A c (rcO x)∧Below w.heap.size w w':=by
 have hux:=Tryz.underlying148
 have hsl:=ZaA
 have B0:=BoxR.new w x 148
 have W0:=hid (Zad w (.cells (rcC x).toArray 148))
 have X0:=hid B0.all
 have jx:=hid (ZdM x)
 have hC:=hid (fun W=>Zdq x W)
 obtain⟨m,hm⟩:∃m,mayR x=m:=⟨_,rfl⟩
 have hE:rcE x=if m=true then 0 else 8:=by unfold rcE;rw[hm]
 have hO:rcO x=if m=true then rcB x else []:=by unfold rcO;rw[hm]
 rw[hE]at hC
 rw[hE,hO]
 cases m with
 |false=>
  simp only[Bool.false_eq_true,if_false]at hC ⊢
  clear B0 hm hE hO
  generalize rcC x=cx at *
  go_enter Tryz.func192,Tryz.ntmps192
  go_wp2_with ((with_reducible refine lDr X0.out jx.out hux ?_))
  refine(hC.out _).mono ?_
  rintro e w1 ⟨rfl,hb⟩
  go_wp2
  go_ret2
  exact⟨none,0,rfl,Own.nil _ _,W0.out.trans (hb.mono W0.out.size)⟩
 |true=>
  simp only[if_true]at hC ⊢
  have hcs:=ZpW hm
  have p1:putE x.c.toNat 2=0:=by unfold putE;rw[if_pos (by decide)];exact if_pos (by rcases hcs with h|h|h<;>rw[h]<;>decide)
  have d1:=hid (fun W=>Zfr x.c.toNat x.c 2 (be 2 x.c.toNat) 0 W (by rcases hcs with h|h|h<;>rw[h]<;>rfl) (by rcases hcs with h|h|h<;>rw[h]<;>decide) (by unfold putB;rw[if_pos p1];rfl) p1)
  have l1:=Zav 2 x.c.toNat
  have wc:IntKind.u64.wrap x.c=x.c:=by rcases hcs with h|h|h<;>rw[h]<;>rfl
  have lb:=Zex x
  have hz:=Yhg x
  have c0:=B0.k
  have c1:=B0.c
  have i1:=hid (ZbB B0.i)
  unfold bv at c0
  have li:=x.i.2
  rw[lb]
  rw[hz]at lb ⊢
  obtain⟨vk,hk⟩:∃v,x.k=v:=⟨_,rfl⟩
  rw[hk]at c0 lb ⊢
  clear B0 hm hE hO hcs p1 hz hk
  rw[l1]at d1
  generalize be 2 x.c.toNat=y at *
  have hCt:=hid (fun A c W (h:Rds W A [[vk],x.i.1,y])=>Zjc A c [[vk],x.i.1,y] W h (by simp) (by rw[lb];decide))
  rw[lb]at hCt
  generalize rcC x=cx at *
  generalize x.i.1=zi at *
  generalize x.c=vc at *
  obtain⟨zz,hzz⟩:∃z,[[vk],zi,y].flatten=z:=⟨_,rfl⟩
  rw[hzz]at hCt ⊢
  clear hzz lb
  go_enter Tryz.func192,Tryz.ntmps192
  go_wp2_with ((with_reducible refine lDr X0.out jx.out hux ?_))
  refine(hC.out _).mono ?_
  rintro e w1 ⟨rfl,hb⟩
  have W1:=hid (W0.out.trans (hb.mono W0.out.size))
  have k1:=hid ((hb.cell (Vx5 _ _ c0)).trans c0)
  have c2:=(hb.cell (Vx5 _ _ c1)).trans c1
  have I1:=hid (i1.out.bel hb)
  clear hb c0 c1
  go_wp2_with fail
  refine(d1.out _).mono ?_
  rintro e w2 ⟨A2,k2,rfl,o2,hb⟩
  have W2:=hid (W1.out.trans (hb.mono W1.out.size))
  have c3:=hid ((hb.cell (Vx5 _ _ k1.out)).trans k1.out)
  have I2:=hid (I1.out.bel hb)
  have r2:=hid o2.rd
  have v2:=hid o2.cap
  rw[l1]at v2
  clear hb c2 k1 I1 o2 X0
  go_wp2
  refine rgB fun hHeld=>?_
  refine' tkP 0 rfl ?_
  refine' tkC 1 rfl c3.out ?_
  refine' tkP 3 rfl ?_
  simp only[sQ]
  refine' tkH 4 rfl (Yb2 (by rfl) _ _ _ _ _ rfl _ _ _ _ _ (hsl ⟨w.heap.size,1,none⟩) rfl rfl rfl rfl) ?_
  simp only[sQ]
  refine' tkP 5 rfl ?_
  simp only[sQ]
  refine rdH 2 rfl fun K hK=>?_
  refine Zsv rfl _ rfl vk rfl ?_
  intro g2 v2w e2 J2 E2
  refine hK.out _ _ (hHeld.trans (E2.mono hHeld.size)) fun hHeld=>?_
  clear hK K
  try simp only[sQ]
  refine rdH 6 rfl fun K hK=>?_
  refine ZfB rfl 3 _ rfl [(some ⟨g2,0,none⟩,1,[vk]),(some ⟨w.heap.size,1,none⟩,32,zi),(A2,k2,y)] [.slice (some ⟨g2,0,none⟩) 1 1,.slice (some ⟨w.heap.size,1,none⟩) 32 32,.slice A2 2 k2] (by simp[slV,li,l1]) rfl (by decide) (by decide) rfl ?_ ?_
  ·intro p hp
   simp at hp
   rcases hp with rfl|rfl|rfl
   ·exact⟨J2,Vx8 _,by show 1≤maxLen;decide⟩
   ·exact⟨I2.out.bel hHeld,Nat.le_of_eq li,by show 32≤maxLen;decide⟩
   ·exact⟨r2.out.bel hHeld,by show y.length≤k2;rw[l1];exact v2.out.1,v2.out.2⟩
  intro g6 v6 e6 J6 E6
  refine hK.out _ _ (hHeld.trans (E6.mono hHeld.size)) fun hHeld=>?_
  clear hK K
  try simp only[sQ]
  refine rdH 7 rfl fun K hK=>?_
  go_simp
  refine(hCt.out _ _ _ J6).mono ?_
  rintro e v7 ⟨A7,c7,rfl,o7,hB⟩
  have S7:=hid (Vx1 W2.out.size hHeld.size)
  go_wp2_with fail
  refine kB hK hHeld hB fun hHeld=>?_
  clear hK K
  try simp only[sQ]
  refine' tkW 8 9 ?_
  simp only[sQ]
  refine dnN ?_
  go_wp2
  go_ret2
  exact⟨_,_,rfl,o7.base S7.out,W2.out.trans (hHeld.mono W2.out.size)⟩
theorem Zyo(x:Dp):bodyD x=[be 8 x.n,x.t.1,be 8 x.a].flatten:=by simp[bodyD]
theorem Yhy(k:Dg):(Tryz.prog.info? 37).map (·.size)=some (k.1.map bv).toArray.size:=by rw[Vx7,Vx6,k.2];exact Zai
theorem YkG(k:Dg):z32.size=(k.1.map bv).toArray.size:=by rw[z32_size];simp[k.2]
theorem YiQ(k:Dg):(k.1.map bv).toArray.all (·.oneCell')=true:=all_oneCell_toArray fun u hu=>by
 obtain⟨x,-,rfl⟩:=List.mem_map.1 hu
 rfl
theorem ZeV(x:Dp)(hx:x.ok)(w:World)(hT:Tab w):Calls Tryz.prog 185 #[.agg (dpC x).toArray] w fun e w'=>e=.returned (.agg ((idD x).1.map bv).toArray)∧Below w.heap.size w w':=by
 have hsl:=ZaA
 have hu:=Tryz.underlying37
 have B0:=BoxD.new w x 142
 have b0:=Zad w (.cells (dpC x).toArray 142)
 have b1:=Zad (w.alloc (.cells (dpC x).toArray 142)) (.cells z32 37)
 have h1:=Vx0 (w.alloc (.cells (dpC x).toArray 142)) (.cells z32 37)
 rw[Vx2]at h1
 have W1:=hid (b0.trans (b1.mono b0.size))
 have B1:=B0.bel b1
 have r1:=hid (ZbB B1.t)
 have c1:=B1.n
 have c2:=hid B1.a
 have lt:=x.t.2
 have m1:=Zav 8 x.n
 have m2:=Zav 8 x.a
 have hB:=Zyo x
 have p0:∀n,n<18446744073709551616→putE n 8=0:=fun n hn=>by unfold putE;rw[if_pos (by decide)];exact if_pos hn
 have d1:=hid (fun W=>Zfr x.n _ 8 (be 8 x.n) 0 W rfl hx.1 (by unfold putB;rw[if_pos (p0 _ hx.1)];rfl) (p0 _ hx.1))
 have d2:=hid (fun W=>Zfr x.a _ 8 (be 8 x.a) 0 W rfl hx.2 (by unfold putB;rw[if_pos (p0 _ hx.2)];rfl) (p0 _ hx.2))
 have hlen:[be 8 x.n,x.t.1,be 8 x.a].flatten.length=48:=by simp[Zav,lt]
 have hCt:=hid (fun A c W (h:Rds W A [be 8 x.n,x.t.1,be 8 x.a])=>Zjc A c [be 8 x.n,x.t.1,be 8 x.a] W h (by simp) (by rw[hlen];decide))
 rw[hlen]at hCt
 have hO:=hid (fun g W (h:Rds W (some ⟨g,0,none⟩) [bodyD x]) hT=>ZeO 9 g (bodyD x) W h (by rw[hB,hlen];decide) hT)
 have hD:sha256 (tagB 9 [bodyD x])=(idD x).1:=rfl
 rw[hD]at hO
 rw[← hB]at hCt hlen
 have js:=hid (Yhy (idD x))
 have zs:=hid (YkG (idD x))
 have os:=hid (YiQ (idD x))
 have hlow:=hid hT.low
 replace hT:=hid hT
 replace h1:=hid h1
 clear B0 B1 b0 b1 hD hB p0
 rw[m1]at d1
 rw[m2]at d2
 generalize (idD x).1.map bv=dk at *
 generalize dpC x=cx at *
 generalize bodyD x=zb at *
 generalize be 8 x.n=y1 at *
 generalize be 8 x.a=y2 at *
 generalize x.t.1=zt at *
 generalize x.n=vn at *
 generalize x.a=va at *
 go_enter Tryz.func185,Tryz.ntmps185
 go_wp2_with ((with_reducible refine Zac rfl 37 rfl z32 Zam ?_))
 refine(d1.out _).mono ?_
 rintro e w2 ⟨A2,k2,rfl,o2,hb⟩
 have W2:=hid (W1.out.trans (hb.mono W1.out.size))
 have c3:=(hb.cell (Vx5 _ _ c2.out)).trans c2.out
 have R2:=hid (r1.out.bel hb)
 have H2:=hid ((hb.block _ (block_lt h1.out)).trans h1.out)
 have v2:=hid o2.cap
 have s2:=hid o2.rd
 rw[m1]at v2
 clear hb o2 c1
 go_wp2_with fail
 refine(d2.out _).mono ?_
 rintro e w3 ⟨A3,k3,rfl,o3,hb⟩
 have W3:=hid (W2.out.trans (hb.mono W2.out.size))
 have R3:=hid (R2.out.bel hb)
 have H3:=hid ((hb.block _ (block_lt H2.out)).trans H2.out)
 have v3:=hid o3.cap
 have s3:=hid (s2.out.bel hb)
 have t3:=hid o3.rd
 rw[m2]at v3
 clear hb o3 c3
 have ok3:Hid (∀ p∈([(A2,k2,y1),(some ⟨w.heap.size,1,none⟩,32,zt),(A3,k3,y2)]:List PtX),PtOk w3 p):=hid (by
  intro p hp
  simp at hp
  rcases hp with rfl|rfl|rfl
  ·exact⟨s3.out,by show y1.length≤k2;rw[m1];exact v2.out.1,v2.out.2⟩
  ·exact⟨R3.out,Nat.le_of_eq lt,by show 32≤maxLen;decide⟩
  ·exact⟨t3.out,by show y2.length≤k3;rw[m2];exact v3.out.1,v3.out.2⟩)
 go_wp2_with (((with_reducible refine ZbX rfl 3 _ rfl [(A2,k2,y1),(some ⟨w.heap.size,1,none⟩,32,zt),(A3,k3,y2)] [.slice A2 8 k2,.slice (some ⟨w.heap.size,1,none⟩) 32 32,.slice A3 8 k3] ?_ rfl (by decide) (by decide) ?_ ?_ ?_);(simp[slV,m1,m2,lt]);rfl;exact ok3.out;intro g4 w4 e4 J4 E4;have X4:=hid E4;have Q4:=hid J4;clear E4 J4 e4))
 refine(hCt.out _ _ _ Q4.out).mono ?_
 rintro e w5 ⟨A5,k5,rfl,o5,hb⟩
 have X5:=hid (X4.out.trans (hb.mono X4.out.size))
 have W5:=hid (W3.out.trans (X5.out.mono W3.out.size))
 have H5:=hid ((X5.out.block _ (block_lt H3.out)).trans H3.out)
 have ok5:Hid (∀ p∈([(A5,k5,zb)]:List PtX),PtOk w5 p):=hid (by
  intro p hp
  simp at hp
  subst hp
  exact⟨o5.rd,o5.cap⟩)
 clear hb o5
 go_wp2_with (((with_reducible refine ZbX rfl 1 _ rfl [(A5,k5,zb)] [.slice A5 48 k5] ?_ rfl (by decide) (by decide) ?_ ?_ ?_);(simp[slV,hlen]);rfl;exact ok5.out;intro g6 w6 e6 J6 E6;have X6:=hid E6;have Q6:=hid J6;clear E6 J6 e6))
 have W6:=hid (W5.out.trans (X6.out.mono W5.out.size))
 have H6:=hid ((X6.out.block _ (block_lt H5.out)).trans H5.out)
 have T6:=hid (hT.out.bel W6.out hlow.out)
 refine(hO.out _ _ Q6.out T6.out).mono ?_
 rintro e w7 ⟨rfl,hb⟩
 have W7:=hid (W6.out.trans (hb.mono W6.out.size))
 have H7:=hid ((hb.block _ (block_lt H6.out)).trans H6.out)
 clear hb
 go_wp2_with (((with_reducible refine stW 2 26 (w.heap.size+1) 37 z32 ?_ ?_ ?_ ?_ ?_);exact H7.out;exact js.out;exact zs.out;exact os.out;intro w8 hg8 hb8 hs8))
 refine Vy0 (v:=.agg dk.toArray) ?_ rfl ⟨rfl,?_⟩
 ·exact results_cell_row Tryz.results185 _ _ (w.heap.size+1) 37 _ (0,0) _ rfl hg8 hu rfl js.out
 ·exact W7.out.grown hb8 W7.out.size (fun g e=>by injection e with e;omega)
end Go.Proofs.YtnnclggeifnomaaGreatDoor
