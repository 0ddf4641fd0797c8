import Derived.Test.YtomhoehlgagiiaaGreatDoorRf10
set_option maxRecDepth 100000
set_option linter.all false
set_option maxHeartbeats 4000000
namespace Go.Proofs.YtomhoehlgagiiaaGreatDoor
open Go.RowKit
theorem Zls(x:Dp)(hx:x.ok)(w:World):Calls Tryz.prog 140 #[.agg (dpC x).toArray] w fun e w'=>e=.returned (.agg ((idD x).1.map bv).toArray)∧Below w.heap.size w w':=by
 have hsl:=ZaA
 have hu:=Tryz.underlying26
 have B0:=BoxD.new w x 70
 have b1:=Zad (w.alloc (.cells (dpC x).toArray 70)) (.cells z32 26)
 have h1:=Vx0 (w.alloc (.cells (dpC x).toArray 70)) (.cells z32 26)
 rw[Vx2]at h1
 have W0:=hid ((Zad w (.cells (dpC x).toArray 70)).trans (b1.mono (Zad w _).size))
 have hs0:((w.alloc (.cells (dpC x).toArray 70)).alloc (.cells z32 26)).heap.size=w.heap.size+2:=by rw[Vx2,Vx2]
 have d1:=hid (fun W=>Zb9 x.n 8 W (by decide) (by decide) hx.1)
 have d2:=hid (fun W=>Zb9 x.a 8 W (by decide) (by decide) hx.2)
 have B1:=B0.bel b1
 have r1:=ZbB B1.t
 have c1:=B1.n
 have c2:=B1.a
 have lt:=x.t.2
 have m1:=Zav 8 x.n
 have m2:=Zav 8 x.a
 have hB:bodyD x=be 8 x.n++x.t.1++be 8 x.a:=rfl
 obtain⟨z2,hz2⟩:∃z,be 8 x.n++x.t.1=z:=⟨_,rfl⟩
 have l2:z2.length=40:=by rw[← hz2,Vx3,m1,lt]
 rw[hz2]at hB
 obtain⟨z3,hz3⟩:∃z,z2++be 8 x.a=z:=⟨_,rfl⟩
 have l3:z3.length=48:=by rw[← hz3,Vx3,l2,m2]
 rw[hz3]at hB
 have hO:=fun A c W (h:Rd W A z3) (h1:z3.length≤c) (h2:c≤maxLen)=>Ze5 9 A c z3 W h ⟨h1,h2⟩ (by rw[l3];decide)
 have hD:sha256 (tagB 9 [z3])=(idD x).1:=by rw[← hB];rfl
 rw[hD,l3]at hO
 replace hO:=hid hO
 have z1:(((idD x).1.map bv).toArray).size=32:=by simp[(idD x).2]
 have o1:=Zay (idD x).1
 clear hB hD B0 B1 b1
 generalize (idD x).1.map bv=dk at *
 generalize dpC x=cx at *
 generalize be 8 x.n=y1 at *
 generalize be 8 x.a=y2 at *
 generalize x.t.1=zt at *
 generalize x.n=vn at *
 generalize x.a=va at *
 replace hz2:=hid hz2
 replace hz3:=hid hz3
 go_enter Tryz.func140,Tryz.ntmps140
 have fl:=hid (fun W (hb:Below (w.heap.size+2) ((w.alloc (.cells cx.toArray 70)).alloc (.cells z32 26)) W)=>(show Rd W (some ⟨w.heap.size,1,none⟩) zt∧W.cell? ⟨w.heap.size,33,none⟩=some (.int .u64 (va:Int))∧W.heap[w.heap.size+1]? =some (.cells z32 26 (0,0))∧w.heap.size+2≤W.heap.size from ⟨r1.below hb (Nat.le_of_eq hs0),(hb.cell (by show w.heap.size<_;omega)).trans c2,(hb.block _ (by omega)).trans h1,by have:=hb.size;omega⟩))
 have V0:=hid (Below.refl (w.heap.size+2) ((w.alloc (.cells cx.toArray 70)).alloc (.cells z32 26)))
 clear r1 hs0 c2 h1
 go_wp2_with ((with_reducible refine Zac rfl 26 rfl z32 Zam ?_))
 refine(d1.out _).mono ?_
 rintro e w1 ⟨A1,k1,rfl,o1',hb⟩
 have V1:=hid (V0.out.trans (hb.mono (fl.out _ V0.out).2.2.2))
 have e1:=hid (o1'.base (fl.out _ V0.out).2.2.2)
 have c3:=(fl.out _ V1.out).2.1
 clear hb o1' c1
 go_wp2_with fail
 refine(d2.out _).mono ?_
 rintro e w2 ⟨A2,k2,rfl,o2,hb⟩
 have V2:=hid (V1.out.trans (hb.mono (fl.out _ V1.out).2.2.2))
 have Z1:Zone A1 w1.heap.size w2.heap.size:=fun a ha=>.inl (e1.out.blk a ha).2
 have M2:=hid (show Mid A2 w1.heap.size w2.heap.size from o2.mid)
 have zz1:=hid Z1
 replace e1:=hid (e1.out.bel hb)
 have r2:=hid o2.rd
 clear hb o2 c3 Z1
 have sz2:=hid (fl.out _ V2.out).2.2.2
 go_wp2_with (first
  |(at_builtin;refine Zch u8s rfl (.tmp 19) (.tmp 21) rfl (w.heap.size+2) A1 (some ⟨w.heap.size,1,none⟩) 8 32 k1 32 y1 zt rfl rfl m1.symm lt.symm e1.out (fl.out _ V2.out).1 (by rw[m1,lt];decide) sz2.out ?_;intro A3 k3 w3 o3 hb3 hg3 hA3;rw[hz2.out]at o3 ⊢;have V3:=hid (V2.out.trans hb3);have s3:=hid (r2.out.zone M2.out zz1.out hg3);have sz3:=hid (Vx1 sz2.out hg3.size);replace o3:=hid o3;clear hb3 hg3 hA3)
  |(at_builtin;refine Zch u8s rfl (.tmp 23) (.tmp 24) rfl (w.heap.size+2) A3 A2 40 8 k3 k2 z2 y2 rfl rfl l2.symm m2.symm o3.out s3.out (by rw[l2,m2];decide) sz3.out ?_;intro A4 k4 w4 o4 hb4 hg4 hA4;rw[hz3.out]at o4 ⊢;have V4:=hid (V3.out.trans hb4);have q1:=o4.cap.1;have q2:=o4.cap.2;have q3:=hid o4.rd;rw[l3]at q1;have sz4:=hid (Vx1 sz3.out hg4.size);clear hb4 hg4 hA4 o4))
 refine(hO.out _ _ _ q3.out q1 q2).mono ?_
 rintro e w5 ⟨rfl,hb⟩
 have V5:=hid (V4.out.trans (hb.mono sz4.out))
 have R5:=hid (fl.out _ V5.out).2.2.1
 clear hb
 go_wp2_with (((with_reducible refine stW 2 26 (w.heap.size+1) 26 z32 ?_ ?_ ?_ ?_ ?_);exact R5.out;(rw[z1];exact Zai);(rw[z1];exact z32_size);exact o1;intro w6 hg6 hb6 hs6))
 refine Vy0 (v:=.agg dk.toArray) ?_ rfl ⟨rfl,?_⟩
 ·exact results_cell_row Tryz.results140 _ _ (w.heap.size+1) 26 _ (0,0) _ rfl hg6 hu rfl (by rw[z1];exact Zai)
 ·exact(W0.out.trans (V5.out.mono (by omega))).grown hb6 (W0.out.trans (V5.out.mono (by omega))).size (fun g e=>by injection e with e;omega)
theorem YaF{k:UInt8}{i:Dg}:rcB ⟨k,i,0⟩=([k]++i.1)++[0,0]∧rcB ⟨k,i,151⟩=([k]++i.1)++[0,151]∧rcB ⟨k,i,150⟩=([k]++i.1)++[0,150]:=by
 have h:∀c:Int,rcB ⟨k,i,c⟩=([k]++i.1)++be 2 c.toNat:=fun c=>by simp[rcB]
 rw[h,h,h]
 exact⟨rfl,rfl,rfl⟩
theorem Zq1(x:Rc)(hx:mayR x=true)(w:World):Calls Tryz.prog 214 #[.agg (rcC x).toArray] w fun e w'=>∃A c,e=.returned (.slice A 35 c)∧Own 5 w' w.heap.size A c (rcB x)∧Below w.heap.size w w':=by
 have hsl:=ZaA
 have hc:=ZpW hx
 obtain⟨k,i,c⟩:=x
 have hc:c=0∨c=151∨c=150:=hc
 have B0:=BoxR.new w ⟨k,i,c⟩ 61
 have W0:=hid (Zad w (.cells (rcC ⟨k,i,c⟩).toArray 61))
 have hb2:=Zad (w.alloc (.cells (rcC ⟨k,i,c⟩).toArray 61)) (.cells #[.int .u8 (k.toNat:Int)] 5)
 have hg2:=Vx0 (w.alloc (.cells (rcC ⟨k,i,c⟩).toArray 61)) (.cells #[.int .u8 (k.toNat:Int)] 5)
 rw[Vx2]at hg2
 have own2:=hid (Own.of_block (E:=5) (l:=[k]) (B:=w.heap.size+1) (by exact hg2) (Vx8 _) (by show 1≤maxLen;decide))
 have r2:=hid (ZbB (B0.bel hb2).i)
 have B2:=B0.bel hb2
 have c0:=B0.k
 unfold bv at c0
 have c1:=B2.c
 have lt2:=hid (show w.heap.size<w.heap.size+1 from Nat.lt_succ_self _)
 have li:=i.2
 obtain⟨z,hz⟩:∃z,[k]++i.1=z:=⟨_,rfl⟩
 have lz:z.length=33:=by rw[← hz,Vx3,li];rfl
 obtain⟨f0,f1,f2⟩:=YaF (k:=k) (i:=i)
 rw[hz]at f0 f1 f2
 replace hz:=hid hz
 have sz2:=hid (show w.heap.size+1≤((w.alloc (.cells (rcC ⟨k,i,c⟩).toArray 61)).alloc (.cells #[.int .u8 (k.toNat:Int)] 5)).heap.size by rw[Vx2,Vx2];omega)
 have W2:=hid ((Zad w (.cells (rcC ⟨k,i,c⟩).toArray 61)).trans (hb2.mono (Zad w _).size))
 clear hg2 hb2 B0 B2 hx
 rcases hc with rfl|rfl|rfl
 ·rw[f0]
  obtain⟨y,hy⟩:∃y,z++[0,0]=y:=⟨_,rfl⟩
  have ly:y.length=35:=by rw[← hy,Vx3,lz];rfl
  rw[hy]
  replace hy:=hid hy
  clear f0 f1 f2
  generalize rcC ⟨k,i,0⟩=cx at *
  generalize i.1=zi at *
  go_enter Tryz.func214,Tryz.ntmps214
  go_wp2_with (first
   |(at_builtin;refine ZaO u8s rfl (.tmp 7) (.tmp 9) rfl (w.heap.size+1) (some ⟨w.heap.size+1,0,none⟩) (some ⟨w.heap.size,1,none⟩) 1 32 1 32 [k] zi rfl rfl rfl li.symm own2.out r2.out (by rw[li];show 1+32≤_;decide) sz2.out ?_;intro A3 k3 w3 o3 hb3;rw[hz.out]at o3 ⊢;have W3:=hid (W2.out.trans (hb3.mono (Nat.le_succ _)));have c3:=(hb3.cell (p:=⟨w.heap.size,33,none⟩) lt2.out).trans c1;have sz3:=hid (Vx1 sz2.out hb3.size);replace o3:=hid o3;clear hb3)
   |(at_builtin;refine ZaO u8s rfl (.tmp 11) (.tmp 20) rfl (w.heap.size+1) A3 _ 33 2 k3 2 z [0,0] rfl rfl lz.symm rfl (o3.out.alloc _) (Rd.lit_ _ _ _ _ _ rfl rfl) (by rw[lz];decide) (by rw[Vx2];exact Nat.le_succ_of_le sz3.out) ?_;intro A4 k4 w4 o4 hb4;rw[hy.out]at o4 ⊢;have W4:=hid ((W3.out.trans ((Zad w3 _).mono W3.out.size)).trans (hb4.mono (Nat.le_succ _)))))
  go_ret
  exact⟨_,_,rfl,o4.base (Nat.le_succ _),W4.out⟩
 ·rw[f1]
  obtain⟨y,hy⟩:∃y,z++[0,151]=y:=⟨_,rfl⟩
  have ly:y.length=35:=by rw[← hy,Vx3,lz];rfl
  rw[hy]
  replace hy:=hid hy
  clear f0 f1 f2
  generalize rcC ⟨k,i,151⟩=cx at *
  generalize i.1=zi at *
  go_enter Tryz.func214,Tryz.ntmps214
  go_wp2_with (first
   |(at_builtin;refine ZaO u8s rfl (.tmp 7) (.tmp 9) rfl (w.heap.size+1) (some ⟨w.heap.size+1,0,none⟩) (some ⟨w.heap.size,1,none⟩) 1 32 1 32 [k] zi rfl rfl rfl li.symm own2.out r2.out (by rw[li];show 1+32≤_;decide) sz2.out ?_;intro A3 k3 w3 o3 hb3;rw[hz.out]at o3 ⊢;have W3:=hid (W2.out.trans (hb3.mono (Nat.le_succ _)));have c3:=(hb3.cell (p:=⟨w.heap.size,33,none⟩) lt2.out).trans c1;have sz3:=hid (Vx1 sz2.out hb3.size);replace o3:=hid o3;clear hb3)
   |(at_builtin;refine ZaO u8s rfl (.tmp 11) (.tmp 20) rfl (w.heap.size+1) A3 _ 33 2 k3 2 z [0,151] rfl rfl lz.symm rfl (o3.out.alloc _) (Rd.lit_ _ _ _ _ _ rfl rfl) (by rw[lz];decide) (by rw[Vx2];exact Nat.le_succ_of_le sz3.out) ?_;intro A4 k4 w4 o4 hb4;rw[hy.out]at o4 ⊢;have W4:=hid ((W3.out.trans ((Zad w3 _).mono W3.out.size)).trans (hb4.mono (Nat.le_succ _)))))
  go_ret
  exact⟨_,_,rfl,o4.base (Nat.le_succ _),W4.out⟩
 ·rw[f2]
  obtain⟨y,hy⟩:∃y,z++[0,150]=y:=⟨_,rfl⟩
  have ly:y.length=35:=by rw[← hy,Vx3,lz];rfl
  rw[hy]
  replace hy:=hid hy
  clear f0 f1 f2
  generalize rcC ⟨k,i,150⟩=cx at *
  generalize i.1=zi at *
  go_enter Tryz.func214,Tryz.ntmps214
  go_wp2_with (first
   |(at_builtin;refine ZaO u8s rfl (.tmp 7) (.tmp 9) rfl (w.heap.size+1) (some ⟨w.heap.size+1,0,none⟩) (some ⟨w.heap.size,1,none⟩) 1 32 1 32 [k] zi rfl rfl rfl li.symm own2.out r2.out (by rw[li];show 1+32≤_;decide) sz2.out ?_;intro A3 k3 w3 o3 hb3;rw[hz.out]at o3 ⊢;have W3:=hid (W2.out.trans (hb3.mono (Nat.le_succ _)));have c3:=(hb3.cell (p:=⟨w.heap.size,33,none⟩) lt2.out).trans c1;have sz3:=hid (Vx1 sz2.out hb3.size);replace o3:=hid o3;clear hb3)
   |(at_builtin;refine ZaO u8s rfl (.tmp 11) (.tmp 20) rfl (w.heap.size+1) A3 _ 33 2 k3 2 z [0,150] rfl rfl lz.symm rfl (o3.out.alloc _) (Rd.lit_ _ _ _ _ _ rfl rfl) (by rw[lz];decide) (by rw[Vx2];exact Nat.le_succ_of_le sz3.out) ?_;intro A4 k4 w4 o4 hb4;rw[hy.out]at o4 ⊢;have W4:=hid ((W3.out.trans ((Zad w3 _).mono W3.out.size)).trans (hb4.mono (Nat.le_succ _)))))
  go_ret
  exact⟨_,_,rfl,o4.base (Nat.le_succ _),W4.out⟩
theorem Zog(x:Hd)(w:World):Calls Tryz.prog 69 #[.agg (hdC x).toArray] w fun e w'=>e=.returned (.bool (mayH x))∧Below w.heap.size w w':=by
 have B0:=BoxH.new w x 28
 have W0:=hid (Zad w (.cells (hdC x).toArray 28))
 have c0:=B0.h
 have c1:=B0.m
 have hM:=ZeZ (x:=x)
 obtain⟨m,hm⟩:∃m,mayH x=m:=⟨_,rfl⟩
 rw[hm]at hM ⊢
 clear B0 hm
 generalize hdC x=cx at *
 generalize x.h=h at *
 generalize x.m=n at *
 by_cases h1:0≤h
 ·by_cases h2:h≤1073741824
  ·by_cases h3:0≤n
   ·by_cases h4:n≤256
    ·have e:m=true:=hM.2 ⟨h1,h2,h3,h4⟩
     subst e
     clear hM
     go_enter Tryz.func69,Tryz.ntmps69
     go_wp2
     go_ret
     exact⟨rfl,W0.out⟩
    ·have e:m=false:=by cases m with|false=>rfl|true=>exact absurd (hM.1 rfl).2.2.2 h4
     subst e
     have q4:decide (n≤256)=false:=Vy1 h4
     clear hM
     go_enter Tryz.func69,Tryz.ntmps69
     go_wp2
     go_ret
     exact⟨rfl,W0.out⟩
   ·have e:m=false:=by cases m with|false=>rfl|true=>exact absurd (hM.1 rfl).2.2.1 h3
    subst e
    have q4:decide (0≤n)=false:=Vy1 h3
    clear hM
    go_enter Tryz.func69,Tryz.ntmps69
    go_wp2
    go_ret
    exact⟨rfl,W0.out⟩
  ·have e:m=false:=by cases m with|false=>rfl|true=>exact absurd (hM.1 rfl).2.1 h2
   subst e
   have q4:decide (h≤1073741824)=false:=Vy1 h2
   clear hM
   go_enter Tryz.func69,Tryz.ntmps69
   go_wp2
   go_ret
   exact⟨rfl,W0.out⟩
 ·have e:m=false:=by cases m with|false=>rfl|true=>exact absurd (hM.1 rfl).1 h1
  subst e
  have q4:decide (0≤h)=false:=Vy1 h1
  clear hM
  go_enter Tryz.func69,Tryz.ntmps69
  go_wp2
  go_ret
  exact⟨rfl,W0.out⟩
theorem ZqT(x:Hd)(hx:mayH x=true)(w:World):Calls Tryz.prog 210 #[.agg (hdC x).toArray] w fun e w'=>∃A c,e=.returned (.slice A 108 c)∧Own 5 w' w.heap.size A c (hdB x)∧Below w.heap.size w w':=by
 have hsl:=ZaA
 obtain⟨n1,n2,n3,n4⟩:=ZeZ.1 hx
 have B0:=BoxH.new w x 28
 have W0:=hid (Zad w (.cells (hdC x).toArray 28))
 have hs0:(w.alloc (.cells (hdC x).toArray 28)).heap.size=w.heap.size+1:=Vx2 _ _
 have d1:=hid (fun W=>Zb9 x.h.toNat 8 W (by decide) (by decide) (by omega))
 have d2:=hid (fun W=>Zb9 x.m.toNat 4 W (by decide) (by decide) (by omega))
 have r1:=ZbB B0.p
 have r2:=ZbB B0.s
 have r3:=ZbB B0.r
 have c1:=B0.h
 have c2:=B0.m
 have e1:x.h=(x.h.toNat:Int):=(Int.toNat_of_nonneg n1).symm
 have e2:x.m=(x.m.toNat:Int):=(Int.toNat_of_nonneg n3).symm
 rw[e1]at c1
 rw[e2]at c2
 have lp:=x.p.2
 have ls:=x.s.2
 have lr:=x.r.2
 have m1:=Zav 8 x.h.toNat
 have m2:=Zav 4 x.m.toNat
 have hB:hdB x=be 8 x.h.toNat++x.p.1++x.s.1++x.r.1++be 4 x.m.toNat:=rfl
 rw[hB]
 have u1:x.h.toNat<18446744073709551616:=by omega
 have u2:x.m.toNat<18446744073709551616:=by omega
 have wr1:IntKind.u64.wrap (x.h.toNat:Int)=(x.h.toNat:Int):=by rw[IntKind.wrap_u64];omega
 have wr2:IntKind.u64.wrap (x.m.toNat:Int)=(x.m.toNat:Int):=by rw[IntKind.wrap_u64];omega
 obtain⟨z2,hz2⟩:∃z,be 8 x.h.toNat++x.p.1=z:=⟨_,rfl⟩
 have l2:z2.length=40:=by rw[← hz2,Vx3,lp,m1]
 rw[hz2]
 obtain⟨z3,hz3⟩:∃z,z2++x.s.1=z:=⟨_,rfl⟩
 have l3:z3.length=72:=by rw[← hz3,Vx3,l2,ls]
 rw[hz3]
 obtain⟨z4,hz4⟩:∃z,z3++x.r.1=z:=⟨_,rfl⟩
 have l4:z4.length=104:=by rw[← hz4,Vx3,l3,lr]
 rw[hz4]
 obtain⟨z5,hz5⟩:∃z,z4++be 4 x.m.toNat=z:=⟨_,rfl⟩
 have l5:z5.length=108:=by rw[← hz5,Vx3,l4,m2]
 rw[hz5]
 clear hB B0 e1 e2 n1 n2 n3 n4 hx
 generalize hdC x=cx at *
 generalize be 8 x.h.toNat=y1 at *
 generalize be 4 x.m.toNat=y2 at *
 generalize x.h.toNat=vh at *
 generalize x.m.toNat=vm at *
 generalize x.p.1=zp at *
 generalize x.s.1=zs at *
 generalize x.r.1=zr at *
 replace hz2:=hid hz2
 replace hz3:=hid hz3
 replace hz4:=hid hz4
 replace hz5:=hid hz5
 go_enter Tryz.func210,Tryz.ntmps210
 have fl:=hid (fun W (hb:Below (w.heap.size+1) (w.alloc (.cells cx.toArray 28)) W)=>(show Rd W (some ⟨w.heap.size,1,none⟩) zp∧Rd W (some ⟨w.heap.size,33,none⟩) zs∧Rd W (some ⟨w.heap.size,65,none⟩) zr∧W.cell? ⟨w.heap.size,97,none⟩=some (.int .i64 (vm:Int))∧w.heap.size+1≤W.heap.size from ⟨r1.below hb (Nat.le_of_eq hs0),r2.below hb (Nat.le_of_eq hs0),r3.below hb (Nat.le_of_eq hs0),(hb.cell (Nat.lt_succ_self _)).trans c2,by have:=hb.size;omega⟩))
 have V0:=hid (Below.refl (w.heap.size+1) (w.alloc (.cells cx.toArray 28)))
 clear r1 r2 r3 hs0 c2
 go_wp2_with fail
 refine(d1.out _).mono ?_
 rintro e w1 ⟨A1,k1,rfl,o1,hb⟩
 have V1:=hid (V0.out.trans (hb.mono (fl.out _ V0.out).2.2.2.2))
 have e1:=hid (o1.base (fl.out _ V0.out).2.2.2.2)
 have c3:=(fl.out _ V1.out).2.2.2.1
 clear hb o1 c1
 go_wp2_with fail
 refine(d2.out _).mono ?_
 rintro e w2 ⟨A2,k2,rfl,o2,hb⟩
 have V2:=hid (V1.out.trans (hb.mono (fl.out _ V1.out).2.2.2.2))
 have Z1:Zone A1 w1.heap.size w2.heap.size:=fun a ha=>.inl (e1.out.blk a ha).2
 have M2:=hid (show Mid A2 w1.heap.size w2.heap.size from o2.mid)
 have zz1:=hid Z1
 replace e1:=hid (e1.out.bel hb)
 have r2:=hid o2.rd
 clear hb o2 c3 Z1
 have sz2:=hid (fl.out _ V2.out).2.2.2.2
 go_wp2_with (first
  |(at_builtin;refine Zch u8s rfl (.tmp 21) (.tmp 23) rfl (w.heap.size+1) A1 (some ⟨w.heap.size,1,none⟩) 8 32 k1 32 y1 zp rfl rfl m1.symm lp.symm e1.out (fl.out _ V2.out).1 (by rw[m1,lp];decide) sz2.out ?_;intro A3 k3 w3 o3 hb3 hg3 hA3;rw[hz2.out]at o3 ⊢;have V3:=hid (V2.out.trans hb3);have s3:=hid (r2.out.zone M2.out zz1.out hg3);have zz3:=hid (zz1.out.step (Vx8 _) hA3);have sz3:=hid (Vx1 sz2.out hg3.size);have t3:=hid hg3.size;replace o3:=hid o3;clear hb3 hg3 hA3)
  |(at_builtin;refine Zch u8s rfl (.tmp 25) (.tmp 27) rfl (w.heap.size+1) A3 (some ⟨w.heap.size,33,none⟩) 40 32 k3 32 z2 zs rfl rfl l2.symm ls.symm o3.out (fl.out _ V3.out).2.1 (by rw[l2,ls];decide) sz3.out ?_;intro A4 k4 w4 o4 hb4 hg4 hA4;rw[hz3.out]at o4 ⊢;have V4:=hid (V3.out.trans hb4);have s4:=hid (s3.out.zone M2.out zz3.out hg4);have zz4:=hid (zz3.out.step t3.out hA4);have sz4:=hid (Vx1 sz3.out hg4.size);have t4:=hid (Vx1 t3.out hg4.size);replace o4:=hid o4;clear hb4 hg4 hA4)
  |(at_builtin;refine Zch u8s rfl (.tmp 29) (.tmp 31) rfl (w.heap.size+1) A4 (some ⟨w.heap.size,65,none⟩) 72 32 k4 32 z3 zr rfl rfl l3.symm lr.symm o4.out (fl.out _ V4.out).2.2.1 (by rw[l3,lr];decide) sz4.out ?_;intro A5 k5 w5 o5 hb5 hg5 hA5;rw[hz4.out]at o5 ⊢;have V5:=hid (V4.out.trans hb5);have s5:=hid (s4.out.zone M2.out zz4.out hg5);have sz5:=hid (Vx1 sz4.out hg5.size);replace o5:=hid o5;clear hb5 hg5 hA5)
  |(at_builtin;refine Zch u8s rfl (.tmp 33) (.tmp 34) rfl (w.heap.size+1) A5 A2 104 4 k5 k2 z4 y2 rfl rfl l4.symm m2.symm o5.out s5.out (by rw[l4,m2];decide) sz5.out ?_;intro A6 k6 w6 o6 hb6 hg6 hA6;rw[hz5.out]at o6 ⊢;have V6:=hid (V5.out.trans hb6);replace o6:=hid o6;clear hb6 hg6 hA6))
 go_ret
 exact⟨_,_,rfl,o6.out.base (Nat.le_succ _),W0.out.trans (V6.out.mono (Nat.le_succ _))⟩
theorem Zi1(x:Hd)(hx:mayH x=true)(w:World):Calls Tryz.prog 145 #[.agg (hdC x).toArray] w fun e w'=>e=.returned (.agg ((nameD x).1.map bv).toArray)∧Below w.heap.size w w':=by
 have hu:=Tryz.underlying26
 have hux:=Tryz.underlying28
 have B0:=BoxH.new w x 28
 have h1:=Vx0 (w.alloc (.cells (hdC x).toArray 28)) (.cells z32 26)
 have b1:=Zad (w.alloc (.cells (hdC x).toArray 28)) (.cells z32 26)
 rw[Vx2]at h1
 have W1:=hid ((Zad w (.cells (hdC x).toArray 28)).trans (b1.mono (Zad w _).size))
 have X1:=hid (Zab b1 B0.all)
 have jx:=hid (Zbu x)
 have hBy:=hid (fun W=>ZqT x hx W)
 have lb:=Zdh x
 have hO:=fun A c W (h:Rd W A (hdB x)) (h1:(hdB x).length≤c) (h2:c≤maxLen)=>Ze5 6 A c (hdB x) W h ⟨h1,h2⟩ (by rw[lb];decide)
 have hD:sha256 (tagB 6 [hdB x])=(nameD x).1:=rfl
 rw[hD,lb]at hO
 replace hO:=hid hO
 have z1:(((nameD x).1.map bv).toArray).size=32:=by simp[(nameD x).2]
 have o1:=Zay (nameD x).1
 replace h1:=hid h1
 clear B0 b1 hD
 generalize (nameD x).1.map bv=dk at *
 generalize hdC x=cx at *
 generalize hdB x=zb at *
 go_enter Tryz.func145,Tryz.ntmps145
 go_wp2_with (first
  |(with_reducible refine Zac rfl 26 rfl z32 Zam ?_)
  |(with_reducible refine lDr X1.out jx.out hux ?_))
 refine(hBy.out _).mono ?_
 rintro e w3 ⟨A3,c3,rfl,o3,hb3⟩
 have R3:=hid ((hb3.block _ (block_lt h1.out)).trans h1.out)
 have W3:=hid (W1.out.trans (hb3.mono W1.out.size))
 have q1:=o3.cap.1
 have q2:=o3.cap.2
 have q3:=hid o3.rd
 rw[lb]at q1
 clear hb3 o3
 go_wp2_with fail
 refine(hO.out _ _ _ q3.out q1 q2).mono ?_
 rintro e w4 ⟨rfl,hb4⟩
 have R4:=hid ((hb4.block _ (block_lt R3.out)).trans R3.out)
 have W4:=hid (W3.out.trans (hb4.mono W3.out.size))
 clear hb4
 go_wp2_with (((with_reducible refine stW 2 5 (w.heap.size+1) 26 z32 ?_ ?_ ?_ ?_ ?_);exact R4.out;(rw[z1];exact Zai);(rw[z1];exact z32_size);exact o1;intro w5 hg5 hb5 hs5))
 refine Vy0 (v:=.agg dk.toArray) ?_ rfl ⟨rfl,?_⟩
 ·exact results_cell_row Tryz.results145 _ _ (w.heap.size+1) 26 _ (0,0) _ rfl hg5 hu rfl (by rw[z1];exact Zai)
 ·exact W4.out.grown hb5 W4.out.size (fun g e=>by injection e with e;omega)
end Go.Proofs.YtomhoehlgagiiaaGreatDoor
