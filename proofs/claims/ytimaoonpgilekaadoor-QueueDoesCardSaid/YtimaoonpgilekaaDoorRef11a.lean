import Derived.Test.YtimaoonpgilekaaDoorRf10
set_option linter.all false
set_option maxHeartbeats 2000000
namespace Go.Proofs.YtimaoonpgilekaaDoor
open Go.RowKit
set_option maxRecDepth 100000
theorem Zg5(x:Tx)(hx:x.ok)(w:World):Calls Tryd.prog 62 #[.agg (txC x).toArray] w fun e w'=>∃A c,e=.returned (.slice A 88 c)∧Own 5 w' w.heap.size A c (bodyX x)∧Below w.heap.size w w':=by
 have hsl:=ZaA
 have B0:=BoxX.new w x 33
 have W0:=hid (Zad w (.cells (txC x).toArray 33))
 have hs0:(w.alloc (.cells (txC x).toArray 33)).heap.size=w.heap.size+1:=Vx2 _ _
 have d1:=hid (fun W=>Zb9 x.n 8 W (by decide) (by decide) hx.1)
 have d2:=hid (fun W=>Zb9 x.a 8 W (by decide) (by decide) hx.2.1)
 have d3:=hid (fun W=>Zb9 x.f 8 W (by decide) (by decide) hx.2.2)
 have r1:=ZbB B0.p
 have r2:=ZbB B0.t
 have c1:=B0.n
 have c2:=B0.a
 have c3:=B0.f
 have lp:=x.p.2
 have lt:=x.t.2
 have m1:=Zav 8 x.n
 have m2:=Zav 8 x.a
 have m3:=Zav 8 x.f
 have hB:bodyX x=x.p.1++x.t.1++be 8 x.n++be 8 x.a++be 8 x.f:=rfl
 rw[hB]
 obtain⟨z2,hz2⟩:∃z,x.p.1++x.t.1=z:=⟨_,rfl⟩
 have l2:z2.length=64:=by rw[← hz2,Vx3,lp,lt]
 rw[hz2]
 obtain⟨z3,hz3⟩:∃z,z2++be 8 x.n=z:=⟨_,rfl⟩
 have l3:z3.length=72:=by rw[← hz3,Vx3,l2,m1]
 rw[hz3]
 obtain⟨z4,hz4⟩:∃z,z3++be 8 x.a=z:=⟨_,rfl⟩
 have l4:z4.length=80:=by rw[← hz4,Vx3,l3,m2]
 rw[hz4]
 obtain⟨z5,hz5⟩:∃z,z4++be 8 x.f=z:=⟨_,rfl⟩
 have l5:z5.length=88:=by rw[← hz5,Vx3,l4,m3]
 rw[hz5]
 clear hB B0
 generalize be 8 x.n=y1 at *
 generalize be 8 x.a=y2 at *
 generalize be 8 x.f=y3 at *
 generalize x.p.1=zp at *
 generalize x.t.1=zt at *
 generalize x.n=vn at *
 generalize x.a=va at *
 generalize x.f=vf at *
 replace hz2:=hid hz2
 replace hz3:=hid hz3
 replace hz4:=hid hz4
 replace hz5:=hid hz5
 go_enter Tryd.func62,Tryd.ntmps62
 have fl:=hid (fun W (hb:Below (w.heap.size+1) (w.alloc (.cells (txC x).toArray 33)) W)=>(show Rd W (some ⟨w.heap.size,0,none⟩) zp∧Rd W (some ⟨w.heap.size,32,none⟩) zt∧W.cell? ⟨w.heap.size,64,none⟩=some (.int .u64 (vn:Int))∧W.cell? ⟨w.heap.size,65,none⟩=some (.int .u64 (va:Int))∧W.cell? ⟨w.heap.size,66,none⟩=some (.int .u64 (vf:Int))∧w.heap.size+1≤W.heap.size from ⟨r1.below hb (Nat.le_of_eq hs0),r2.below hb (Nat.le_of_eq hs0),(hb.cell (Nat.lt_succ_self _)).trans c1,(hb.cell (Nat.lt_succ_self _)).trans c2,(hb.cell (Nat.lt_succ_self _)).trans c3,by have:=hb.size;omega⟩))
 have V0:=hid (Below.refl (w.heap.size+1) (w.alloc (.cells (txC x).toArray 33)))
 clear r1 r2 c1 c2 c3 hs0
 go_wp2_with (first
  |(at_builtin;refine ZaO u8s rfl (.tmp 10) (.tmp 12) rfl (w.heap.size+1) none (some ⟨w.heap.size,0,none⟩) 0 32 0 32 [] zp rfl rfl rfl lp.symm (Own.nil _ _) (fl.out _ V0.out).1 (by rw[lp];decide) (fl.out _ V0.out).2.2.2.2.2 ?_;intro A1 k1 w1 o1 hb1;rw[List.nil_append]at o1 ⊢;have V1:=hid (V0.out.trans hb1);replace o1:=hid o1;clear hb1)
  |(at_builtin;refine ZaO u8s rfl (.tmp 14) (.tmp 16) rfl (w.heap.size+1) A1 (some ⟨w.heap.size,32,none⟩) 32 32 k1 32 zp zt rfl rfl lp.symm lt.symm o1.out (fl.out _ V1.out).2.1 (by rw[lp,lt];decide) (fl.out _ V1.out).2.2.2.2.2 ?_;intro A2 k2 w2 o2 hb2;rw[hz2.out]at o2 ⊢;have V2:=hid (V1.out.trans hb2);replace o2:=hid o2;have c2:=(fl.out _ V2.out).2.2.1;clear hb2))
 refine(d1.out _).mono ?_
 rintro e w3 ⟨A3,k3,rfl,o3,hb⟩
 have V3:=hid (V2.out.trans (hb.mono (fl.out _ V2.out).2.2.2.2.2))
 have Z2:∀T,Zone A2 w2.heap.size T:=fun T a ha=>.inl (o2.out.blk a ha).2
 have g3:Mid A3 w2.heap.size w3.heap.size:=o3.mid
 have s3:=hb.size
 have e2:=hid (o2.out.bel hb)
 have r3:=hid o3.rd
 have c3:=(fl.out _ V3.out).2.2.2.1
 clear hb o3 c2
 go_wp2_with fail
 refine(d2.out _).mono ?_
 rintro e w4 ⟨A4,k4,rfl,o4,hb⟩
 have V4:=hid (V3.out.trans (hb.mono (fl.out _ V3.out).2.2.2.2.2))
 replace e2:=hid (e2.out.bel hb)
 replace r3:=hid (r3.out.bel hb)
 have g4:Mid A4 w3.heap.size w4.heap.size:=o4.mid
 have s4:=hb.size
 have r4:=hid o4.rd
 have c4:=(fl.out _ V4.out).2.2.2.2.1
 clear hb o4 c3
 go_wp2_with fail
 refine(d3.out _).mono ?_
 rintro e w5 ⟨A5,k5,rfl,o5,hb⟩
 have V5:=hid (V4.out.trans (hb.mono (fl.out _ V4.out).2.2.2.2.2))
 replace e2:=hid (e2.out.bel hb)
 replace r3:=hid (r3.out.bel hb)
 replace r4:=hid (r4.out.bel hb)
 have g5:Mid A5 w4.heap.size w5.heap.size:=o5.mid
 have s5:=hb.size
 have r5:=hid o5.rd
 have M4:Hid (Mid A4 w2.heap.size w5.heap.size):=hid fun a ha=>by have:=g4 a ha;omega
 have M5:Hid (Mid A5 w2.heap.size w5.heap.size):=hid fun a ha=>by have:=g5 a ha;omega
 have zz2:=hid (Z2 w5.heap.size)
 have sz5:=hid (fl.out _ V5.out).2.2.2.2.2
 clear hb o5 c4 g3 g4 g5 s3 s4 s5 Z2
 go_wp2_with (first
  |(at_builtin;refine Zch u8s rfl (.tmp 36) (.tmp 37) rfl (w.heap.size+1) A2 A3 64 8 k2 k3 z2 y1 rfl rfl l2.symm m1.symm e2.out r3.out (by rw[l2,m1];decide) sz5.out ?_;intro A6 k6 w6 o6 hb6 hg6 hA6;rw[hz3.out]at o6 ⊢;have V6:=hid (V5.out.trans hb6);have s4:=hid (r4.out.zone M4.out zz2.out hg6);have s5:=hid (r5.out.zone M5.out zz2.out hg6);have z6:=hid (zz2.out.step (Vx8 _) hA6);have sz6:=hid (Vx1 sz5.out hg6.size);have t6:=hid hg6.size;replace o6:=hid o6;clear hb6 hg6 hA6)
  |(at_builtin;refine Zch u8s rfl (.tmp 39) (.tmp 40) rfl (w.heap.size+1) A6 A4 72 8 k6 k4 z3 y2 rfl rfl l3.symm m2.symm o6.out s4.out (by rw[l3,m2];decide) sz6.out ?_;intro A7 k7 w7 o7 hb7 hg7 hA7;rw[hz4.out]at o7 ⊢;have V7:=hid (V6.out.trans hb7);have u5:=hid (s5.out.zone M5.out z6.out hg7);have sz7:=hid (Vx1 sz6.out hg7.size);replace o7:=hid o7;clear hb7 hg7 hA7)
  |(at_builtin;refine Zch u8s rfl (.tmp 42) (.tmp 43) rfl (w.heap.size+1) A7 A5 80 8 k7 k5 z4 y3 rfl rfl l4.symm m3.symm o7.out u5.out (by rw[l4,m3];decide) sz7.out ?_;intro A8 k8 w8 o8 hb8 hg8 hA8;rw[hz5.out]at o8 ⊢;have V8:=hid (V7.out.trans hb8);replace o8:=hid o8;clear hb8 hg8 hA8))
 go_ret
 exact⟨_,_,rfl,o8.out.base (Nat.le_succ _),W0.out.trans (V8.out.mono (Nat.le_succ _))⟩
theorem Zgj(x:Tx)(hx:x.ok)(b:Bool)(hb:decide (x.s=signD x)=b)(w:World):Calls Tryd.prog 53 #[.agg (txC x).toArray] w fun e w'=>e=.returned (.int .i64 (if b=true then 0 else 110))∧Below w.heap.size w w':=by
 have hu:=Tryd.underlying23
 have hux:=Tryd.underlying33
 have B0:=BoxX.new w x 33
 have W0:=hid (Zad w (.cells (txC x).toArray 33))
 have hBd:=hid (fun W=>Zg5 x hx W)
 have X0:=hid B0.all
 have S0:=hid B0.s
 have jx:=hid (Zby x)
 have js:=hid (ZaF x.s)
 have lb:=Zci x
 have hO:=fun A c W (h:Rd W A (bodyX x)) (h1:(bodyX x).length≤c) (h2:c≤maxLen)=>Ze5 4 A c (bodyX x) W h ⟨h1,h2⟩ (by rw[lb];decide)
 have hD:sha256 (tagB 4 [bodyX x])=(signD x).1:=rfl
 rw[hD,lb]at hO
 have hE:∀W,(Op.equalIn 10000 23 (.agg (x.s.1.map bv).toArray) (.agg ((signD x).1.map bv).toArray)).run Tryd.prog W=.ok b W:=fun W=>ZaL x.s (signD x) b hb W
 replace hO:=hid hO
 clear hD B0 hb
 generalize (signD x).1.map bv=dD at *
 generalize x.s.1.map bv=dS at *
 generalize txC x=cx at *
 generalize bodyX x=zb at *
 cases b
 all_goals
  go_enter Tryd.func53,Tryd.ntmps53
  go_wp2
  generalize w.alloc (.cells cx.toArray 33)=w1 at *
  refine rgB fun hHeld=>?_
  refine' tkP 0 rfl ?_
  refine' tkM 1 rfl (fun _ h=>Zab h S0.out) hu js.out ?_
  refine' tkM 2 rfl (fun _ h=>Zab h X0.out) hux jx.out ?_
  simp only[sQ]
  refine rdH 3 rfl fun K hK=>?_
  go_simp
  refine(hBd.out _).mono ?_
  rintro e v1 ⟨A2,c2,rfl,o2,hB⟩
  have q1:=o2.cap.1
  have q2:=o2.cap.2
  have q3:=o2.rd
  rw[lb]at q1
  go_wp2_with fail
  refine kB hK hHeld hB fun hHeld=>?_
  clear hK K
  try simp only[sQ]
  refine rdC 4 rfl (hO.out _ _ _ q3 q1 q2) fun v2 hB hHeld=>?_
  try simp only[sQ]
  refine' tkP 5 rfl ?_
  simp only[sQ]
  refine dnN ?_
  go_wp2
  go_ret
  exact⟨rfl,W0.out.trans (hHeld.mono W0.out.size)⟩
theorem Zi4(x:Tx)(w:World):Calls Tryd.prog 54 #[.agg (txC x).toArray] w fun e w'=>e=.returned (.agg ((keyD x.p).1.map bv).toArray)∧Below w.heap.size w w':=by
 have hu:=Tryd.underlying23
 have B0:=BoxX.new w x 33
 have h1:=Vx0 (w.alloc (.cells (txC x).toArray 33)) (.cells z32 23)
 have b1:=Zad (w.alloc (.cells (txC x).toArray 33)) (.cells z32 23)
 rw[Vx2]at h1
 have W1:=hid ((Zad w (.cells (txC x).toArray 33)).trans (b1.mono (Zad w _).size))
 have P1:=hid (Zab b1 B0.p)
 have jp:=hid (ZaF x.p)
 have hK:=hid (fun W=>Zoc x.p W)
 have z1:(((keyD x.p).1.map bv).toArray).size=32:=by simp[(keyD x.p).2]
 have o1:=Zay (keyD x.p).1
 replace h1:=hid h1
 clear B0 b1
 generalize (keyD x.p).1.map bv=dk at *
 generalize x.p.1.map bv=dp at *
 generalize txC x=cx at *
 go_enter Tryd.func54,Tryd.ntmps54
 go_wp2_with (first
  |(with_reducible refine Zac rfl 23 rfl z32 Zam ?_)
  |(with_reducible refine lDr P1.out jp.out hu ?_))
 refine(hK.out _).mono ?_
 rintro e w3 ⟨rfl,hb3⟩
 have R3:=hid ((hb3.block _ (block_lt h1.out)).trans h1.out)
 have W3:=hid (W1.out.trans (hb3.mono W1.out.size))
 clear hb3
 go_wp2_with (((with_reducible refine stW 2 5 (w.heap.size+1) 23 z32 ?_ ?_ ?_ ?_ ?_);exact R3.out;(rw[z1];exact Zai);(rw[z1];exact z32_size);exact o1;intro w4 hg4 hb4 hs4))
 refine Vy0 (v:=.agg dk.toArray) ?_ rfl ⟨rfl,?_⟩
 ·exact results_cell_row Tryd.results54 _ _ (w.heap.size+1) 23 _ (0,0) _ rfl hg4 hu rfl (by rw[z1];exact Zai)
 ·exact W3.out.grown hb4 W3.out.size (fun g e=>by injection e with e;omega)
end Go.Proofs.YtimaoonpgilekaaDoor
