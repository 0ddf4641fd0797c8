import Derived.Test.YtimaoonpgilekaaDoorRef19d
import Derived.Test.YtimaoonpgilekaaDoorRef19e
set_option linter.all false
namespace Go.Proofs.YtimaoonpgilekaaDoor
open Go.RowKit
set_option maxRecDepth 100000
theorem put_fineW{d:Dg}{xs:List Tx}{x:Tx}(h:pqE ⟨d,xs⟩ x=0):pqL ⟨d,xs⟩ x=⟨d,withL xs x⟩∧pqO ⟨d,xs⟩ x=(hitX xs x.n).toList:=Yn0 h
theorem hit_yes{xs:List Tx}(hs:soB xs=true){n:Nat}(h:hasN xs n=true):∃hk:cntN xs n<xs.length,(hitX xs n).toList=[xs[cntN xs n]]:=by
 have hk:=Yoy hs h
 refine⟨hk,?_⟩
 unfold hasN at h
 rw[Yol hs,dif_pos hk]at h ⊢
 by_cases h5:xs[cntN xs n].n=n
 ·rw[if_pos h5];rfl
 ·rw[if_neg h5]at h;cases h
theorem hit_no{xs:List Tx}{n:Nat}(h:hasN xs n=false):(hitX xs n).toList=[]:=by
 unfold hasN at h
 cases h4:hitX xs n
 ·rfl
 ·rw[h4]at h;cases h
theorem step_ownQ{w:World}{ops:Array Oper}{o:Oper}{a:Act}{K:Act→World→Prop}{Q:Exit→Act→World→Prop}{X:Prop}(hg:o.guard=none)(y:Operand)(hop:o.op=.buildSlice 24 1 #[(0,y)])(t:Tx)(ht:t.ok)(hy:a.eval y=.agg (txC t).toArray)
  (hK:∀g w',OwnR 33 w' w.heap.size (some ⟨g,0,none⟩) 1 [t]→Below w.heap.size w w'→K (a.put o.dst (.slice (some ⟨g,0,none⟩) 1 1)) w'):if Region.wanted o (yielded ops a.tmps)=true then Oper.wp Tryd.prog o a w K Q else X:=by
 have h:=Yqj [t] (by intro z hz;rw[Vy4]at hz;subst hz;exact ht) (by simp) w 33
 have e:(([t].map txC).flatten)=txC t:=by simp
 rw[e]at h
 exact ZbE slotTxQ (by decide) hg y hop (txC t) (by rw[hy];rfl) (ZgR t) (hK _ _ h (Zad _ _))
set_option maxHeartbeats 16000000 in
theorem RPutLn_any(F:Nat→Prop)(d:Dg)(A:Option Addr)(c:Nat)(xs:List Tx)(x:Tx)(w:World)(hr:Row F w A xs)(hx:x.ok)(hc:xs.length≤1000):
  Calls Tryd.prog 16 #[.agg (lnC d A xs.length c).toArray,.agg (txC x).toArray] w (LnQ w (pqL ⟨d,xs⟩ x) (pqO ⟨d,xs⟩ x) (pqE ⟨d,xs⟩ x)):=by
 have hul:=Tryd.underlying26
 have hux:=Tryd.underlying33
 have hu:=Tryd.underlying23
 have e1:=Zad w (.cells (lnC d A xs.length c).toArray 26)
 have e2:=Zad (w.alloc (.cells (lnC d A xs.length c).toArray 26)) (.cells (txC x).toArray 33)
 have e3:=Zad ((w.alloc (.cells (lnC d A xs.length c).toArray 26)).alloc (.cells (txC x).toArray 33)) (.cells zLnC 26)
 have z0:=Vx0 w (.cells (lnC d A xs.length c).toArray 26)
 replace z0:=(e2.block _ (block_lt z0)).trans z0
 replace z0:=(e3.block _ (block_lt z0)).trans z0
 have z1:=Vx0 (w.alloc (.cells (lnC d A xs.length c).toArray 26)) (.cells (txC x).toArray 33)
 replace z1:=(e3.block _ (block_lt z1)).trans z1
 have z2:=Vx0 ((w.alloc (.cells (lnC d A xs.length c).toArray 26)).alloc (.cells (txC x).toArray 33)) (.cells zLnC 26)
 simp only[Vx2]at z1 z2
 have W0:=hid (Zag (Zag e1 e2) e3)
 have L0:=hid (Zae z0)
 have X0:=hid (Zae z1)
 have R0:=hid (hr.any.bel W0.out)
 have jl0:=hid (YoL d A xs.length c)
 have jl:=hid (fun d A n c=>YoL d A n c)
 have zl:=hid (fun d A n c=>YoY d A n c)
 have ol:=hid (fun d A n c=>YoZ d A n c)
 have jx:=hid (Zby x)
 have jd:=hid (ZaF d)
 have hx0:=hid (fun (W:World) (h:W.rangeAt w.heap.size 0 (lnC d A xs.length c))=>(⟨(BoxL.of h).d,(BoxL.of h).x⟩:W.rangeAt w.heap.size 0 (d.1.map bv)∧W.cell? ⟨w.heap.size,32,none⟩=some (.slice A xs.length c)))
 have hxx:=hid (fun (W:World) (h:W.rangeAt (w.heap.size+1) 0 (txC x))=>(⟨(BoxX.of h).n,(BoxX.of h).f⟩:W.cell? ⟨w.heap.size+1,64,none⟩=some (.int .u64 (x.n:Int))∧W.cell? ⟨w.heap.size+1,66,none⟩=some (.int .u64 (x.f:Int))))
 have hOw:=hid (fun W=>ROwn_any d x hx W)
 replace z2:=hid z2
 clear e1 e2 e3 z0 z1
 obtain⟨em,hem⟩:∃m,mayL ⟨d,xs⟩=m:=⟨_,rfl⟩
 obtain⟨ow,how⟩:∃o,ownX x d=o:=⟨_,rfl⟩
 obtain⟨hv,hhv⟩:∃v,hasN xs x.n=v:=⟨_,rfl⟩
 have hM:=hid (fun W (h:Row (fun _=>True) W A xs)=>hem▸RMayLn_any (fun _=>True) d A c xs W h (by omega))
 rw[how]at hOw
 have K1:=hid (fun h:em=false=>Yp4 (Yqz (x:=x) (hem.trans h)) (by decide))
 have K2:=hid (fun (h:em=true) (h2:ow=false)=>Yp4 (Yqy (hem.trans h) (how.trans h2)) (by decide))
 have K3:=hid (fun (h:em=true) (h2:ow=true) (h3:hv=true)=>YqA (hem.trans h) (how.trans h2) (hhv.trans h3))
 have K4:=hid (fun (h:em=true) (h2:ow=true) (h3:hv=false)=>YqB (hem.trans h) (how.trans h2) (hhv.trans h3))
 have K5:=hid (fun (h:pqE ⟨d,xs⟩ x=0)=>put_fineW h)
 have K6:=hid (fun h:em=true=>(⟨(Yn2 (hem.trans h)).1,(Yn2 (hem.trans h)).2.1⟩:xs.length≤256∧soB xs=true))
 have K7:=hid (fun (e:Int) (h:pqE ⟨d,xs⟩ x=e) (h0:e≠0)=>(⟨h,(YoI (by rw[h];exact h0)).1,(YoI (by rw[h];exact h0)).2⟩:pqE ⟨d,xs⟩ x=e∧pqL ⟨d,xs⟩ x=zL∧pqO ⟨d,xs⟩ x=[]))
 have K8:=hid (fun (hs:soB xs=true) (h:hv=true)=>hit_yes hs (hhv.trans h))
 have K9:=hid (fun (h:hv=false)=>hit_no (hhv.trans h))
 have hix:idxN xs x.n=if hv=true then (cntN xs x.n:Int) else -1:=by unfold idxN;rw[hhv]
 have hFd:=hid (fun (hs:soB xs=true) W (h:Row (fun _=>True) W A xs)=>hix▸RFindLn_any (fun _=>True) d A c x.n xs W h hs (by omega))
 have hWi:=hid (fun (hs:soB xs=true) W (h:Row (fun _=>True) W A xs)=>RWithLn_any (fun _=>True) d A c xs x W h hs hx hc)
 have hkl:=hid (Ypi xs x.n)
 have hoks:=hid (fun j (hj:j<xs.length)=>(Yoa hr hj).choose_spec.choose_spec.2.2)
 have hfee:=hid (fun (W:World) (h:Row (fun _=>True) W A xs) k (hk:k<xs.length)=>Yql h hk)
 have RF:=hid ((hr.mono (G:=fun b=>b<w.heap.size) (fun b _ h=>h)).bel W0.out)
 have hrb:=hid (fun k (hk:k<xs.length) b o (hA:A=some ⟨b,o,none⟩)=>(show b<w.heap.size by obtain⟨b',o',hA',h0,h1,h2⟩:=hr (by omega);rw[hA]at hA';injection hA' with e;injection e with e1 e2;omega))
 have hrow:=hid (fun (W:World) (h:Row (fun _=>True) W A xs) k (hk:k<xs.length)=>Yoa h hk)
 generalize cntN xs x.n=k at *
 generalize withL xs x=wl at *
 obtain⟨E,hE⟩:∃E,pqE ⟨d,xs⟩ x=E:=⟨_,rfl⟩
 obtain⟨L,hL⟩:∃L,pqL ⟨d,xs⟩ x=L:=⟨_,rfl⟩
 obtain⟨O,hO⟩:∃O,pqO ⟨d,xs⟩ x=O:=⟨_,rfl⟩
 simp only[hE,hL,hO]at K1 K2 K3 K4 K5 K7 ⊢
 clear hem how hhv hE hL hO hix hr
 obtain⟨cl,hcl⟩:∃l,lnC d A xs.length c=l:=⟨_,rfl⟩
 rw[hcl]at L0 X0 R0 RF W0 jl0 hx0 hM hFd hWi z2 ⊢
 generalize txC x=cx at *
 generalize d.1.map bv=cd at *
 go_enter Tryd.func16,Tryd.ntmps16
 go_wp2_with (first
  |(with_reducible refine Zac rfl 26 rfl zLnC YoX ?_)
  |(with_reducible refine lDr L0.out jl0.out hul ?_))
 refine(hM.out _ R0.out).mono ?_
 rintro e w3 ⟨rfl,hb⟩
 have hb03:=hid hb
 have W3:=hid (W0.out.trans (hb.mono W0.out.size))
 have z3:=hid ((hb.block _ (block_lt z2.out)).trans z2.out)
 have L3:=hid (Zab hb L0.out)
 have X3:=hid (Zab hb X0.out)
 have R3:=hid (R0.out.bel hb)
 clear hb W0 L0 X0 R0 z2
 cases em
 ·obtain⟨rfl,rfl,rfl⟩:=K1.out (by first|rfl|trivial)
  clear K1 K2 K3 K4 K5 K6 K7 K8 K9 hFd hWi
  go_wp2_with (first
   |((with_reducible refine Zaf rfl 26 _ rfl zLnC [] ?_ ?_ ?_);exact YoF;rfl)
   |((with_reducible refine stW 4 11 (w.heap.size+1+1) 26 zLnC ?_ ?_ ?_ ?_ ?_);exact z3.out;exact jl.out zL.d none 0 0;rfl;exact ol.out zL.d none 0 0;intro we hge hbe hse))
  refine Vy0 (v:=.tuple #[.agg zLnC,.slice none 0 0,.int .i64 8]) ?_ rfl (Ypr (W3.out.grown hbe W3.out.size (fun g e=>by injection e with e;omega)))
  exact Ypa Tryd.results16 _ _ (w.heap.size+1+1) 26 _ (0,0) _ _ _ rfl rfl rfl hge rfl hul (jl.out zL.d none 0 0)
 obtain⟨h256,hso⟩:=K6.out (by first|rfl|trivial)
 replace hFd:=hid (hFd.out hso)
 replace hWi:=hid (hWi.out hso)
 replace K8:=hid (K8.out hso)
 clear K1
 go_wp2_with (first
  |(with_reducible refine lDr X3.out jx.out hux ?_)
  |(with_reducible refine lDr ((hx0.out _ L3.out).1) jd.out hu ?_))
 refine(hOw.out _).mono ?_
 rintro e w4 ⟨rfl,hb⟩
 have hb04:=hid (hb03.out.trans (hb.mono hb03.out.size))
 have W4:=hid (W3.out.trans (hb.mono W3.out.size))
 have z4:=hid ((hb.block _ (block_lt z3.out)).trans z3.out)
 have L4:=hid (Zab hb L3.out)
 have X4:=hid (Zab hb X3.out)
 have R4:=hid (R3.out.bel hb)
 clear hb W3 L3 X3 R3 z3
 cases ow
 ·obtain⟨rfl,rfl,rfl⟩:=K2.out (by first|rfl|trivial) (by first|rfl|trivial)
  clear K2 K3 K4 K5 K6 K7 K8 K9 hFd hWi
  go_wp2_with (first
   |((with_reducible refine Zaf rfl 26 _ rfl zLnC [] ?_ ?_ ?_);exact YoF;rfl)
   |((with_reducible refine stW 4 17 (w.heap.size+1+1) 26 zLnC ?_ ?_ ?_ ?_ ?_);exact z4.out;exact jl.out zL.d none 0 0;rfl;exact ol.out zL.d none 0 0;intro we hge hbe hse))
  refine Vy0 (v:=.tuple #[.agg zLnC,.slice none 0 0,.int .i64 2]) ?_ rfl (Ypr (W4.out.grown hbe W4.out.size (fun g e=>by injection e with e;omega)))
  exact Ypa Tryd.results16 _ _ (w.heap.size+1+1) 26 _ (0,0) _ _ _ rfl rfl rfl hge rfl hul (jl.out zL.d none 0 0)
 clear K2
 have xn4:=(hxx.out _ X4.out).1
 go_wp2_with ((with_reducible refine lDr L4.out jl0.out hul ?_))
 refine(hFd.out _ R4.out).mono ?_
 rintro e w5 ⟨rfl,hb⟩
 have hb05:=hid (hb04.out.trans (hb.mono hb04.out.size))
 have W5:=hid (W4.out.trans (hb.mono W4.out.size))
 have z5:=hid ((hb.block _ (block_lt z4.out)).trans z4.out)
 have L5:=hid (Zab hb L4.out)
 have X5:=hid (Zab hb X4.out)
 have R5:=hid (R4.out.bel hb)
 clear hb W4 L4 X4 R4 z4
 clear xn4
 have c5:=(hx0.out _ L5.out).2
 have f5:=(hxx.out _ X5.out).2
 cases hv
 ·have hE:=K4.out (by first|rfl|trivial) (by first|rfl|trivial) (by first|rfl|trivial)
  have hno:¬(-1:Int)≥0:=by decide
  clear K3 K8
  by_cases h6:xs.length=256
  ·rw[if_pos h6]at hE
   obtain⟨rfl,rfl,rfl⟩:=K7.out _ hE (by decide)
   have hq:(256:Int)≤(xs.length:Int):=by omega
   clear K4 K5 K7 h6
   go_wp2_with (first
    |((with_reducible refine Zaf rfl 26 _ rfl zLnC [] ?_ ?_ ?_);exact YoF;rfl)
    |((with_reducible refine stW 4 47 (w.heap.size+1+1) 26 zLnC ?_ ?_ ?_ ?_ ?_);exact z5.out;exact jl.out zL.d none 0 0;rfl;exact ol.out zL.d none 0 0;intro we hge hbe hse))
   refine Vy0 (v:=.tuple #[.agg zLnC,.slice none 0 0,.int .i64 9]) ?_ rfl (Ypr (W5.out.grown hbe W5.out.size (fun g e=>by injection e with e;omega)))
   exact Ypa Tryd.results16 _ _ (w.heap.size+1+1) 26 _ (0,0) _ _ _ rfl rfl rfl hge rfl hul (jl.out zL.d none 0 0)
  ·rw[if_neg h6]at hE
   obtain⟨hL,hO⟩:=K5.out hE
   rw[K9.out (by first|rfl|trivial)]at hO
   subst hE hL hO
   have hq:¬(256:Int)≤(xs.length:Int):=by omega
   clear K4 K5 K7 h6
   go_wp2_with (first
    |(with_reducible refine lDr L5.out jl0.out hul ?_)
    |(with_reducible refine lDr X5.out jx.out hux ?_))
   refine(hWi.out _ R5.out).mono ?_
   rintro e w6 ⟨A6,c6,rfl,o6,hb⟩
   have s5:=hid (show w.heap.size+1+1<w5.heap.size from block_lt z5.out)
   have W6:=hid (W5.out.trans (hb.mono W5.out.size))
   have z6:=hid ((hb.block _ (block_lt z5.out)).trans z5.out)
   have L6:=hid (Zab hb L5.out)
   have X6:=hid (Zab hb X5.out)
   have R6:=hid (R5.out.bel hb)
   clear hb W5 L5 X5 R5 z5
   have O6:=hid o6
   clear o6
   go_wp2_with (((with_reducible refine stW 4 50 (w.heap.size+1+1) 26 zLnC ?_ ?_ ?_ ?_ ?_);exact z6.out;exact jl.out _ _ _ _;exact zl.out _ _ _ _;exact ol.out _ _ _ _;intro we hge hbe hse))
   refine Vy0 (v:=.tuple #[.agg (lnC d A6 wl.length c6).toArray,.slice none 0 0,.int .i64 0]) ?_ rfl ⟨A6,c6,none,0,rfl,OwnR.base (OwnQ.keptAtQ O6.out hbe s5.out s5.out) (by have:=s5.out;omega),OwnR.nil _ _,W6.out.grown hbe W6.out.size (fun g e=>by injection e with e;omega)⟩
   exact Ypa Tryd.results16 _ _ (w.heap.size+1+1) 26 _ (0,0) _ _ _ rfl rfl rfl hge rfl hul (jl.out _ _ _ _)
 ·obtain⟨hkx,hE⟩:=K3.out (by first|rfl|trivial) (by first|rfl|trivial) (by first|rfl|trivial)
  obtain⟨hkx2,hOO⟩:=K8.out (by first|rfl|trivial)
  have hno:(k:Int)≥0:=by omega
  clear K4 K9
  obtain⟨bb,o,hA,cf,-⟩:=hfee.out _ R5.out k hkx
  have hkx3:(k:Int)<(xs.length:Int):=by omega
  by_cases hle:x.f≤xs[k].f
  ·rw[if_pos hle]at hE
   obtain⟨rfl,rfl,rfl⟩:=K7.out _ hE (by decide)
   have hle2:(x.f:Int)≤(xs[k].f:Int):=by omega
   subst hA
   clear K3 K5 K7 K8 hle hOO
   generalize xs[k].f=fk at *
   go_wp2
   refine rgB fun hHeld=>?_
   refine' tkP 0 rfl ?_
   refine' tkC 1 rfl f5 ?_
   refine' tkP 2 rfl ?_
   refine' tkC 3 rfl c5 ?_
   simp only[sQ]
   refine' tkW 4 5 ?_
   refine' tkP 6 rfl ?_
   refine' tkC 7 rfl cf ?_
   simp only[sQ]
   refine' tkP 8 rfl ?_
   simp only[sQ]
   refine dnN ?_
   have W6:=hid (W5.out.trans (hHeld.mono W5.out.size))
   have z6:=hid ((hHeld.block _ (block_lt z5.out)).trans z5.out)
   go_wp2_with (first
    |((with_reducible refine Zaf rfl 26 _ rfl zLnC [] ?_ ?_ ?_);exact YoF;rfl)
    |((with_reducible refine stW 4 33 (w.heap.size+1+1) 26 zLnC ?_ ?_ ?_ ?_ ?_);exact z6.out;exact jl.out zL.d none 0 0;rfl;exact ol.out zL.d none 0 0;intro we hge hbe hse))
   refine Vy0 (v:=.tuple #[.agg zLnC,.slice none 0 0,.int .i64 190]) ?_ rfl (Ypr (W6.out.grown hbe W6.out.size (fun g e=>by injection e with e;omega)))
   exact Ypa Tryd.results16 _ _ (w.heap.size+1+1) 26 _ (0,0) _ _ _ rfl rfl rfl hge rfl hul (jl.out zL.d none 0 0)
  ·rw[if_neg hle]at hE
   obtain⟨hL,hO⟩:=K5.out hE
   rw[hOO]at hO
   subst hE hL hO
   have hle2:¬(x.f:Int)≤(xs[k].f:Int):=by omega
   have hry:=hid (fun (W:World) (h:Row (fun _=>True) W A xs)=>hrow.out W h k hkx)
   have hyk:=hid (hoks.out k hkx)
   have jy:=hid (Zby xs[k])
   have RF5:=hid (RF.out.bel hb05.out)
   clear K3 K5 K7 K8 hle
   obtain⟨bb2,o2,hA2,ry,-⟩:=hrow.out _ R5.out k hkx
   have hbo:bb2=bb∧o2=o:=by rw[hA]at hA2;injection hA2 with e;injection e with e1 e2;exact⟨e1.symm,e2.symm⟩
   obtain⟨rfl,rfl⟩:=hbo
   have hbw:=hid (hrb.out k hkx _ _ hA)
   obtain⟨yk,hyk2⟩:∃y,xs[k]=y:=⟨_,rfl⟩
   rw[hyk2]at cf hle2 hyk jy ry ⊢
   subst hA
   go_wp2
   refine rgB fun hHeld=>?_
   refine' tkP 0 rfl ?_
   refine' tkC 1 rfl f5 ?_
   refine' tkP 2 rfl ?_
   refine' tkC 3 rfl c5 ?_
   simp only[sQ]
   refine' tkW 4 5 ?_
   refine' tkP 6 rfl ?_
   refine' tkC 7 rfl cf ?_
   simp only[sQ]
   refine' tkP 8 rfl ?_
   simp only[sQ]
   refine dnN ?_
   have W6:=hid (W5.out.trans (hHeld.mono W5.out.size))
   have z6:=hid ((hHeld.block _ (block_lt z5.out)).trans z5.out)
   have L6:=hid (Zab hHeld L5.out)
   have X6:=hid (Zab hHeld X5.out)
   have R6:=hid (R5.out.bel hHeld)
   have y6:=hid (Zab hHeld ry)
   have RF6:=hid (RF5.out.bel hHeld)
   have s6:=hid (show w.heap.size+1+1<w5.heap.size from block_lt z5.out)
   have s7:=hid (show w.heap.size+1+1<w5.drew.heap.size from s6.out)
   clear hHeld f5 c5 cf W5 z5 L5 X5 R5 ry
   go_wp2
   generalize w5.drew=w6 at *
   have c6:=(hx0.out _ L6.out).2
   focus
    refine wp_region_noPanic ?_
    refine wp_region_held_drew (S:=fun W=>Chg (fun b=>b=w.heap.size+1+1) w6 W) (by kernel_rfl) ?_ (fun hHeld=>?_)
    ·exact Chg.of_bel (Zao w6)
    refine' tkM 0 rfl (fun _ h=>(Zak L6.out (fun hb=>h.block _ hb (show ¬w.heap.size=w.heap.size+1+1 by omega)))) hul jl0.out ?_
    refine' tkM 1 rfl (fun _ h=>(Zak X6.out (fun hb=>h.block _ hb (show ¬w.heap.size+1=w.heap.size+1+1 by omega)))) hux jx.out ?_
    refine' tkP 3 rfl ?_
    refine' tkF 4 (fun W hSw=>(chg_cell hSw c6 (show ¬w.heap.size=w.heap.size+1+1 by omega))) rfl ?_
    simp only[sQ]
    refine' tkW 5 6 ?_
    refine' tkM 7 rfl (fun _ h=>(Zak y6.out (fun hb=>h.block _ hb (fun e=>by have:=hbw.out;omega)))) hux jy.out ?_
    simp only[sQ]
    refine Ynx 2 8 rfl rfl (fun K hK=>?_) (fun K hK=>?_)
    focus
     go_simp
     refine(hWi.out _ ((RF6.out.chg hHeld (fun b hb _ e=>by omega)).any)).mono ?_
     rintro e v2 ⟨A6,q6,rfl,o6,hB⟩
     replace o6:=OwnR.base o6 hHeld.size
     replace z6:=hid ((hB.block _ (block_lt (by first|exact z6.out|exact show w6.drew.heap[w.heap.size+1+1]? =_ from z6.out))).trans z6.out)
     try replace q8:=q8.bel hB
     go_wp2_with fail
     refine hK.out _ _ (hHeld.trans (Chg.of_bel hB)) fun hHeld=>?_
     clear hK K
     try simp only[sQ]
     refine Ynx 8 9 rfl rfl (fun K hK=>?_) (fun K hK=>?_)
     focus
      refine step_ownQ rfl (.tmp 41) rfl yk hyk.out rfl ?_
      intro g8 v8 q8 hB
      replace q8:=OwnR.base q8 hHeld.size
      try replace o6:=o6.bel hB
      try replace z6:=hid ((hB.block _ (block_lt (by first|exact z6.out|exact show w6.drew.heap[w.heap.size+1+1]? =_ from z6.out))).trans z6.out)
      try replace d9:=(hB.block _ (block_lt d9)).trans d9
      refine hK.out _ _ (hHeld.trans (Chg.of_bel hB)) fun hHeld=>?_
      clear hK K
      try simp only[sQ]
      refine rdH 9 rfl fun K hK=>?_
      refine Zaj rfl 26 (.tmp 4) (.tmp 36) rfl (w.heap.size+1+1) _ rfl rfl 26 zLnC z6.out (jl.out _ _ _ _) (zl.out _ _ _ _) (ol.out _ _ _ _) ?_
      intro v9 d9 hG
      replace o6:=OwnQ.keptAtQ o6 hG s7.out s7.out
      try replace q8:=OwnQ.keptAtQ q8 hG s7.out s7.out
      refine hK.out _ _ (hHeld.trans ((Chg.of_grown hG).mono (fun b _ e=>by injection e))) fun hHeld=>?_
      clear hK K
      try simp only[sQ]
      refine' tkW 10 11 ?_
      simp only[sQ]
     rotate_left
     focus
      refine Zaj rfl 26 (.tmp 4) (.tmp 36) rfl (w.heap.size+1+1) _ rfl rfl 26 zLnC z6.out (jl.out _ _ _ _) (zl.out _ _ _ _) (ol.out _ _ _ _) ?_
      intro v9 d9 hG
      replace o6:=OwnQ.keptAtQ o6 hG s7.out s7.out
      try replace q8:=OwnQ.keptAtQ q8 hG s7.out s7.out
      refine hK.out _ _ (hHeld.trans ((Chg.of_grown hG).mono (fun b _ e=>by injection e))) fun hHeld=>?_
      clear hK K
      try simp only[sQ]
      refine rdH 8 rfl fun K hK=>?_
      refine step_ownQ rfl (.tmp 41) rfl yk hyk.out rfl ?_
      intro g8 v8 q8 hB
      replace q8:=OwnR.base q8 hHeld.size
      try replace o6:=o6.bel hB
      try replace z6:=hid ((hB.block _ (block_lt (by first|exact z6.out|exact show w6.drew.heap[w.heap.size+1+1]? =_ from z6.out))).trans z6.out)
      try replace d9:=(hB.block _ (block_lt d9)).trans d9
      refine hK.out _ _ (hHeld.trans (Chg.of_bel hB)) fun hHeld=>?_
      clear hK K
      try simp only[sQ]
      refine' tkW 10 11 ?_
      simp only[sQ]
    rotate_left 2
    focus
     refine step_ownQ rfl (.tmp 41) rfl yk hyk.out rfl ?_
     intro g8 v8 q8 hB
     replace q8:=OwnR.base q8 hHeld.size
     try replace o6:=o6.bel hB
     try replace z6:=hid ((hB.block _ (block_lt (by first|exact z6.out|exact show w6.drew.heap[w.heap.size+1+1]? =_ from z6.out))).trans z6.out)
     try replace d9:=(hB.block _ (block_lt d9)).trans d9
     refine hK.out _ _ (hHeld.trans (Chg.of_bel hB)) fun hHeld=>?_
     clear hK K
     try simp only[sQ]
     refine rdH 2 rfl fun K hK=>?_
     go_simp
     refine(hWi.out _ ((RF6.out.chg hHeld (fun b hb _ e=>by omega)).any)).mono ?_
     rintro e v2 ⟨A6,q6,rfl,o6,hB⟩
     replace o6:=OwnR.base o6 hHeld.size
     replace z6:=hid ((hB.block _ (block_lt (by first|exact z6.out|exact show w6.drew.heap[w.heap.size+1+1]? =_ from z6.out))).trans z6.out)
     try replace q8:=q8.bel hB
     go_wp2_with fail
     refine hK.out _ _ (hHeld.trans (Chg.of_bel hB)) fun hHeld=>?_
     clear hK K
     try simp only[sQ]
     refine rdH 9 rfl fun K hK=>?_
     refine Zaj rfl 26 (.tmp 4) (.tmp 36) rfl (w.heap.size+1+1) _ rfl rfl 26 zLnC z6.out (jl.out _ _ _ _) (zl.out _ _ _ _) (ol.out _ _ _ _) ?_
     intro v9 d9 hG
     replace o6:=OwnQ.keptAtQ o6 hG s7.out s7.out
     try replace q8:=OwnQ.keptAtQ q8 hG s7.out s7.out
     refine hK.out _ _ (hHeld.trans ((Chg.of_grown hG).mono (fun b _ e=>by injection e))) fun hHeld=>?_
     clear hK K
     try simp only[sQ]
     refine' tkW 10 11 ?_
     simp only[sQ]
    all_goals
     refine dnN ?_
     go_wp2
     refine Vy0 (v:=.tuple #[.agg (lnC d A6 wl.length q6).toArray,.slice (some ⟨g8,0,none⟩) 1 1,.int .i64 0]) ?_ rfl ⟨A6,q6,some ⟨g8,0,none⟩,1,rfl,OwnR.base (B:=w6.heap.size) o6 (by have:=s7.out;omega),(by first|exact OwnR.base (B:=w6.heap.size) q8 (by have:=s7.out;omega)|(rw[hyk2];exact OwnR.base (B:=w6.heap.size) q8 (by have:=s7.out;omega))),W6.out.trans (hHeld.below W6.out.size (fun b hb e=>by omega))⟩
     exact Ypa Tryd.results16 _ _ (w.heap.size+1+1) 26 _ (0,0) _ _ _ rfl rfl rfl d9 rfl hul (jl.out _ _ _ _)
end Go.Proofs.YtimaoonpgilekaaDoor
