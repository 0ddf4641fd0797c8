import Derived.Test.YtimaoonpgilekaaDoorRef19c
set_option linter.all false
namespace Go.Proofs.YtimaoonpgilekaaDoor
open Go.RowKit
set_option maxRecDepth 100000
def restW:Bool→List Tx→Tx→List Tx
 |dn,[],x=>if dn=true then [] else [x]
 |dn,y::r,x=>(if (!dn&&decide (x.n≤y.n))=true then [x] else [])++((if x.n=y.n then [] else [y])++restW (dn||decide (x.n≤y.n)) r x)
theorem restW_all{l:List Tx}{x:Tx}(h:∀y∈l,x.n≠y.n):restW true l x=l:=by
 induction l with
 |nil=>rfl
 |cons y r ih=>
  unfold restW
  rw[if_neg (by simp),if_neg (h y (by simp)),Bool.true_or,ih (fun z hz=>h z (by simp[hz]))]
  rfl
theorem restW_with{xs:List Tx}(hs:soB xs=true)(x:Tx):restW false xs x=withL xs x:=by
 induction xs with
 |nil=>rfl
 |cons y r ih=>
  have hp:=List.pairwise_cons.1 (YnX.1 hs)
  have ih2:=ih (YnX.2 hp.2)
  unfold restW withL
  by_cases h:y.n<x.n
  ·rw[if_neg (by simp;omega),if_neg (by omega),Vy1 (show ¬x.n≤y.n by omega),Bool.or_false,ih2,List.takeWhile_cons_of_pos (by simpa using h),List.dropWhile_cons_of_pos (by simp;omega)]
   rfl
  ·have h2:x.n≤y.n:=by omega
   have h3:restW true r x=r:=restW_all (fun z hz=>by have:=hp.1 z hz;omega)
   rw[if_pos (by simp[h2]),Vy2 h2,Bool.or_true,h3,List.takeWhile_cons_of_neg (by simpa using h)]
   by_cases h4:x.n=y.n
   ·rw[if_pos h4,List.dropWhile_cons_of_pos (by simp;omega)]
    have h5:r.dropWhile (fun y=>decide (y.n≤x.n))=r:=by
     cases r with
     |nil=>rfl
     |cons z t=>
      have:=hp.1 z (by simp)
      rw[List.dropWhile_cons_of_neg (by simp;omega)]
    rw[h5];rfl
   ·rw[if_neg h4,List.dropWhile_cons_of_neg (by simp;omega)]
    rfl
theorem restW_get(dn:Bool){xs:List Tx}{j:Nat}(hj:j<xs.length)(x:Tx):restW dn (xs.drop j) x=(if (!dn&&decide (x.n≤xs[j].n))=true then [x] else [])++((if x.n=xs[j].n then [] else [xs[j]])++restW (dn||decide (x.n≤xs[j].n)) (xs.drop (j+1)) x):=by
 rw[List.drop_eq_getElem_cons hj];rfl
structure OutW (w1:World) (g:Nat) (d:Dg) (W:World) (os:List Tx) (A:Option Addr) (c:Nat):Prop where
 heap:W.heap[g]? =some (.cells (lnC d A os.length c).toArray 26 (0,0))
 own:OwnR 33 W w1.heap.size A c os
 chg:Chg (fun b=>b=g) w1 W
theorem OutW.bel{w1 W V:World}{g:Nat}{d:Dg}{os:List Tx}{A:Option Addr}{c:Nat}(h:OutW w1 g d W os A c)(hb:Below W.heap.size W V):OutW w1 g d V os A c:=
 ⟨(hb.block _ (block_lt h.heap)).trans h.heap,h.own.bel hb,h.chg.trans (Chg.of_bel hb)⟩
theorem OutW.put{w1 W V:World}{g:Nat}{d:Dg}{os os':List Tx}{A A':Option Addr}{c c':Nat}(h:OutW w1 g d W os A c)(hg:g<w1.heap.size)(hb:Below w1.heap.size W V)(o':OwnR 33 V w1.heap.size A' c' os'):OutW w1 g d (V.setCell ⟨g,32,none⟩ (.slice A' os'.length c')) os' A' c':=
 ⟨YqF ((hb.block _ hg).trans h.heap) A' os'.length c',OwnQ.keptL (g:=g) o' (fun b _ hne=>Vy3 V ⟨g,32,none⟩ _ b hne) hg hg,
  ⟨hb.os.trans h.chg.os,hb.tape.trans h.chg.tape,hb.output.trans h.chg.output,Vx1 h.chg.size (Vx1 hb.size (by simp[World.setCell])),fun b hl hne=>(Vy3 V ⟨g,32,none⟩ _ b hne).trans ((hb.block b hl).trans (h.chg.block b hl hne))⟩⟩
theorem chg_cell{F:Nat→Prop}{w W:World}{a:Addr}{v:Value}(h:Chg F w W)(hc:w.cell? a=some v)(hF:¬F a.block):W.cell? a=some v:=
 (World.cell?_of_block (h.block _ (Vx5 _ _ hc) hF)).trans hc
set_option maxHeartbeats 16000000 in
theorem RWithLn_any(F:Nat→Prop)(d:Dg)(A:Option Addr)(c:Nat)(xs:List Tx)(x:Tx)(w:World)(hr:Row F w A xs)(hso:soB xs=true)(hx:x.ok)(hc:xs.length≤1000):
  Calls Tryd.prog 40 #[.agg (lnC d A xs.length c).toArray,.agg (txC x).toArray] w fun e w'=>∃A' c',e=.returned (.agg (lnC d A' (withL xs x).length c').toArray)∧OwnR 33 w' w.heap.size A' c' (withL xs x)∧Below w.heap.size w w':=by
 obtain⟨R,hR⟩:∃r,withL xs x=r:=⟨_,rfl⟩
 have hR0:=hid ((restW_with hso x).trans hR)
 rw[hR]
 clear hR
 have hul:=Tryd.underlying26
 have hu:=Tryd.underlying23
 have hux:=Tryd.underlying33
 have e1:=Zad w (.cells (lnC d A xs.length c).toArray 26)
 have e2:=Zad (w.alloc (.cells (lnC d A xs.length c).toArray 26)) (.cells (txC x).toArray 33)
 have e3:=Zad ((w.alloc (.cells (lnC d A xs.length c).toArray 26)).alloc (.cells (txC x).toArray 33)) (.cells zLnC 26)
 have e4:=Zad (((w.alloc (.cells (lnC d A xs.length c).toArray 26)).alloc (.cells (txC x).toArray 33)).alloc (.cells zLnC 26)) (.cells zLnC 26)
 have z0:=Vx0 w (.cells (lnC d A xs.length c).toArray 26)
 replace z0:=(e3.block _ (block_lt ((e2.block _ (block_lt z0)).trans z0))).trans ((e2.block _ (block_lt z0)).trans z0)
 have D0:=hid (BoxL.of (Zae z0)).d
 replace z0:=(e4.block _ (block_lt z0)).trans z0
 have z1:=Vx0 (w.alloc (.cells (lnC d A xs.length c).toArray 26)) (.cells (txC x).toArray 33)
 replace z1:=(e3.block _ (block_lt z1)).trans z1
 replace z1:=(e4.block _ (block_lt z1)).trans z1
 have z2:=Vx0 ((w.alloc (.cells (lnC d A xs.length c).toArray 26)).alloc (.cells (txC x).toArray 33)) (.cells zLnC 26)
 replace z2:=(e4.block _ (block_lt z2)).trans z2
 have z3:=Vx0 (((w.alloc (.cells (lnC d A xs.length c).toArray 26)).alloc (.cells (txC x).toArray 33)).alloc (.cells zLnC 26)) (.cells zLnC 26)
 simp only[Vx2]at z1 z2
 have W0:=hid (Zag (Zag (Zag e1 e2) e3) e4)
 have Rw:=hid hr
 have jd:=hid (ZaF d)
 have jl:=hid (fun A n c=>YoL d A n c)
 have zl:=hid (fun A n c=>YoY d A n c)
 have ol:=hid (fun A n c=>YoZ d A n c)
 have jx:=hid (Zby x)
 have bf:=hid (YoG d)
 have hbx:=hid (fun (W:World) (g:Nat) A n c (h:W.heap[g]? =some (.cells (lnC d A n c).toArray 26 (0,0)))=>(BoxL.of (Zae h)).x)
 have hx0:=hid (fun (W:World) (h:W.heap[w.heap.size]? =some (.cells (lnC d A xs.length c).toArray 26 (0,0)))=>(BoxL.of (Zae h)).x)
 have hxx:=hid (fun (W:World) (h:W.heap[w.heap.size+1]? =some (.cells (txC x).toArray 33 (0,0)))=>(⟨Zae h,(BoxX.of (Zae h)).n⟩:W.rangeAt (w.heap.size+1) 0 (txC x)∧W.cell? ⟨w.heap.size+1,64,none⟩=some (.int .u64 (x.n:Int))))
 have hvx:[Value.agg (txC x).toArray]=[x].map fun x=>Value.agg (txC x).toArray:=rfl
 have hnx:Hid ([x].length=1):=hid rfl
 have hox:Hid (∀ z∈[x],z.ok):=hid (by intro z hz;rw[Vy4]at hz;subst hz;exact hx)
 replace hvx:=hid hvx
 replace z0:=hid z0
 replace z1:=hid z1
 replace z2:=hid z2
 replace z3:=hid z3
 clear e1 e2 e3 e4 hr hso hx
 generalize d.1.map bv=cd at *
 generalize txC x=cx at *
 obtain⟨cl,hcl⟩:∃l,lnC d A xs.length c=l:=⟨_,rfl⟩
 rw[hcl]at D0 z0 z1 z2 z3 W0 hx0 ⊢
 go_enter Tryd.func40,Tryd.ntmps40
 go_wp2_with (first
  |(with_reducible refine Zac rfl 26 rfl zLnC YoX ?_)
  |(with_reducible refine lDr D0.out jd.out hu ?_)
  |((with_reducible refine Zaf rfl 26 _ rfl (lnC d none 0 0).toArray [(0,.agg cd.toArray)] ?_ ?_ ?_);exact bf.out;rfl)
  |((with_reducible refine wpList_store_row rfl 26 (.tmp 5) (.tmp 10) rfl _ (lnC d none 0 0).toArray rfl rfl 26 zLnC ?_ ?_ ?_ ?_ ?_);exact z3.out;exact jl.out _ _ _;exact zl.out _ _ _;exact ol.out _ _ _;intro w1 hg4 hb4 hs4;simp only[Vx2]at hg4 hb4;have X1:=hid (W0.out.grown hb4 W0.out.size (fun g e=>by injection e with e;omega));have y0:=hid ((hb4.block _ (block_lt z0.out) (by first|(simp;done)|(simp;omega))).trans z0.out);have y1:=hid ((hb4.block _ (block_lt z1.out) (by first|(simp;done)|(simp;omega))).trans z1.out);have y2:=hid ((hb4.block _ (block_lt z2.out) (by first|(simp;done)|(simp;omega))).trans z2.out);have y3:=hid hg4;have s1:=hid (show w.heap.size+1+1+1<w1.heap.size from block_lt hg4);clear hg4 hb4 hs4))
 have c01:=hid (hx0.out _ y0.out)
 have x01:=hid (hxx.out _ y1.out)
 have R1:=hid ((Rw.out.mono (G:=fun b=>b<w.heap.size) (fun b _ h=>h)).bel X1.out)
 have hrowb:=hid (fun (W:World) (h:Row (fun b=>b<w.heap.size) W A xs) (hn:0<xs.length) b o (hA:A=some ⟨b,o,none⟩)=>(show b<w.heap.size by obtain⟨b',o',hA',h1,-,-⟩:=h hn;rw[hA]at hA';injection hA' with e;injection e with e1 e2;omega))
 clear z0 z1 z2 z3 W0 D0 Rw y0 y1
 go_loopw [6,7] (fun b i wr=>∃(j:Nat) (dn:Bool) (os:List Tx) (Ao:Option Addr) (co:Nat),j≤xs.length∧i=.int .i64 j∧b=.bool dn∧os++restW dn (xs.drop j) x=R∧os.length≤2 * j∧OutW w1 (w.heap.size+1+1+1) d wr os Ao co) (fun _ i _=>xs.length-(intOf i).toNat)
 case atStart=>exact⟨0,false,[],none,0,Nat.zero_le _,rfl,rfl,hR0.out,by simp,y3.out,OwnR.nil _ _,Chg.refl _ _⟩
 case round=>
  obtain⟨j,dn,os,Ao,co,hj,rfl,rfl,hos,hol,hO⟩:=hrel
  have hg:=s1.out
  have hcl:=hid (fun (W:World) (h:Chg (fun b=>b=w.heap.size+1+1+1) w1 W)=>chg_cell h c01.out (show ¬w.heap.size=w.heap.size+1+1+1 by omega))
  have hcx:=hid (fun (W:World) (h:Chg (fun b=>b=w.heap.size+1+1+1) w1 W)=>chg_cell h x01.out.2 (show ¬w.heap.size+1=w.heap.size+1+1+1 by omega))
  have hrx:=hid (fun (W:World) (h:Chg (fun b=>b=w.heap.size+1+1+1) w1 W)=>Zak x01.out.1 (fun hb=>h.block _ hb (show ¬w.heap.size+1=w.heap.size+1+1+1 by omega)))
  have hO9:=hid hO
  by_cases hlt:j<xs.length
  ·obtain⟨b,o,hA,rj,cn,mj⟩:=YpD R1.out hlt
   have hbw:=hrowb.out _ R1.out (by omega) b o hA
   subst hA
   have hlt2:(j:Int)<(xs.length:Int):=by omega
   have hrest:=restW_get dn hlt x
   rw[hrest]at hos
   have jy:=hid (Zby xs[j])
   have hvy:[Value.agg (txC xs[j]).toArray]=[xs[j]].map fun x=>Value.agg (txC x).toArray:=rfl
   have hny:Hid ([xs[j]].length=1):=hid rfl
   have hoy:Hid (∀ z∈[xs[j]],z.ok):=hid (by intro z hz;rw[Vy4]at hz;subst hz;exact mj)
   replace hvy:=hid hvy
   have hcy:=hid (fun (W:World) (h:Chg (fun b=>b=w.heap.size+1+1+1) w1 W)=>chg_cell h cn (show ¬b=w.heap.size+1+1+1 by omega))
   have hry:=hid (fun (W:World) (h:Chg (fun b=>b=w.heap.size+1+1+1) w1 W)=>Zak rj (fun hb=>h.block _ hb (show ¬b=w.heap.size+1+1+1 by omega)))
   have hgb:=hid (show ¬(b=w.heap.size+1+1+1∨w1.heap.size≤b) by omega)
   have hgw:=hid (show ¬(w.heap.size=w.heap.size+1+1+1∨w1.heap.size≤w.heap.size) by omega)
   have cl0:=hcl.out _ hO.chg
   have cxn:=hcx.out _ hO.chg
   have cy0:=hcy.out _ hO.chg
   have hyok:=hid mj
   have hcyE:Hid (txC xs[j]=txC xs[j]):=hid rfl
   clear hrest rj mj hO cn
   generalize hcyy:txC xs[j]=cy at jy hvy hry
   obtain⟨yj,hyj⟩:∃y,xs[j]=y:=⟨_,rfl⟩
   rw[hyj]at hos hvy hny hoy hcy cy0 hyok hcyy
   replace hcyy:=hid hcyy
   clear hyj hcyE
   cases dn
   ·by_cases hle:x.n≤yj.n
    ·have hle2:(x.n:Int)≤(yj.n:Int):=by omega
     rw[if_pos (by simp[hle]),Vy2 hle,Bool.or_true]at hos
     obtain⟨os2,hos2⟩:∃o,os++[x]=o:=⟨_,rfl⟩
     rw[← List.append_assoc,hos2]at hos
     have hlX:=hid (show os2.length≤2 * j+1 by rw[← hos2];simp;omega)
     replace hos2:=hid hos2
     go_wp2
     refine rgB fun hHeld=>?_
     refine' tkW 0 1 ?_
     refine' tkW 2 3 ?_
     simp only[sQ]
     refine' tkC 4 rfl cxn ?_
     refine' tkP 5 rfl ?_
     refine' tkC 6 rfl cl0 ?_
     refine' tkP 7 rfl ?_
     simp only[sQ]
     refine' tkW 8 9 ?_
     refine' tkC 10 rfl cy0 ?_
     refine' tkP 11 rfl ?_
     simp only[sQ]
     refine' tkP 12 rfl ?_
     simp only[sQ]
     refine dnN ?_
     have Hb:=hid (hO9.out.bel hHeld)
     have cob:=hbx.out _ _ _ _ _ Hb.out.heap
     have xrb:=hid (hrx.out _ Hb.out.chg)
     clear hHeld hO9 cl0 cxn cy0
     generalize wr.drew=w6 at *
     go_wp2_with (first
      |(with_reducible refine lDr xrb.out jx.out hux ?_)
      |((refine Ypc rfl 1 _ rfl [x] [.agg cx.toArray] hvx.out hnx.out (by decide) (by decide) hox.out rfl ?_);intro g2a v2a o2a B2a;have r2a:=hid (YoW (G:=fun _=>False) (OwnR.row o2a));have H2a:=hid (Hb.out.bel B2a);clear o2a B2a)
      |(at_builtin;refine ZbG slotTxQ rfl (.tmp 32) (.tmp 34) rfl w1.heap.size w1.heap.size Ao (some ⟨g2a,0,none⟩) os.length 1 co 1 os [x] (fun _=>False) rfl rfl rfl hnx.out.symm H2a.out.own r2a.out (fun b hb=>hb.elim) (by rw[hnx.out];omega) H2a.out.chg.size ?_;intro A2 c2 v2 o2 b2;rw[hos2.out]at o2 ⊢;have z2:=(b2.block _ s1.out).trans H2a.out.heap;have F2:=Zap z2 32;have cc2:=hbx.out _ _ _ _ _ z2;have HO2:=hid (OutW.put H2a.out s1.out b2 o2);clear z2))
     clear cob F2 cc2 b2 o2
     generalize World.setCell v2 ⟨w.heap.size+1+1+1,32,none⟩ (.slice A2 os2.length c2)=w7 at *
     have cl2:=hcl.out _ HO2.out.chg
     have cx2:=hcx.out _ HO2.out.chg
     have cy2:=hcy.out _ HO2.out.chg
     by_cases hxy:x.n=yj.n
     ·have hq:((x.n:Int) !=(yj.n:Int))=false:=by rw[hxy];simp
      have hR2:=hid (show os2++restW true (xs.drop (j+1)) x=R from by have:=hos;rw[if_pos hxy,List.nil_append]at this;exact this)
      clear hxy
      refine rgB fun hHeld=>?_
      refine' tkP 0 rfl ?_
      refine' tkC 1 rfl cx2 ?_
      refine' tkP 2 rfl ?_
      refine' tkC 3 rfl cl2 ?_
      simp only[sQ]
      refine' tkW 4 5 ?_
      refine' tkP 6 rfl ?_
      refine' tkC 7 rfl cy2 ?_
      simp only[sQ]
      refine' tkP 8 rfl ?_
      simp only[sQ]
      refine dnN ?_
      go_wp2
      go_roundw
      case rel=>exact⟨j+1,true,os2,A2,c2,by omega,by go_num,(by first|rfl|trivial),hR2.out,by have:=hlX.out;omega,HO2.out.bel hHeld⟩
      case measure=>simp[intOf];omega
     ·have hq:((x.n:Int) !=(yj.n:Int))=true:=bne_iff_ne.2 (by omega)
      obtain⟨os3,hos3⟩:∃o,os2++[yj]=o:=⟨_,rfl⟩
      have hR2:=hid (show os3++restW true (xs.drop (j+1)) x=R from by have:=hos;rw[if_neg hxy,←List.append_assoc,hos3]at this;exact this)
      have hl3:=hid (show os3.length≤2 * (j+1) by rw[← hos3];simp;have:=hlX.out;omega)
      have hlX2:=hlX.out
      have hl4:=hid (show (os2.length+[yj].length) * (120+1)≤140737488355328 by rw[hny.out];omega)
      replace hos3:=hid hos3
      clear hxy
      refine rgB fun hHeld=>?_
      refine' tkP 0 rfl ?_
      refine' tkC 1 rfl cx2 ?_
      refine' tkP 2 rfl ?_
      refine' tkC 3 rfl cl2 ?_
      simp only[sQ]
      refine' tkW 4 5 ?_
      refine' tkP 6 rfl ?_
      refine' tkC 7 rfl cy2 ?_
      simp only[sQ]
      refine' tkP 8 rfl ?_
      simp only[sQ]
      refine dnN ?_
      have HC:=HO2.out.bel hHeld
      have HO23:=hid HC.chg
      have cl3:=hcl.out _ HC.chg
      have ry3:=hid (hry.out _ HC.chg)
      clear cl2 cx2 cy2 hHeld
      go_wp2
      generalize hwz:w7.drew=wz at *
      replace HC:=HC.bel (Zao wz)
      focus
       refine wp_region_noPanic ?_
       refine wp_region_held_drew (S:=fun W=>Chg (fun b=>b=w.heap.size+1+1+1∨w1.heap.size≤b) wz W) (by kernel_rfl) ?_ (fun hHeld=>?_)
       ·exact Chg.of_bel (Zao wz)
       refine' tkW 0 2 ?_
       refine' tkF 3 (fun W hSw=>(chg_cell hSw cl3 hgw.out)) rfl ?_
       refine' tkP 4 rfl ?_
       simp only[sQ]
       refine' tkP 5 rfl ?_
       refine' tkM 6 rfl (fun _ h=>(Zak ry3.out (fun hb=>h.block _ hb hgb.out))) hux jy.out ?_
       simp only[sQ]
       refine Ynx 1 7 rfl rfl (fun K hK=>?_) (fun K hK=>?_)
       focus
        have hcq:=hbx.out _ _ _ _ _ HC.heap
        go_simp
        refine hK.out _ _ (hHeld) fun hHeld=>?_
        clear hK K
        try simp only[sQ]
        refine rdH 7 rfl fun K hK=>?_
        refine Ypw rfl (.tmp 52) rfl yj hyok.out _ hcyy.out.symm rfl ?_
        intro g7 v7 q7 hB
        replace HC:=HC.bel hB
        refine hK.out _ _ (hHeld.trans (Chg.of_bel hB)) fun hHeld=>?_
        clear hK K
        try simp only[sQ]
       rotate_left
       focus
        refine Ypw rfl (.tmp 52) rfl yj hyok.out _ hcyy.out.symm rfl ?_
        intro g7 v7 q7 hB
        replace HC:=HC.bel hB
        refine hK.out _ _ (hHeld.trans (Chg.of_bel hB)) fun hHeld=>?_
        clear hK K
        try simp only[sQ]
        refine rdH 1 rfl fun K hK=>?_
        have hcq:=hbx.out _ _ _ _ _ HC.heap
        go_simp
        refine hK.out _ _ (hHeld) fun hHeld=>?_
        clear hK K
        try simp only[sQ]
       all_goals
        refine rdH 8 rfl fun K hK=>?_
        refine Zgc slotTxQ rfl (.tmp 47) (.tmp 53) rfl w1.heap.size w1.heap.size A2 (some ⟨g7,0,none⟩) os2.length 1 c2 1 os2 [yj] (fun _=>False) rfl rfl rfl rfl HC.own (YoW q7) (fun b hb=>hb.elim) hl4.out HC.chg.size ?_
        intro A3 c3 v8 o8 hB8
        rw[hos3.out]at o8 ⊢
        refine hK.out _ _ (hHeld.trans ⟨hB8.os,hB8.tape,hB8.output,hB8.size,fun b _ hne=>hB8.block b (Nat.lt_of_not_le fun e=>hne (.inr e))⟩) fun hHeld=>?_
        clear hK K
        try simp only[sQ]
        refine' tkP 9 rfl ?_
        simp only[sQ]
        refine rdH 10 rfl fun K hK=>?_
        have z8:=(hB8.block _ s1.out).trans HC.heap
        have F8:=Zap z8 32
        have cc8:=hbx.out _ _ _ _ _ z8
        have HO3:=hid (OutW.put HC s1.out hB8 o8)
        go_simp
        refine hK.out _ _ (hHeld.trans ⟨rfl,rfl,rfl,by simp[World.setCell],fun b _ hne=>Vy3 _ _ _ b (fun e=>hne (.inl e))⟩) fun hHeld=>?_
        clear hK K
        try simp only[sQ]
        refine dnN ?_
        go_wp2
        go_roundw
        case rel=>exact⟨j+1,true,os3,A3,c3,by omega,by go_num,(by first|rfl|trivial),hR2.out,hl3.out,HO3.out⟩
        case measure=>simp[intOf];omega
    ·have hle2:¬(x.n:Int)≤(yj.n:Int):=by omega
     rw[if_neg (by simp[hle]),List.nil_append,Vy1 hle,Bool.or_false]at hos
     go_wp2
     refine rgB fun hHeld=>?_
     refine' tkW 0 1 ?_
     refine' tkW 2 3 ?_
     simp only[sQ]
     refine' tkC 4 rfl cxn ?_
     refine' tkP 5 rfl ?_
     refine' tkC 6 rfl cl0 ?_
     refine' tkP 7 rfl ?_
     simp only[sQ]
     refine' tkW 8 9 ?_
     refine' tkC 10 rfl cy0 ?_
     refine' tkP 11 rfl ?_
     simp only[sQ]
     refine' tkP 12 rfl ?_
     simp only[sQ]
     refine dnN ?_
     have Hb:=hid (hO9.out.bel hHeld)
     have hlX:=hid (show os.length≤2 * j+1 by omega)
     clear hHeld hO9 cl0 cxn cy0 hol
     generalize wr.drew=w7 at *
     go_wp2
     have cl2:=hcl.out _ Hb.out.chg
     have cx2:=hcx.out _ Hb.out.chg
     have cy2:=hcy.out _ Hb.out.chg
     by_cases hxy:x.n=yj.n
     ·have hq:((x.n:Int) !=(yj.n:Int))=false:=by rw[hxy];simp
      have hR2:=hid (show os++restW false (xs.drop (j+1)) x=R from by have:=hos;rw[if_pos hxy,List.nil_append]at this;exact this)
      clear hxy
      refine rgB fun hHeld=>?_
      refine' tkP 0 rfl ?_
      refine' tkC 1 rfl cx2 ?_
      refine' tkP 2 rfl ?_
      refine' tkC 3 rfl cl2 ?_
      simp only[sQ]
      refine' tkW 4 5 ?_
      refine' tkP 6 rfl ?_
      refine' tkC 7 rfl cy2 ?_
      simp only[sQ]
      refine' tkP 8 rfl ?_
      simp only[sQ]
      refine dnN ?_
      go_wp2
      go_roundw
      case rel=>exact⟨j+1,false,os,Ao,co,by omega,by go_num,(by first|rfl|trivial),hR2.out,by have:=hlX.out;omega,Hb.out.bel hHeld⟩
      case measure=>simp[intOf];omega
     ·have hq:((x.n:Int) !=(yj.n:Int))=true:=bne_iff_ne.2 (by omega)
      obtain⟨os3,hos3⟩:∃o,os++[yj]=o:=⟨_,rfl⟩
      have hR2:=hid (show os3++restW false (xs.drop (j+1)) x=R from by have:=hos;rw[if_neg hxy,←List.append_assoc,hos3]at this;exact this)
      have hl3:=hid (show os3.length≤2 * (j+1) by rw[← hos3];simp;have:=hlX.out;omega)
      have hlX2:=hlX.out
      have hl4:=hid (show (os.length+[yj].length) * (120+1)≤140737488355328 by rw[hny.out];omega)
      replace hos3:=hid hos3
      clear hxy
      refine rgB fun hHeld=>?_
      refine' tkP 0 rfl ?_
      refine' tkC 1 rfl cx2 ?_
      refine' tkP 2 rfl ?_
      refine' tkC 3 rfl cl2 ?_
      simp only[sQ]
      refine' tkW 4 5 ?_
      refine' tkP 6 rfl ?_
      refine' tkC 7 rfl cy2 ?_
      simp only[sQ]
      refine' tkP 8 rfl ?_
      simp only[sQ]
      refine dnN ?_
      have HC:=Hb.out.bel hHeld
      have Hb3:=hid HC.chg
      have cl3:=hcl.out _ HC.chg
      have ry3:=hid (hry.out _ HC.chg)
      clear cl2 cx2 cy2 hHeld
      go_wp2
      generalize hwz:w7.drew=wz at *
      replace HC:=HC.bel (Zao wz)
      focus
       refine wp_region_noPanic ?_
       refine wp_region_held_drew (S:=fun W=>Chg (fun b=>b=w.heap.size+1+1+1∨w1.heap.size≤b) wz W) (by kernel_rfl) ?_ (fun hHeld=>?_)
       ·exact Chg.of_bel (Zao wz)
       refine' tkW 0 2 ?_
       refine' tkF 3 (fun W hSw=>(chg_cell hSw cl3 hgw.out)) rfl ?_
       refine' tkP 4 rfl ?_
       simp only[sQ]
       refine' tkP 5 rfl ?_
       refine' tkM 6 rfl (fun _ h=>(Zak ry3.out (fun hb=>h.block _ hb hgb.out))) hux jy.out ?_
       simp only[sQ]
       refine Ynx 1 7 rfl rfl (fun K hK=>?_) (fun K hK=>?_)
       focus
        have hcq:=hbx.out _ _ _ _ _ HC.heap
        go_simp
        refine hK.out _ _ (hHeld) fun hHeld=>?_
        clear hK K
        try simp only[sQ]
        refine rdH 7 rfl fun K hK=>?_
        refine Ypw rfl (.tmp 52) rfl yj hyok.out _ hcyy.out.symm rfl ?_
        intro g7 v7 q7 hB
        replace HC:=HC.bel hB
        refine hK.out _ _ (hHeld.trans (Chg.of_bel hB)) fun hHeld=>?_
        clear hK K
        try simp only[sQ]
       rotate_left
       focus
        refine Ypw rfl (.tmp 52) rfl yj hyok.out _ hcyy.out.symm rfl ?_
        intro g7 v7 q7 hB
        replace HC:=HC.bel hB
        refine hK.out _ _ (hHeld.trans (Chg.of_bel hB)) fun hHeld=>?_
        clear hK K
        try simp only[sQ]
        refine rdH 1 rfl fun K hK=>?_
        have hcq:=hbx.out _ _ _ _ _ HC.heap
        go_simp
        refine hK.out _ _ (hHeld) fun hHeld=>?_
        clear hK K
        try simp only[sQ]
       all_goals
        refine rdH 8 rfl fun K hK=>?_
        refine Zgc slotTxQ rfl (.tmp 47) (.tmp 53) rfl w1.heap.size w1.heap.size Ao (some ⟨g7,0,none⟩) os.length 1 co 1 os [yj] (fun _=>False) rfl rfl rfl rfl HC.own (YoW q7) (fun b hb=>hb.elim) hl4.out HC.chg.size ?_
        intro A3 c3 v8 o8 hB8
        rw[hos3.out]at o8 ⊢
        refine hK.out _ _ (hHeld.trans ⟨hB8.os,hB8.tape,hB8.output,hB8.size,fun b _ hne=>hB8.block b (Nat.lt_of_not_le fun e=>hne (.inr e))⟩) fun hHeld=>?_
        clear hK K
        try simp only[sQ]
        refine' tkP 9 rfl ?_
        simp only[sQ]
        refine rdH 10 rfl fun K hK=>?_
        have z8:=(hB8.block _ s1.out).trans HC.heap
        have F8:=Zap z8 32
        have cc8:=hbx.out _ _ _ _ _ z8
        have HO3:=hid (OutW.put HC s1.out hB8 o8)
        go_simp
        refine hK.out _ _ (hHeld.trans ⟨rfl,rfl,rfl,by simp[World.setCell],fun b _ hne=>Vy3 _ _ _ b (fun e=>hne (.inl e))⟩) fun hHeld=>?_
        clear hK K
        try simp only[sQ]
        refine dnN ?_
        go_wp2
        go_roundw
        case rel=>exact⟨j+1,false,os3,A3,c3,by omega,by go_num,(by first|rfl|trivial),hR2.out,hl3.out,HO3.out⟩
        case measure=>simp[intOf];omega
   ·rw[if_neg (by simp),List.nil_append,Bool.true_or]at hos
    go_wp2
    refine rgB fun hHeld=>?_
    refine' tkW 0 1 ?_
    refine' tkW 2 3 ?_
    simp only[sQ]
    refine' tkW 4 5 ?_
    refine' tkW 6 7 ?_
    simp only[sQ]
    refine' tkW 8 9 ?_
    refine' tkW 10 11 ?_
    simp only[sQ]
    refine' tkP 12 rfl ?_
    simp only[sQ]
    refine dnN ?_
    have Hb:=hid (hO9.out.bel hHeld)
    have hlX:=hid (show os.length≤2 * j+1 by omega)
    clear hHeld hO9 cl0 cxn cy0 hol
    generalize wr.drew=w7 at *
    go_wp2
    have cl2:=hcl.out _ Hb.out.chg
    have cx2:=hcx.out _ Hb.out.chg
    have cy2:=hcy.out _ Hb.out.chg
    by_cases hxy:x.n=yj.n
    ·have hq:((x.n:Int) !=(yj.n:Int))=false:=by rw[hxy];simp
     have hR2:=hid (show os++restW true (xs.drop (j+1)) x=R from by have:=hos;rw[if_pos hxy,List.nil_append]at this;exact this)
     clear hxy
     refine rgB fun hHeld=>?_
     refine' tkP 0 rfl ?_
     refine' tkC 1 rfl cx2 ?_
     refine' tkP 2 rfl ?_
     refine' tkC 3 rfl cl2 ?_
     simp only[sQ]
     refine' tkW 4 5 ?_
     refine' tkP 6 rfl ?_
     refine' tkC 7 rfl cy2 ?_
     simp only[sQ]
     refine' tkP 8 rfl ?_
     simp only[sQ]
     refine dnN ?_
     go_wp2
     go_roundw
     case rel=>exact⟨j+1,true,os,Ao,co,by omega,by go_num,(by first|rfl|trivial),hR2.out,by have:=hlX.out;omega,Hb.out.bel hHeld⟩
     case measure=>simp[intOf];omega
    ·have hq:((x.n:Int) !=(yj.n:Int))=true:=bne_iff_ne.2 (by omega)
     obtain⟨os3,hos3⟩:∃o,os++[yj]=o:=⟨_,rfl⟩
     have hR2:=hid (show os3++restW true (xs.drop (j+1)) x=R from by have:=hos;rw[if_neg hxy,←List.append_assoc,hos3]at this;exact this)
     have hl3:=hid (show os3.length≤2 * (j+1) by rw[← hos3];simp;have:=hlX.out;omega)
     have hlX2:=hlX.out
     have hl4:=hid (show (os.length+[yj].length) * (120+1)≤140737488355328 by rw[hny.out];omega)
     replace hos3:=hid hos3
     clear hxy
     refine rgB fun hHeld=>?_
     refine' tkP 0 rfl ?_
     refine' tkC 1 rfl cx2 ?_
     refine' tkP 2 rfl ?_
     refine' tkC 3 rfl cl2 ?_
     simp only[sQ]
     refine' tkW 4 5 ?_
     refine' tkP 6 rfl ?_
     refine' tkC 7 rfl cy2 ?_
     simp only[sQ]
     refine' tkP 8 rfl ?_
     simp only[sQ]
     refine dnN ?_
     have HC:=Hb.out.bel hHeld
     have Hb3:=hid HC.chg
     have cl3:=hcl.out _ HC.chg
     have ry3:=hid (hry.out _ HC.chg)
     clear cl2 cx2 cy2 hHeld
     go_wp2
     generalize hwz:w7.drew=wz at *
     replace HC:=HC.bel (Zao wz)
     focus
      refine wp_region_noPanic ?_
      refine wp_region_held_drew (S:=fun W=>Chg (fun b=>b=w.heap.size+1+1+1∨w1.heap.size≤b) wz W) (by kernel_rfl) ?_ (fun hHeld=>?_)
      ·exact Chg.of_bel (Zao wz)
      refine' tkW 0 2 ?_
      refine' tkF 3 (fun W hSw=>(chg_cell hSw cl3 hgw.out)) rfl ?_
      refine' tkP 4 rfl ?_
      simp only[sQ]
      refine' tkP 5 rfl ?_
      refine' tkM 6 rfl (fun _ h=>(Zak ry3.out (fun hb=>h.block _ hb hgb.out))) hux jy.out ?_
      simp only[sQ]
      refine Ynx 1 7 rfl rfl (fun K hK=>?_) (fun K hK=>?_)
      focus
       have hcq:=hbx.out _ _ _ _ _ HC.heap
       go_simp
       refine hK.out _ _ (hHeld) fun hHeld=>?_
       clear hK K
       try simp only[sQ]
       refine rdH 7 rfl fun K hK=>?_
       refine Ypw rfl (.tmp 52) rfl yj hyok.out _ hcyy.out.symm rfl ?_
       intro g7 v7 q7 hB
       replace HC:=HC.bel hB
       refine hK.out _ _ (hHeld.trans (Chg.of_bel hB)) fun hHeld=>?_
       clear hK K
       try simp only[sQ]
      rotate_left
      focus
       refine Ypw rfl (.tmp 52) rfl yj hyok.out _ hcyy.out.symm rfl ?_
       intro g7 v7 q7 hB
       replace HC:=HC.bel hB
       refine hK.out _ _ (hHeld.trans (Chg.of_bel hB)) fun hHeld=>?_
       clear hK K
       try simp only[sQ]
       refine rdH 1 rfl fun K hK=>?_
       have hcq:=hbx.out _ _ _ _ _ HC.heap
       go_simp
       refine hK.out _ _ (hHeld) fun hHeld=>?_
       clear hK K
       try simp only[sQ]
      all_goals
       refine rdH 8 rfl fun K hK=>?_
       refine Zgc slotTxQ rfl (.tmp 47) (.tmp 53) rfl w1.heap.size w1.heap.size Ao (some ⟨g7,0,none⟩) os.length 1 co 1 os [yj] (fun _=>False) rfl rfl rfl rfl HC.own (YoW q7) (fun b hb=>hb.elim) hl4.out HC.chg.size ?_
       intro A3 c3 v8 o8 hB8
       rw[hos3.out]at o8 ⊢
       refine hK.out _ _ (hHeld.trans ⟨hB8.os,hB8.tape,hB8.output,hB8.size,fun b _ hne=>hB8.block b (Nat.lt_of_not_le fun e=>hne (.inr e))⟩) fun hHeld=>?_
       clear hK K
       try simp only[sQ]
       refine' tkP 9 rfl ?_
       simp only[sQ]
       refine rdH 10 rfl fun K hK=>?_
       have z8:=(hB8.block _ s1.out).trans HC.heap
       have F8:=Zap z8 32
       have cc8:=hbx.out _ _ _ _ _ z8
       have HO3:=hid (OutW.put HC s1.out hB8 o8)
       go_simp
       refine hK.out _ _ (hHeld.trans ⟨rfl,rfl,rfl,by simp[World.setCell],fun b _ hne=>Vy3 _ _ _ b (fun e=>hne (.inl e))⟩) fun hHeld=>?_
       clear hK K
       try simp only[sQ]
       refine dnN ?_
       go_wp2
       go_roundw
       case rel=>exact⟨j+1,true,os3,A3,c3,by omega,by go_num,(by first|rfl|trivial),hR2.out,hl3.out,HO3.out⟩
       case measure=>simp[intOf];omega
  ·have hje:j=xs.length:=by omega
   rw[hje,List.drop_length]at hos
   have hlt2:¬(j:Int)<(xs.length:Int):=by omega
   have cxr:=hid (Zak x01.out.1 (fun hb=>hO.chg.block _ hb (show ¬w.heap.size+1=w.heap.size+1+1+1 by omega)))
   have y2w:=hid ((hO.chg.block _ (block_lt y2.out) (show ¬w.heap.size+1+1=w.heap.size+1+1+1 by omega)).trans y2.out)
   have co1:=hbx.out _ _ _ _ _ hO.heap
   have cl0:=hcl.out _ hO.chg
   clear hje
   cases dn
   ·have hos4:Hid (os++[x]=R):=hid hos
    have hOO:=hid hO
    have hl5:os.length≤2 * j:=hol
    clear hO
    go_wp2_with (first
     |(with_reducible refine lDr cxr.out jx.out hux ?_)
     |((refine Ypc rfl 1 _ rfl [x] [.agg cx.toArray] hvx.out hnx.out (by decide) (by decide) hox.out rfl ?_);intro g4a v4a o4a B4a;have r4a:=hid (YoW (G:=fun _=>False) (OwnR.row o4a));have H4a:=hid (hOO.out.bel B4a);clear o4a B4a)
     |(at_builtin;refine ZbG slotTxQ rfl (.tmp 59) (.tmp 61) rfl w1.heap.size w1.heap.size Ao (some ⟨g4a,0,none⟩) os.length 1 co 1 os [x] (fun _=>False) rfl rfl rfl hnx.out.symm H4a.out.own r4a.out (fun b hb=>hb.elim) (by rw[hnx.out];omega) H4a.out.chg.size ?_;intro A4 c4 v4 o4 b4;rw[hos4.out]at o4 ⊢;have z4:=(b4.block _ s1.out).trans H4a.out.heap;have F4:=Zap z4 32;have cc4:=hbx.out _ _ _ _ _ z4;have HO4:=hid (OutW.put H4a.out s1.out b4 o4);clear z4;have r4x:=hid (Zae HO4.out.heap);have y24:=hid ((HO4.out.chg.block _ (block_lt y2.out) (show ¬w.heap.size+1+1=w.heap.size+1+1+1 by omega)).trans y2.out))
     |(with_reducible refine lDr r4x.out (jl.out _ _ _) hul ?_)
     |((with_reducible refine stW 4 64 (w.heap.size+1+1) 26 zLnC ?_ ?_ ?_ ?_ ?_);exact y24.out;exact jl.out _ _ _;exact zl.out _ _ _;exact ol.out _ _ _;intro w8 hg8 hb8 hs8))
    refine Vy0 (v:=.agg (lnC d A4 R.length c4).toArray) ?_ rfl ⟨A4,c4,rfl,?_,?_⟩
    ·exact results_cell_row Tryd.results40 _ _ (w.heap.size+1+1) 26 _ (0,0) _ rfl hg8 hul rfl (jl.out _ _ _)
    ·exact OwnR.base (OwnQ.keptL (g:=w.heap.size+1+1) HO4.out.own (fun b hl hne=>hb8.block b hl (fun e=>hne (by injection e))) (by have:=s1.out;omega) (by have:=s1.out;omega)) (by have:=s1.out;omega)
    ·exact(X1.out.trans (HO4.out.chg.below X1.out.size (fun b hb e=>by omega))).grown hb8 (Vx1 X1.out.size HO4.out.chg.size) (fun g e=>by injection e with e;omega)
   ·have hos5:os=R:=by rw[← hos];exact(List.append_nil os).symm
    rw[hos5]at hO
    have r4x:=hid (Zae hO.heap)
    have hOO:=hid hO
    clear hO
    go_wp2_with (first
     |(with_reducible refine lDr r4x.out (jl.out _ _ _) hul ?_)
     |((with_reducible refine stW 4 64 (w.heap.size+1+1) 26 zLnC ?_ ?_ ?_ ?_ ?_);exact y2w.out;exact jl.out _ _ _;exact zl.out _ _ _;exact ol.out _ _ _;intro w8 hg8 hb8 hs8))
    refine Vy0 (v:=.agg (lnC d Ao R.length co).toArray) ?_ rfl ⟨Ao,co,rfl,?_,?_⟩
    ·exact results_cell_row Tryd.results40 _ _ (w.heap.size+1+1) 26 _ (0,0) _ rfl hg8 hul rfl (jl.out _ _ _)
    ·exact OwnR.base (OwnQ.keptL (g:=w.heap.size+1+1) hOO.out.own (fun b hl hne=>hb8.block b hl (fun e=>hne (by injection e))) (by have:=s1.out;omega) (by have:=s1.out;omega)) (by have:=s1.out;omega)
    ·exact(X1.out.trans (hOO.out.chg.below X1.out.size (fun b hb e=>by omega))).grown hb8 (Vx1 X1.out.size hOO.out.chg.size) (fun g e=>by injection e with e;omega)
end Go.Proofs.YtimaoonpgilekaaDoor
