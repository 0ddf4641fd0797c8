import Derived.Test.YtnnclggeifnomaaGreatDoorTrC
set_option maxRecDepth 100000
set_option linter.all false
set_option maxHeartbeats 4000000
namespace Go.Proofs.YtnnclggeifnomaaGreatDoor
open Go.RowKit
def DG(ns:List Nd)(k:Dg)(e:Nat)(n:Int):Prop:=0≤n∧n≤ns.length∧∃b,Zr (256-e) b∧0≤rgt ns e n b∧hasP (forP ns e n) k=true
theorem Ygl{ns:List Nd}{k:Dg}{e:Nat}{n:Int}(h:DG ns k e n):n≠0:=by
 rintro rfl
 obtain⟨_,_,b,_,_,hh⟩:=h
 rw[ZaU]at hh
 cases hh
theorem Ygk{ns:List Nd}{k:Dg}{n:Int}(h:DG ns k 0 n):(ndAt ns n).leaf=true:=by
 have hne:=Ygl h
 obtain⟨h0,hn,b,hz,hr,hh⟩:=h
 cases hl:(ndAt ns n).leaf with
 |true=>rfl
 |false=>rw[ZcN hne hl]at hr;omega
theorem Ygi{ns:List Nd}{k:Dg}{e:Nat}{n:Int}(ho:Ones ns)(he:e+1≤256)(h:DG ns k (e+1) n)(hl:(ndAt ns n).leaf=false):
  (0≤(ndAt ns n).l∧(ndAt ns n).l≤ns.length)∧(0≤(ndAt ns n).r∧(ndAt ns n).r≤ns.length)∧(kb k.1 (255-e)=0→DG ns k e (ndAt ns n).l)∧(kb k.1 (255-e)=1→DG ns k e (ndAt ns n).r):=by
 have hne:=Ygl h
 obtain⟨h0,hn,b,hz,hr,hh⟩:=h
 have hd:255-e<256:=by omega
 have hz':Zr (255-e) b:=by rw[show 255-e=256-(e+1) by omega];exact hz
 obtain⟨k1,k2,_⟩:=ZgT ho (by omega) hn hl
 obtain⟨f,hf,rl,rr,_,_⟩:=Za2 hne hl hr
 obtain rfl:e=f:=by omega
 have z1:Zr (256-e) b:=by rw[show 256-e=255-e+1 by omega];exact Zeb hz'
 have z2:Zr (256-e) (turnD b (255-e)):=by rw[show 256-e=255-e+1 by omega];exact Zec hz' hd
 have u1:=(Zbz e (ndAt ns n).l b (by omega) z1 rl).1
 have u2:=(Zbz e (ndAt ns n).r (turnD b (255-e)) (by omega) z2 rr).1
 rw[show 256-e=255-e+1 by omega]at u1 u2
 rw[ZbV hne hl]at hh
 refine⟨⟨k1.1,by omega⟩,⟨k2.1,by omega⟩,fun hb=>⟨k1.1,by omega,b,z1,rl,?_⟩,fun hb=>⟨k2.1,by omega,_,z2,rr,?_⟩⟩
 ·obtain⟨p,hp,rfl⟩:=ZbC.1 hh
  rcases List.mem_append.1 hp with hp|hp
  ·exact ZbC.2 ⟨p,hp,rfl⟩
  ·have:=u2 p hp (255-e) (by omega)
   rw[ZcQ hz' hd,hb]at this
   cases this
 ·obtain⟨p,hp,rfl⟩:=ZbC.1 hh
  rcases List.mem_append.1 hp with hp|hp
  ·have:=u1 p hp (255-e) (by omega)
   rw[hz' _ (Vx8 _) hd,hb]at this
   cases this
  ·exact ZbC.2 ⟨p,hp,rfl⟩
theorem Ygj{ns:List Nd}{k:Dg}{e:Nat}{n:Int}(ho:Ones ns)(he:e≤256)(h:DG ns k e n):(∃ ms,(dropN ns k e n).1=ns++ms)∧(dropN ns k e n).1.length≤ns.length+e∧0≤(dropN ns k e n).2∧(dropN ns k e n).2≤(dropN ns k e n).1.length:=by
 obtain⟨h0,hn,b,hz,hr,hh⟩:=h
 obtain⟨⟨ms,a1,a2⟩,_,a3,a4,_⟩:=Zrl ho e n b he h0 hn hz hr hh
 exact⟨⟨ms,a1⟩,by rw[a1,Vx3];omega,a3,a4⟩
theorem Zme(ns:List Nd)(a b:Int):singleP ns a b=singleQ ns a b:=rfl
theorem Zmt(g B0:Nat)(F:Nat→Prop)(k:Dg)(ns:List Nd)(root:Int)(ho:Ones ns)(hlen:ns.length+600≤1000000)(e d:Nat)(n:Int)(hd:e+d=256)(hG:DG ns k e n)(w:World)(P:Nat→Prop)
  (hT:TrieAt w g B0 F P ns root) (hB:B0≤w.heap.size) (hFP:∀b,F b→P b)
  (ih:∀f,e=f+1→∀(n:Int) (w:World) (P:Nat→Prop),DG ns k f n→TrieAt w g B0 F P ns root→B0≤w.heap.size→(∀ b,F b→P b)→
   Calls Tryz.prog 272 #[.pointer (some ⟨g,0,none⟩),.int .i64 n,.int .i64 ((d:Int)+1),.agg (k.1.map bv).toArray] w (PutPost g B0 F P root w (dropN ns k f n))):
  Calls Tryz.prog 272 #[.pointer (some ⟨g,0,none⟩),.int .i64 n,.int .i64 (d:Int),.agg (k.1.map bv).toArray] w (PutPost g B0 F P root w (dropN ns k e n)):=by
 have hu:=Tryz.underlying37
 have hu2:=Tryz.underlying222
 have hutr:=Tryz.underlying122
 have hi:=hid (Zaz k)
 have X0:=Zad w (.cells (k.1.map bv).toArray 37)
 have k0:=hid (Zae (Vx0 w (.cells (k.1.map bv).toArray 37)))
 have T0:=hid (hT.more (Q:=fun b=>b=w.heap.size) X0 (fun b hb=>by subst hb;exact⟨Vx8 _,by rw[Vx2];omega⟩))
 have hPl:∀b,P b→b<w.heap.size:=fun b hb=>by obtain⟨_,_,_,_,_,_,_,h6⟩:=hT;exact(h6 b hb).1
 have hFl:∀b,F b→b<w.heap.size:=fun b hb=>hPl b (hFP b hb)
 have sz0:=hid (Vx2 w (.cells (k.1.map bv).toArray 37))
 obtain⟨A,c,R0,r0⟩:=T0.out.cap
 have hiTr:=hid (show (Tryz.prog.info? 122).map (·.size)=some ([Value.slice A ns.length c,.int .i64 root]).length from ZbA)
 obtain⟨n0,n1,-⟩:=id hG
 have hLf:=hid (fun W hW=>Zc1 (fun b=>b<(w.alloc (.cells (k.1.map bv).toArray 37)).heap.size) A c ns root n W hW n0 n1 (by omega))
 have h8B:=hid (Vx1 hB X0.size)
 have S0:=hid (Zhs hPl X0)
 have W0:=hid (X0.mono hB)
 have hdd:=hid hd
 have hz:=Ygl hG
 replace R0:=hid R0
 replace r0:=hid r0
 replace hFP:=hid hFP
 replace hPl:=hid hPl
 replace hFl:=hid hFl
 replace hG:=hid hG
 replace hT:=trivial
 generalize hdk:k.1.map bv=dk at *
 replace hdk:=hid hdk
 obtain⟨j,rfl⟩:∃j:Nat,n=(j:Int)+1:=⟨(n-1).toNat,by omega⟩
 have hj:j<ns.length:=by omega
 have hxn:=Zfn hj
 cases hl:ns[j].leaf with
 |true=>
  have hp:dropN ns k e ((j:Int)+1)=(ns,0):=Zov (by rw[hxn];exact hl)
  rw[hp]
  rw[show leafB ns ((j:Int)+1)=true by unfold leafB;rw[hxn,hl,Vy2 hz];rfl]at hLf
  clear hp ih hl hxn
  go_enter Tryz.func272,Tryz.ntmps272
  go_wp2_with ((with_reducible refine lDr R0.out hiTr.out hutr ?_))
  generalize w.alloc (.cells dk.toArray 37)=w0 at *
  refine(hLf.out _ r0.out).mono ?_
  rintro r w2 ⟨rfl,hb⟩
  go_wp2
  go_ret
  exact⟨rfl,(T0.out.bel hb).less (fun b hb=>.inl hb),S0.out.trans (Zhs (fun b hb=>Vx4 (hPl.out b hb) (by have:=sz0.out;omega)) hb),W0.out.trans (hb.mono h8B.out)⟩
 |false=>
  rcases e with _|e
  ·have:=Ygk hG.out;rw[hxn,hl]at this;cases this
  have hlf:(ndAt ns ((j:Int)+1)).leaf=false:=by rw[hxn];exact hl
  obtain⟨⟨l0,l1⟩,⟨r0',r1⟩,gl,gr⟩:=Ygi ho (by omega) hG.out hlf
  have hdf:255-e=d:=by omega
  have hstep:=Zou (k:=k) (e:=e) hlf
  rw[hdf]at gl gr hstep
  rw[hxn]at l0 l1 r0' r1 gl gr hstep
  have hst0:kb k.1 d=0→dropN ns k (e+1) ((j:Int)+1)=joinN (dropN ns k e ns[j].l).1 (dropN ns k e ns[j].l).2 ns[j].r:=fun h=>by rw[hstep,if_neg (by omega)]
  have hst1:kb k.1 d=1→dropN ns k (e+1) ((j:Int)+1)=joinN (dropN ns k e ns[j].r).1 ns[j].l (dropN ns k e ns[j].r).2:=fun h=>by rw[hstep,if_pos h]
  clear hstep
  have hd2:d<256:=by omega
  have hwd:IntKind.i64.wrap ((d:Int)+1)=d+1:=by rw[IntKind.wrap_i64];omega
  have hBt:=hid (fun W=>ZlU k d hd2 _ W rfl)
  have hFk:=hid (fun (m:Int) (h:DG ns k e m)=>Ygj ho (by omega) h)
  have ihF:=hid (fun (m:Int) (W:World) (P:Nat→Prop)=>ih e rfl m W P)
  have hbit:=Zeu k.1 d
  rw[hdk.out]at hBt
  clear ih
  obtain⟨q,o,hAe,A',c',hR,_⟩:=Zb7 r0.out hj
  subst hAe
  rw[show leafB ns ((j:Int)+1)=false by unfold leafB;rw[hxn,hl,Vy2 hz];rfl]at hLf
  have hRd:=hid (fun W (hW:W.rangeAt q (o+j * 36) (ndC ns[j] A' c'))=>ZgJ q o j ns.length c root ns[j] A' c' W hW hj (by omega))
  generalize ndC ns[j] A' c'=xs at *
  generalize ns[j].l=L at *
  generalize ns[j].r=RR at *
  replace hR:=hid hR
  replace hst0:=hid hst0
  replace hst1:=hid hst1
  replace gl:=hid gl
  replace gr:=hid gr
  clear hxn hl hlf
  generalize kb k.1 d=bb at *
  go_enter Tryz.func272,Tryz.ntmps272
  go_wp2_with ((with_reducible refine lDr R0.out hiTr.out hutr ?_))
  generalize w.alloc (.cells dk.toArray 37)=w0 at *
  refine(hLf.out _ r0.out).mono ?_
  rintro r w2 ⟨rfl,hb⟩
  have R2:=hid (Zab hb R0.out)
  have q2:=hid (Zab hb hR.out)
  have k2:=hid (Zab hb k0.out)
  have B2:=hid hb
  clear hb hLf
  rcases (show bb=0∨bb=1 by omega) with rfl|rfl
  ·as_aux_lemma=>
    go_wp2
    focus
     refine rgB fun hHeld=>?_
     refine' tkW 0 1 ?_
     refine' tkM 2 rfl (fun _ h=>Zab h R2.out) hutr hiTr.out ?_
     refine' tkP 3 rfl ?_
     simp only[sQ]
     refine' tkM 5 rfl (fun _ h=>Zab h k2.out) hu hi.out ?_
     refine' tkP 6 rfl ?_
     simp only[sQ]
     refine Ynx 4 8 rfl rfl (fun K hK=>?_) (fun K hK=>?_)
     focus
      refine clB hK (hRd.out _ (Zab hHeld q2.out)) fun w3 hB hHeld=>?_
      try replace e6:=(hB.block _ (block_lt e6)).trans e6
      clear hK K
      try simp only[sQ]
      refine Ynx 7 8 rfl rfl (fun K hK=>?_) (fun K hK=>?_)
      focus
       refine clB hK (hBt.out _) fun w4 hB hHeld=>?_
       try replace e6:=(hB.block _ (block_lt e6)).trans e6
       clear hK K
       try simp only[sQ]
       refine rdH 8 rfl fun K hK=>?_
       refine Zar rfl 222 rfl z2C ZiX ?_
       intro b3 w8 b6 e6 hB
       have m6:=Vx1 hHeld.size b6
       refine kB hK hHeld hB fun hHeld=>?_
       clear hK K
       try simp only[sQ]
      rotate_left
      focus
       refine Zar rfl 222 rfl z2C ZiX ?_
       intro b3 w8 b6 e6 hB
       have m6:=Vx1 hHeld.size b6
       refine kB hK hHeld hB fun hHeld=>?_
       clear hK K
       try simp only[sQ]
       refine rdC 7 rfl (hBt.out _) fun w4 hB hHeld=>?_
       try replace e6:=(hB.block _ (block_lt e6)).trans e6
       try simp only[sQ]
     rotate_left 2
     focus
      refine Zar rfl 222 rfl z2C ZiX ?_
      intro b3 w8 b6 e6 hB
      have m6:=Vx1 hHeld.size b6
      refine kB hK hHeld hB fun hHeld=>?_
      clear hK K
      try simp only[sQ]
      refine rdC 4 rfl (hRd.out _ (Zab hHeld q2.out)) fun w3 hB hHeld=>?_
      try replace e6:=(hB.block _ (block_lt e6)).trans e6
      try simp only[sQ]
      refine rdC 7 rfl (hBt.out _) fun w4 hB hHeld=>?_
      try replace e6:=(hB.block _ (block_lt e6)).trans e6
      try simp only[sQ]
     all_goals
      refine rdH 9 rfl fun K hK=>?_
      refine Zaj rfl 222 (.tmp 9) (.tmp 21) rfl b3 _ rfl rfl 222 z2C e6 size2 rfl (Yb0 L RR) ?_
      intro w5 d6 hG
      refine hK.out _ _ (hHeld.grown hG hHeld.size (by intro k hk;injection hk with hk;omega)) fun hHeld=>?_
      clear hK K
      try simp only[sQ]
      refine' tkP 10 rfl ?_
      simp only[sQ]
      refine dnN ?_
      have e5:=hid d6
      have rb:=hid (Vx1 B2.out.size m6)
      have lt5:=hid (block_lt d6)
      have B5:=hid (B2.out.trans (hHeld.mono B2.out.size))
      clear hHeld
      try clear hB
      try clear e6
      clear d6 hG m6 b6
      have hres:=hst0.out (by first|trivial|rfl)
      have hg1:=gl.out (by first|trivial|rfl)
      obtain⟨⟨ms,p0⟩,p1,p2,p3⟩:=hFk.out _ hg1
      have iha:=ihF.out L
      generalize dropN ns k e L=rp at *
      obtain⟨ns2,M⟩:=rp
      dsimp only at p0 p1 p2 p3 hres
      have p4:ns.length≤ns2.length:=by rw[p0,Vx3];omega
      replace hres:=hid hres
      have hg1:=hid hg1
      replace iha:=hid iha
      replace p0:=hid p0
      have hsg:=hid (fun (G:Nat→Prop) A c W hW=>Zi0 G A c ns2 root M RR W hW (by omega) (by omega) (by omega) (by omega) (by omega))
      have hfk:=hid (fun W h1 h2=>ZcV W g B0 F (fun b=>(P b∨b=w.heap.size)∨b=b3) ns2 root M RR h1 h2 (by omega) ⟨by omega,by omega⟩ ⟨by omega,by omega⟩)
      clear hst0 hst1 gl gr ihF hFk
      have e5c:=Zaq e5.out 0
      simp only[List.getElem?_toArray,List.getElem?_cons_zero,List.getElem?_cons_succ]at e5c
      have T5:=hid ((T0.out.more (Q:=fun b=>b=b3) B5.out (fun b hb=>by subst hb;exact⟨rb.out,lt5.out⟩)))
      have q6:=hid (Zab B5.out k0.out)
      go_wp2
      refine wp_region_noPanic ?_
      refine wp_region_held_drew (S:=fun w'=>w'.rangeAt w.heap.size 0 dk) (by kernel_rfl) ?_ (fun hHeld=>?_)
      ·exact q6.out
      refine' tkW 0 1 ?_
      refine' tkW 2 3 ?_
      simp only[sQ]
      refine' tkW 5 6 ?_
      refine' tkM 7 rfl (fun _ h=>h) hu hi.out ?_
      simp only[sQ]
      refine rdH 4 rfl fun K hK=>?_
      go_simp
      refine hK.out _ _ (hHeld) fun hHeld=>?_
      clear hK K
      try simp only[sQ]
      refine rdH 8 rfl fun K hK=>?_
      go_simp
      refine(iha.out _ (fun b=>(P b∨b=w.heap.size)∨b=b3) hg1.out (T5.out.bel (Zao w5)) (Vx1 h8B.out B5.out.size) (fun b hb=>.inl (.inl (hFP.out b hb)))).mono ?_
      rintro r w7 ⟨rfl,T7,S7,B7⟩
      have g7:=(S7 b3 (.inr rfl)).trans e5.out
      have f7:=Zap g7 0
      have d7:=Zaq g7 0
      simp only[List.getElem?_toArray,List.getElem?_cons_zero,List.getElem?_cons_succ]at d7
      replace g7:=hid g7
      replace T7:=hid T7
      replace S7:=hid S7
      replace B7:=hid (Zdn B7)
      go_wp2_with fail
      refine hK.out _ _ (Zak hHeld (fun _=>S7 w.heap.size (.inl (.inr rfl)))) fun hHeld=>?_
      clear hK K
      try simp only[sQ]
      refine' tkP 9 rfl ?_
      simp only[sQ]
      refine rdH 10 rfl fun K hK=>?_
      go_simp
      refine hK.out _ _ (Zak hHeld (fun _=>Vy3 _ _ _ _ (by have:=rb.out;have:=sz0.out;show w.heap.size≠b3;omega))) fun hHeld=>?_
      clear hK K
      try simp only[sQ]
      refine dnN ?_
      have g8:=hid (ZaD g7.out 0 (.int .i64 M))
      have T8:=hid (T7.out.at_ (b0:=b3) (w':=w7.setCell ⟨b3,0,none⟩ (.int .i64 M)) (.inr rfl) (fun h=>by have:=hFl.out b3 h;have:=rb.out;have:=sz0.out;omega) (by simp[World.setCell]) (fun b _ hn=>Vy3 _ _ _ _ hn))
      have S8:=hid (fun b (hp:P b)=>(Vy3 w7 ⟨b3,0,none⟩ (.int .i64 M) b (by have:=hPl.out b hp;have:=rb.out;have:=sz0.out;show b≠b3;omega)).trans ((S7.out b (.inl (.inl hp))).trans ((B5.out.block b (by have:=hPl.out b hp;have:=sz0.out;omega)).trans (S0.out b hp))))
      have B8:=hid (((W0.out.trans (B5.out.mono h8B.out)).trans B7.out).setCell (p:=⟨b3,0,none⟩) (Vx1 h8B.out rb.out) (.int .i64 M))
      rw[Zvu]at g8
      have hsz8:=hid (show B0≤(w7.setCell ⟨b3,0,none⟩ (.int .i64 M)).heap.size by have:=B8.out.size;omega)
      have r8:=hid (Zae (l:=[Value.int .i64 M,.int .i64 RR]) g8.out)
      clear T7 S7 B7 g7 f7 d7 e5c e5 T5 q6 hHeld iha
      generalize w7.setCell ⟨b3,0,none⟩ (.int .i64 M)=w8 at *
      have hi8:=hid (show (Tryz.prog.info? 222).map (·.size)=some ([Value.int .i64 M,.int .i64 RR]).length from size2)
      obtain⟨A8,c8,R8,row8⟩:=T8.out.cap
      have hiT8:=hid (show (Tryz.prog.info? 122).map (·.size)=some ([Value.slice A8 ns2.length c8,.int .i64 root]).length from ZbA)
      replace R8:=hid R8
      replace row8:=hid row8
      obtain⟨sg,hsgv⟩:∃sg,singleP ns2 M RR=sg:=⟨_,rfl⟩
      rw[hsgv]at hsg
      have hJ0:=hid (fun (h:sg=0)=>(show joinN ns2 M RR=(ns2++[forkN M RR],(ns2.length:Int)+1) from by unfold joinN;rw[← Zme,hsgv,if_pos h]))
      have hJ1:=hid (fun (h:sg≠0)=>(show joinN ns2 M RR=(ns2,sg) from by unfold joinN;rw[← Zme,hsgv,if_neg h]))
      replace hsgv:=hid hsgv
      go_wp2
      refine rgB fun hHeld=>?_
      refine' tkW 0 1 ?_
      refine' tkM 2 rfl (fun _ h=>Zab h R8.out) hutr hiT8.out ?_
      refine' tkM 3 rfl (fun _ h=>Zab h r8.out) hu2 hi8.out ?_
      simp only[sQ]
      refine rdC 4 rfl (hsg.out _ A8 c8 _ (row8.out.bel hHeld)) fun w9 hB hHeld=>?_
      try simp only[sQ]
      refine' tkP 5 rfl ?_
      simp only[sQ]
      refine dnN ?_
      have S9:=hid (Zhs (P:=P) (fun b hb=>Vx4 (hPl.out b hb) (by have:=sz0.out;have:=B5.out.size;have:=T8.out.lt.1;obtain⟨_,_,_,_,_,_,_,h6⟩:=T8.out;have:=(h6 w.heap.size (.inl (.inr rfl))).1;omega)) hHeld)
      by_cases hs0:sg=0
      ·subst hs0
       go_wp2_with ((with_reducible refine lDr (Zab hHeld r8.out) hi8.out hu2 ?_))
       refine(hfk.out _ (T8.out.bel hHeld) (Vx1 hsz8.out hHeld.size)).mono ?_
       rintro r w10 ⟨rfl,T9,S10,B9⟩
       go_wp2
       go_ret
       rw[hres.out,hJ0.out (by first|trivial|rfl)]
       exact⟨rfl,T9.less (fun b hb=>.inl (.inl hb)),fun b hp=>(S10 b (.inl (.inl hp))).trans ((S9.out b hp).trans (S8.out b hp)),(B8.out.trans (hHeld.mono hsz8.out)).trans B9⟩
      ·have hsb:(sg !=0)=true:=bne_iff_ne.2 hs0
       go_wp2
       go_ret
       rw[hres.out,hJ1.out (by first|exact hs0|trivial)]
       exact⟨rfl,(T8.out.bel hHeld).less (fun b hb=>.inl (.inl hb)),fun b hp=>(S9.out b hp).trans (S8.out b hp),B8.out.trans (hHeld.mono hsz8.out)⟩
  ·as_aux_lemma=>
    go_wp2
    focus
     refine rgB fun hHeld=>?_
     refine' tkW 0 1 ?_
     refine' tkM 2 rfl (fun _ h=>Zab h R2.out) hutr hiTr.out ?_
     refine' tkP 3 rfl ?_
     simp only[sQ]
     refine' tkM 5 rfl (fun _ h=>Zab h k2.out) hu hi.out ?_
     refine' tkP 6 rfl ?_
     simp only[sQ]
     refine Ynx 4 8 rfl rfl (fun K hK=>?_) (fun K hK=>?_)
     focus
      refine clB hK (hRd.out _ (Zab hHeld q2.out)) fun w3 hB hHeld=>?_
      try replace e6:=(hB.block _ (block_lt e6)).trans e6
      clear hK K
      try simp only[sQ]
      refine Ynx 7 8 rfl rfl (fun K hK=>?_) (fun K hK=>?_)
      focus
       refine clB hK (hBt.out _) fun w4 hB hHeld=>?_
       try replace e6:=(hB.block _ (block_lt e6)).trans e6
       clear hK K
       try simp only[sQ]
       refine rdH 8 rfl fun K hK=>?_
       refine Zar rfl 222 rfl z2C ZiX ?_
       intro b3 w8 b6 e6 hB
       have m6:=Vx1 hHeld.size b6
       refine kB hK hHeld hB fun hHeld=>?_
       clear hK K
       try simp only[sQ]
      rotate_left
      focus
       refine Zar rfl 222 rfl z2C ZiX ?_
       intro b3 w8 b6 e6 hB
       have m6:=Vx1 hHeld.size b6
       refine kB hK hHeld hB fun hHeld=>?_
       clear hK K
       try simp only[sQ]
       refine rdC 7 rfl (hBt.out _) fun w4 hB hHeld=>?_
       try replace e6:=(hB.block _ (block_lt e6)).trans e6
       try simp only[sQ]
     rotate_left 2
     focus
      refine Zar rfl 222 rfl z2C ZiX ?_
      intro b3 w8 b6 e6 hB
      have m6:=Vx1 hHeld.size b6
      refine kB hK hHeld hB fun hHeld=>?_
      clear hK K
      try simp only[sQ]
      refine rdC 4 rfl (hRd.out _ (Zab hHeld q2.out)) fun w3 hB hHeld=>?_
      try replace e6:=(hB.block _ (block_lt e6)).trans e6
      try simp only[sQ]
      refine rdC 7 rfl (hBt.out _) fun w4 hB hHeld=>?_
      try replace e6:=(hB.block _ (block_lt e6)).trans e6
      try simp only[sQ]
     all_goals
      refine rdH 9 rfl fun K hK=>?_
      refine Zaj rfl 222 (.tmp 9) (.tmp 21) rfl b3 _ rfl rfl 222 z2C e6 size2 rfl (Yb0 L RR) ?_
      intro w5 d6 hG
      refine hK.out _ _ (hHeld.grown hG hHeld.size (by intro k hk;injection hk with hk;omega)) fun hHeld=>?_
      clear hK K
      try simp only[sQ]
      refine' tkP 10 rfl ?_
      simp only[sQ]
      refine dnN ?_
      have e5:=hid d6
      have rb:=hid (Vx1 B2.out.size m6)
      have lt5:=hid (block_lt d6)
      have B5:=hid (B2.out.trans (hHeld.mono B2.out.size))
      clear hHeld
      try clear hB
      try clear e6
      clear d6 hG m6 b6
      have hres:=hst1.out (by first|trivial|rfl)
      have hg1:=gr.out (by first|trivial|rfl)
      obtain⟨⟨ms,p0⟩,p1,p2,p3⟩:=hFk.out _ hg1
      have iha:=ihF.out RR
      generalize dropN ns k e RR=rp at *
      obtain⟨ns2,M⟩:=rp
      dsimp only at p0 p1 p2 p3 hres
      have p4:ns.length≤ns2.length:=by rw[p0,Vx3];omega
      replace hres:=hid hres
      have hg1:=hid hg1
      replace iha:=hid iha
      replace p0:=hid p0
      have hsg:=hid (fun (G:Nat→Prop) A c W hW=>Zi0 G A c ns2 root L M W hW (by omega) (by omega) (by omega) (by omega) (by omega))
      have hfk:=hid (fun W h1 h2=>ZcV W g B0 F (fun b=>(P b∨b=w.heap.size)∨b=b3) ns2 root L M h1 h2 (by omega) ⟨by omega,by omega⟩ ⟨by omega,by omega⟩)
      clear hst0 hst1 gl gr ihF hFk
      have e5c:=Zaq e5.out 1
      simp only[List.getElem?_toArray,List.getElem?_cons_zero,List.getElem?_cons_succ]at e5c
      have T5:=hid ((T0.out.more (Q:=fun b=>b=b3) B5.out (fun b hb=>by subst hb;exact⟨rb.out,lt5.out⟩)))
      have q6:=hid (Zab B5.out k0.out)
      go_wp2
      refine wp_region_noPanic ?_
      refine wp_region_held_drew (S:=fun w'=>w'.rangeAt w.heap.size 0 dk) (by kernel_rfl) ?_ (fun hHeld=>?_)
      ·exact q6.out
      refine' tkW 0 1 ?_
      refine' tkW 2 3 ?_
      simp only[sQ]
      refine' tkW 5 6 ?_
      refine' tkM 7 rfl (fun _ h=>h) hu hi.out ?_
      simp only[sQ]
      refine rdH 4 rfl fun K hK=>?_
      go_simp
      refine hK.out _ _ (hHeld) fun hHeld=>?_
      clear hK K
      try simp only[sQ]
      refine rdH 8 rfl fun K hK=>?_
      go_simp
      refine(iha.out _ (fun b=>(P b∨b=w.heap.size)∨b=b3) hg1.out (T5.out.bel (Zao w5)) (Vx1 h8B.out B5.out.size) (fun b hb=>.inl (.inl (hFP.out b hb)))).mono ?_
      rintro r w7 ⟨rfl,T7,S7,B7⟩
      have g7:=(S7 b3 (.inr rfl)).trans e5.out
      have f7:=Zap g7 1
      have d7:=Zaq g7 1
      simp only[List.getElem?_toArray,List.getElem?_cons_zero,List.getElem?_cons_succ]at d7
      replace g7:=hid g7
      replace T7:=hid T7
      replace S7:=hid S7
      replace B7:=hid (Zdn B7)
      go_wp2_with fail
      refine hK.out _ _ (Zak hHeld (fun _=>S7 w.heap.size (.inl (.inr rfl)))) fun hHeld=>?_
      clear hK K
      try simp only[sQ]
      refine' tkP 9 rfl ?_
      simp only[sQ]
      refine rdH 10 rfl fun K hK=>?_
      go_simp
      refine hK.out _ _ (Zak hHeld (fun _=>Vy3 _ _ _ _ (by have:=rb.out;have:=sz0.out;show w.heap.size≠b3;omega))) fun hHeld=>?_
      clear hK K
      try simp only[sQ]
      refine dnN ?_
      have g8:=hid (ZaD g7.out 1 (.int .i64 M))
      have T8:=hid (T7.out.at_ (b0:=b3) (w':=w7.setCell ⟨b3,1,none⟩ (.int .i64 M)) (.inr rfl) (fun h=>by have:=hFl.out b3 h;have:=rb.out;have:=sz0.out;omega) (by simp[World.setCell]) (fun b _ hn=>Vy3 _ _ _ _ hn))
      have S8:=hid (fun b (hp:P b)=>(Vy3 w7 ⟨b3,1,none⟩ (.int .i64 M) b (by have:=hPl.out b hp;have:=rb.out;have:=sz0.out;show b≠b3;omega)).trans ((S7.out b (.inl (.inl hp))).trans ((B5.out.block b (by have:=hPl.out b hp;have:=sz0.out;omega)).trans (S0.out b hp))))
      have B8:=hid (((W0.out.trans (B5.out.mono h8B.out)).trans B7.out).setCell (p:=⟨b3,1,none⟩) (Vx1 h8B.out rb.out) (.int .i64 M))
      rw[Zvv]at g8
      have hsz8:=hid (show B0≤(w7.setCell ⟨b3,1,none⟩ (.int .i64 M)).heap.size by have:=B8.out.size;omega)
      have r8:=hid (Zae (l:=[Value.int .i64 L,.int .i64 M]) g8.out)
      clear T7 S7 B7 g7 f7 d7 e5c e5 T5 q6 hHeld iha
      generalize w7.setCell ⟨b3,1,none⟩ (.int .i64 M)=w8 at *
      have hi8:=hid (show (Tryz.prog.info? 222).map (·.size)=some ([Value.int .i64 L,.int .i64 M]).length from size2)
      obtain⟨A8,c8,R8,row8⟩:=T8.out.cap
      have hiT8:=hid (show (Tryz.prog.info? 122).map (·.size)=some ([Value.slice A8 ns2.length c8,.int .i64 root]).length from ZbA)
      replace R8:=hid R8
      replace row8:=hid row8
      obtain⟨sg,hsgv⟩:∃sg,singleP ns2 L M=sg:=⟨_,rfl⟩
      rw[hsgv]at hsg
      have hJ0:=hid (fun (h:sg=0)=>(show joinN ns2 L M=(ns2++[forkN L M],(ns2.length:Int)+1) from by unfold joinN;rw[← Zme,hsgv,if_pos h]))
      have hJ1:=hid (fun (h:sg≠0)=>(show joinN ns2 L M=(ns2,sg) from by unfold joinN;rw[← Zme,hsgv,if_neg h]))
      replace hsgv:=hid hsgv
      go_wp2
      refine rgB fun hHeld=>?_
      refine' tkW 0 1 ?_
      refine' tkM 2 rfl (fun _ h=>Zab h R8.out) hutr hiT8.out ?_
      refine' tkM 3 rfl (fun _ h=>Zab h r8.out) hu2 hi8.out ?_
      simp only[sQ]
      refine rdC 4 rfl (hsg.out _ A8 c8 _ (row8.out.bel hHeld)) fun w9 hB hHeld=>?_
      try simp only[sQ]
      refine' tkP 5 rfl ?_
      simp only[sQ]
      refine dnN ?_
      have S9:=hid (Zhs (P:=P) (fun b hb=>Vx4 (hPl.out b hb) (by have:=sz0.out;have:=B5.out.size;have:=T8.out.lt.1;obtain⟨_,_,_,_,_,_,_,h6⟩:=T8.out;have:=(h6 w.heap.size (.inl (.inr rfl))).1;omega)) hHeld)
      by_cases hs0:sg=0
      ·subst hs0
       go_wp2_with ((with_reducible refine lDr (Zab hHeld r8.out) hi8.out hu2 ?_))
       refine(hfk.out _ (T8.out.bel hHeld) (Vx1 hsz8.out hHeld.size)).mono ?_
       rintro r w10 ⟨rfl,T9,S10,B9⟩
       go_wp2
       go_ret
       rw[hres.out,hJ0.out (by first|trivial|rfl)]
       exact⟨rfl,T9.less (fun b hb=>.inl (.inl hb)),fun b hp=>(S10 b (.inl (.inl hp))).trans ((S9.out b hp).trans (S8.out b hp)),(B8.out.trans (hHeld.mono hsz8.out)).trans B9⟩
      ·have hsb:(sg !=0)=true:=bne_iff_ne.2 hs0
       go_wp2
       go_ret
       rw[hres.out,hJ1.out (by first|exact hs0|trivial)]
       exact⟨rfl,(T8.out.bel hHeld).less (fun b hb=>.inl (.inl hb)),fun b hp=>(S9.out b hp).trans (S8.out b hp),B8.out.trans (hHeld.mono hsz8.out)⟩
theorem Zn9(g B0:Nat)(F:Nat→Prop)(k:Dg)(ns:List Nd)(root:Int)(ho:Ones ns)(hlen:ns.length+600≤1000000):∀(e d:Nat) (n:Int) (w:World) (P:Nat→Prop),e+d=256→DG ns k e n→
  TrieAt w g B0 F P ns root→B0≤w.heap.size→(∀ b,F b→P b)→
  Calls Tryz.prog 272 #[.pointer (some ⟨g,0,none⟩),.int .i64 n,.int .i64 (d:Int),.agg (k.1.map bv).toArray] w (PutPost g B0 F P root w (dropN ns k e n))
 |0,d,n,w,P,hd,hG,hT,hB,hFP=>Zmt g B0 F k ns root ho hlen 0 d n hd hG w P hT hB hFP fun f hf=>by omega
 |e+1,d,n,w,P,hd,hG,hT,hB,hFP=>Zmt g B0 F k ns root ho hlen (e+1) d n hd hG w P hT hB hFP fun f hf n w P hG hT hB hFP=>by
  obtain rfl:e=f:=by omega
  exact Zn9 g B0 F k ns root ho hlen e (d+1) n w P (by omega) hG hT hB hFP
def tdropE(t:Tr)(k:Dg):Int:=if mayT t=true then (if hasP (allT t) k=true then (if 261844<t.ns.length then 9 else 0) else 6) else 8
def tdropT(t:Tr)(k:Dg):Tr:=if tdropE t k=0 then ⟨(dropN t.ns k 256 t.root).1,(dropN t.ns k 256 t.root).2⟩ else ⟨[],0⟩
theorem ZiJ{t:Tr}{k:Dg}(h:¬tdropE t k=0):tdropT t k=⟨[],0⟩:=by unfold tdropT;rw[if_neg h]
theorem Zd9{t:Tr}{k:Dg}(h:tdropE t k=0):(∃ ms,(tdropT t k).ns=t.ns++ms∧ms.length≤256)∧mayT (tdropT t k)=true∧allT (tdropT t k)=withoutP (allT t) k:=by
 have hT:tdropT t k=⟨(dropN t.ns k 256 t.root).1,(dropN t.ns k 256 t.root).2⟩:=by unfold tdropT;rw[if_pos h]
 unfold tdropE at h
 by_cases hm:mayT t=true
 ·rw[if_pos hm]at h
  by_cases hv:hasP (allT t) k=true
  ·rw[if_pos hv]at h
   by_cases hf:261844<t.ns.length
   ·rw[if_pos hf]at h;cases h
   ·obtain⟨m0,m1,m2,ho,m3⟩:=ZaX.1 hm
    obtain⟨⟨ms,a1,a2⟩,a3,a4,a5,a6,a7⟩:=Zrl ho 256 t.root z0 (Vx8 _) m1 m2 Zfk m3 hv
    rw[hT]
    exact⟨⟨ms,a1,a2⟩,ZaX.2 ⟨by dsimp only;rw[a1,Vx3];omega,a4,a5,a3,a6⟩,a7⟩
  ·rw[if_neg hv]at h;cases h
 ·rw[if_neg hm]at h;cases h
theorem Ygm{t:Tr}{k:Dg}(h:mayT t=true)(hh:hasP (allT t) k=true):DG t.ns k 256 t.root:=by
 obtain⟨m0,m1,m2,ho,m3⟩:=ZaX.1 h
 exact⟨m1,m2,z0,Zfk,m3,hh⟩
theorem ZfG(F:Nat→Prop)(A:Option Addr)(c:Nat)(ns:List Nd)(root:Int)(k:Dg)(w:World)(hr:Row F w A ns)(hc:ns.length≤1000000):
  Calls Tryz.prog 267 #[.agg #[.slice A ns.length c,.int .i64 root],.agg (k.1.map bv).toArray] w fun e w'=>∃A' c',e=.returned (.tuple #[.agg #[.slice A' (tdropT ⟨ns,root⟩ k).ns.length c',.int .i64 (tdropT ⟨ns,root⟩ k).root],.int .i64 (tdropE ⟨ns,root⟩ k)])∧OwnR 106 w' w.heap.size A' c' (tdropT ⟨ns,root⟩ k).ns∧Below w.heap.size w w':=by
 obtain⟨hb0,hk0,hz0,W0⟩:=Zuw w A ns.length c root k
 have hr0:=hr.bel W0
 have hu:=Tryz.underlying37
 have hut:=Tryz.underlying24
 have hiT:=hid (show (Tryz.prog.info? 24).map (·.size)=some ([Value.slice A ns.length c,.int .i64 root]).length from Zah)
 have hi:=hid (Zaz k)
 have hb0t:=hid ZbU
 obtain⟨m,hm⟩:∃m,mayT ⟨ns,root⟩=m:=⟨_,rfl⟩
 have hC:=hid (fun W hW=>ZdG F A c ns root m W hW (by omega) hm)
 have hFu:=hid (fun W=>Zlp A ns.length c root W)
 have hbt0:=hid (ZfI A ns.length c root)
 replace hz0:=hid hz0
 cases m with
 |false=>
  have hE:tdropE ⟨ns,root⟩ k=8:=by unfold tdropE;rw[hm];rfl
  rw[ZiJ (by rw[hE];decide),hE]
  generalize k.1.map bv=dk at *
  clear hm
  go_enter Tryz.func267,Tryz.ntmps267
  go_wp2_with (first
   |(with_reducible refine Zac rfl 24 rfl zTrC Zas ?_)
   |(with_reducible refine lDr hb0.all hiT.out hut ?_))
  generalize ((w.alloc (.cells #[.slice A ns.length c,.int .i64 root] 24)).alloc (.cells dk.toArray 37)).alloc (.cells zTrC 24)=w0 at *
  refine(hC.out _ hr0).mono ?_
  rintro e w1 ⟨rfl,hb⟩
  have z1:=hid ((hb.block _ (block_lt hz0.out)).trans hz0.out)
  have W1:=hid (W0.trans (hb.mono W0.size))
  go_wp2_with (first
   |((with_reducible refine Zaf rfl 24 _ rfl zTrC [] ?_ ?_ ?_);exact hb0t.out;rfl)
   |((with_reducible refine stW 4 14 (w.heap.size+1+1) 24 zTrC ?_ ?_ ?_ ?_ ?_);exact z1.out;exact Zah;rfl;exact ZeP;intro w9 hg9 hb9 hs9))
  exact Vy0 (Zce Tryz.results267 _ _ (w.heap.size+1+1) none 0 0 0 rfl hg9) rfl ⟨none,0,rfl,OwnR.nil _ _,W1.out.grown hb9 W1.out.size (fun g e=>by injection e with e;omega)⟩
 |true=>
  have hFd:=fun W hW=>Zn4 F A c ns root k W hW hc hm
  rw[(ZmX k hm).1]at hFd
  obtain⟨hh,hhv⟩:∃hh,hasP (allT ⟨ns,root⟩) k=hh:=⟨_,rfl⟩
  rw[hhv]at hFd
  generalize endN ⟨ns,root⟩ k=x at *
  have hiS:=fun A2 c2=>hid (show (Tryz.prog.info? 106).map (·.size)=some (ndC x A2 c2).toArray.size by rw[Vx7,ZaG];exact Zbd)
  have hzs:=fun A2 c2=>hid (show zNdC.size=(ndC x A2 c2).toArray.size by rw[ZbY,Vx7,ZaG])
  have hone:=fun A2 c2=>hid (ZcZ x A2 c2)
  replace hFd:=hid hFd
  have hfdE:decide (261844<ns.length)=decide (261844<ns.length):=rfl
  cases hh with
  |false=>
   have hE:tdropE ⟨ns,root⟩ k=6:=by unfold tdropE;rw[hm,hhv];rfl
   rw[ZiJ (by rw[hE];decide),hE]
   generalize k.1.map bv=dk at *
   clear hm hhv hfdE
   go_enter Tryz.func267,Tryz.ntmps267
   go_wp2_with (first
    |(with_reducible refine Zac rfl 24 rfl zTrC Zas ?_)
    |(with_reducible refine lDr hb0.all hiT.out hut ?_))
   generalize ((w.alloc (.cells #[.slice A ns.length c,.int .i64 root] 24)).alloc (.cells dk.toArray 37)).alloc (.cells zTrC 24)=w0 at *
   refine(hC.out _ hr0).mono ?_
   rintro e w1 ⟨rfl,hb⟩
   have z1:=hid ((hb.block _ (block_lt hz0.out)).trans hz0.out)
   have t1:=hid (hb0.bel hb)
   have r1:=hid (hr0.bel hb)
   have k1:=hid (Zab hb hk0)
   have W1:=hid (W0.trans (hb.mono W0.size))
   clear hb hb0 hr0 hk0 hz0 W0
   go_wp2_with (first
    |(with_reducible refine lDr t1.out.all hiT.out hut ?_)
    |((with_reducible refine Zaf rfl 122 _ rfl #[Value.slice A ns.length c,.int .i64 root] [(0,.agg #[.slice A ns.length c,.int .i64 root])] ?_ ?_ ?_);exact hbt0.out;rfl)
    |(with_reducible refine lDr k1.out hi.out hu ?_))
   refine(hFd.out _ r1.out).mono ?_
   rintro e w2 ⟨A2,c2,rfl,-,hb⟩
   have z2:=hid ((hb.block _ (block_lt z1.out)).trans z1.out)
   have t2:=hid (t1.out.bel hb)
   have r2:=hid (r1.out.bel hb)
   have k2:=hid (Zab hb k1.out)
   have W2:=hid (W1.out.trans (hb.mono W1.out.size))
   have e2:=hid (Vx0 w2 (.cells zNdC 106))
   clear hb z1 t1 r1 k1 W1
   go_wp2_with (first
    |((with_reducible refine Zaf rfl 24 _ rfl zTrC [] ?_ ?_ ?_);exact hb0t.out;rfl)
    |(with_reducible refine Zac rfl 106 rfl zNdC Zbh ?_)
    |((with_reducible refine stW 7 21 _ 106 zNdC ?_ ?_ ?_ ?_ ?_);exact e2.out;exact(hiS A2 c2).out;exact(hzs A2 c2).out;exact(hone A2 c2).out;intro w3 hg3 hb3 hs3;have X3:=hid (Zan rfl hb3);have z3:=hid ((X3.out.block _ (block_lt z2.out)).trans z2.out);clear hg3 hb3 hs3)
    |((with_reducible refine stW 4 25 (w.heap.size+1+1) 24 zTrC ?_ ?_ ?_ ?_ ?_);exact z3.out;exact Zah;rfl;exact ZeP;intro w9 hg9 hb9 hs9))
   have W3:=W2.out.trans (X3.out.mono W2.out.size)
   exact Vy0 (Zce Tryz.results267 _ _ (w.heap.size+1+1) none 0 0 0 rfl hg9) rfl ⟨none,0,rfl,OwnR.nil _ _,W3.grown hb9 W3.size (fun g e=>by injection e with e;omega)⟩
  |true=>
   by_cases hfull:261844<ns.length
   ·have hE:tdropE ⟨ns,root⟩ k=9:=by unfold tdropE;rw[hm,hhv];dsimp only;rw[if_pos rfl,if_pos rfl,if_pos hfull]
    rw[ZiJ (by rw[hE];decide),hE]
    have hfd:=Vy2 hfull
    rw[hfd]at hFu
    generalize k.1.map bv=dk at *
    clear hm hhv hfd hfdE
    go_enter Tryz.func267,Tryz.ntmps267
    go_wp2_with (first
     |(with_reducible refine Zac rfl 24 rfl zTrC Zas ?_)
     |(with_reducible refine lDr hb0.all hiT.out hut ?_))
    generalize ((w.alloc (.cells #[.slice A ns.length c,.int .i64 root] 24)).alloc (.cells dk.toArray 37)).alloc (.cells zTrC 24)=w0 at *
    refine(hC.out _ hr0).mono ?_
    rintro e w1 ⟨rfl,hb⟩
    have z1:=hid ((hb.block _ (block_lt hz0.out)).trans hz0.out)
    have t1:=hid (hb0.bel hb)
    have r1:=hid (hr0.bel hb)
    have k1:=hid (Zab hb hk0)
    have W1:=hid (W0.trans (hb.mono W0.size))
    clear hb hb0 hr0 hk0 hz0 W0
    go_wp2_with (first
     |(with_reducible refine lDr t1.out.all hiT.out hut ?_)
     |((with_reducible refine Zaf rfl 122 _ rfl #[Value.slice A ns.length c,.int .i64 root] [(0,.agg #[.slice A ns.length c,.int .i64 root])] ?_ ?_ ?_);exact hbt0.out;rfl)
     |(with_reducible refine lDr k1.out hi.out hu ?_))
    refine(hFd.out _ r1.out).mono ?_
    rintro e w2 ⟨A2,c2,rfl,-,hb⟩
    have z2:=hid ((hb.block _ (block_lt z1.out)).trans z1.out)
    have t2:=hid (t1.out.bel hb)
    have r2:=hid (r1.out.bel hb)
    have k2:=hid (Zab hb k1.out)
    have W2:=hid (W1.out.trans (hb.mono W1.out.size))
    have e2:=hid (Vx0 w2 (.cells zNdC 106))
    clear hb z1 t1 r1 k1 W1
    go_wp2_with (first
     |(with_reducible refine Zac rfl 106 rfl zNdC Zbh ?_)
     |((with_reducible refine stW 7 21 _ 106 zNdC ?_ ?_ ?_ ?_ ?_);exact e2.out;exact(hiS A2 c2).out;exact(hzs A2 c2).out;exact(hone A2 c2).out;intro w3 hg3 hb3 hs3;have X3:=hid (Zan rfl hb3);have z3:=hid ((X3.out.block _ (block_lt z2.out)).trans z2.out);have t3:=hid (t2.out.bel X3.out);have r3:=hid (r2.out.bel X3.out);have k3:=hid (Zab X3.out k2.out);have W3:=hid (W2.out.trans (X3.out.mono W2.out.size));clear hg3 hb3 hs3)
     |(with_reducible refine lDr t3.out.all hiT.out hut ?_))
    refine(hFu.out _).mono ?_
    rintro e w4 ⟨rfl,hb⟩
    have z4:=hid ((hb.block _ (block_lt z3.out)).trans z3.out)
    have W4:=hid (W3.out.trans (hb.mono W3.out.size))
    go_wp2_with (first
     |((with_reducible refine Zaf rfl 24 _ rfl zTrC [] ?_ ?_ ?_);exact hb0t.out;rfl)
     |((with_reducible refine stW 4 28 (w.heap.size+1+1) 24 zTrC ?_ ?_ ?_ ?_ ?_);exact z4.out;exact Zah;rfl;exact ZeP;intro w9 hg9 hb9 hs9))
    exact Vy0 (Zce Tryz.results267 _ _ (w.heap.size+1+1) none 0 0 0 rfl hg9) rfl ⟨none,0,rfl,OwnR.nil _ _,W4.out.grown hb9 W4.out.size (fun g e=>by injection e with e;omega)⟩
   ·have hE:tdropE ⟨ns,root⟩ k=0:=by unfold tdropE;rw[hm,hhv];dsimp only;rw[if_pos rfl,if_pos rfl,if_neg hfull]
    have hTr:tdropT ⟨ns,root⟩ k=⟨(dropN ns k 256 root).1,(dropN ns k 256 root).2⟩:=by unfold tdropT;rw[if_pos hE]
    rw[hTr,hE]
    have hfd:decide (261844<ns.length)=false:=Vy1 hfull
    rw[hfd]at hFu
    obtain⟨-,m1,m2,ho,m3⟩:=ZaX.1 hm
    dsimp only at m1 m2 ho m3
    have hTw:=hid (fun W hW=>ZeC F A c ns root W hW hc (fun x hx=>Vx1 (ZjZ hm x hx) (by decide)))
    have hDG:=Ygm hm hhv
    have hput:=fun (g B0:Nat) (G:Nat→Prop) (W:World) T h1=>(show Calls Tryz.prog 272 #[.pointer (some ⟨g,0,none⟩),.int .i64 root,.int .i64 0,.agg (k.1.map bv).toArray] W (PutPost g B0 G G root W (dropN ns k 256 root)) from
     Zn9 g B0 G k ns root ho (by omega) 256 0 root W G rfl hDG T h1 (fun b hb=>hb))
    have hbt:=hid (fun A c=>ZfI A ns.length c root)
    obtain⟨rp,hrp⟩:∃rp,dropN ns k 256 root=rp:=⟨_,rfl⟩
    rw[hrp]at hput ⊢
    obtain⟨ns',M⟩:=rp
    dsimp only
    generalize hdk:k.1.map bv=dk at *
    replace hput:=hid hput
    clear hm hhv hrp hTr hE m1 m2 m3 hDG ho hfd hfdE
    go_enter Tryz.func267,Tryz.ntmps267
    go_wp2_with (first
     |(with_reducible refine Zac rfl 24 rfl zTrC Zas ?_)
     |(with_reducible refine lDr hb0.all hiT.out hut ?_))
    generalize ((w.alloc (.cells #[.slice A ns.length c,.int .i64 root] 24)).alloc (.cells dk.toArray 37)).alloc (.cells zTrC 24)=w0 at *
    refine(hC.out _ hr0).mono ?_
    rintro e w1 ⟨rfl,hb⟩
    have z1:=hid ((hb.block _ (block_lt hz0.out)).trans hz0.out)
    have t1:=hid (hb0.bel hb)
    have r1:=hid (hr0.bel hb)
    have k1:=hid (Zab hb hk0)
    have W1:=hid (W0.trans (hb.mono W0.size))
    clear hb hb0 hr0 hk0 hz0 W0
    go_wp2_with (first
     |(with_reducible refine lDr t1.out.all hiT.out hut ?_)
     |((with_reducible refine Zaf rfl 122 _ rfl #[Value.slice A ns.length c,.int .i64 root] [(0,.agg #[.slice A ns.length c,.int .i64 root])] ?_ ?_ ?_);exact hbt0.out;rfl)
     |(with_reducible refine lDr k1.out hi.out hu ?_))
    refine(hFd.out _ r1.out).mono ?_
    rintro e w2 ⟨A2,c2,rfl,-,hb⟩
    have z2:=hid ((hb.block _ (block_lt z1.out)).trans z1.out)
    have t2:=hid (t1.out.bel hb)
    have r2:=hid (r1.out.bel hb)
    have k2:=hid (Zab hb k1.out)
    have W2:=hid (W1.out.trans (hb.mono W1.out.size))
    have e2:=hid (Vx0 w2 (.cells zNdC 106))
    clear hb z1 t1 r1 k1 W1
    go_wp2_with (first
     |(with_reducible refine Zac rfl 106 rfl zNdC Zbh ?_)
     |((with_reducible refine stW 7 21 _ 106 zNdC ?_ ?_ ?_ ?_ ?_);exact e2.out;exact(hiS A2 c2).out;exact(hzs A2 c2).out;exact(hone A2 c2).out;intro w3 hg3 hb3 hs3;have X3:=hid (Zan rfl hb3);have z3:=hid ((X3.out.block _ (block_lt z2.out)).trans z2.out);have t3:=hid (t2.out.bel X3.out);have r3:=hid (r2.out.bel X3.out);have k3:=hid (Zab X3.out k2.out);have W3:=hid (W2.out.trans (X3.out.mono W2.out.size));clear hg3 hb3 hs3)
     |(with_reducible refine lDr t3.out.all hiT.out hut ?_))
    refine(hFu.out _).mono ?_
    rintro e w4 ⟨rfl,hb⟩
    have z4:=hid ((hb.block _ (block_lt z3.out)).trans z3.out)
    have t4:=hid (t3.out.bel hb)
    have r4:=hid (r3.out.bel hb)
    have k4:=hid (Zab hb k3.out)
    have W4:=hid (W3.out.trans (hb.mono W3.out.size))
    clear hb z3 t3 r3 k3 W3
    go_wp2_with ((with_reducible refine lDr t4.out.all hiT.out hut ?_))
    refine(hTw.out _ r4.out).mono ?_
    rintro e w5 ⟨A5,c5,rfl,ho5,hb⟩
    have z5:=hid ((hb.block _ (block_lt z4.out)).trans z4.out)
    have k5:=hid (Zab hb k4.out)
    have W5:=hid (W4.out.trans (hb.mono W4.out.size))
    have o5:=hid ho5
    have s5:=hid hb.size
    have lt4:=hid (block_lt z4.out)
    have e5:=hid (Vx0 w5 (.cells zTrC 122))
    clear hb z4 t4 r4 k4 ho5
    go_wp2_with (first
     |((with_reducible refine Zaf rfl 122 _ rfl #[Value.slice A5 ns.length c5,.int .i64 root] [(0,.agg #[.slice A5 ns.length c5,.int .i64 root])] ?_ ?_ ?_);exact hbt.out _ _;rfl)
     |(with_reducible refine Zac rfl 122 rfl zTrC ZsP ?_)
     |((with_reducible refine stW 9 31 _ 122 zTrC ?_ ?_ ?_ ?_ ?_);exact e5.out;exact ZbA;rfl;exact Zat A5 ns.length c5 root;intro w6 hg6 hb6 hs6;have X6:=hid (Zan rfl hb6);have g6:=hid hg6;have k6:=hid (Zab X6.out k5.out);have c2:=Zaq g6.out 1;simp only[List.getElem?_toArray,List.getElem?_cons_zero,List.getElem?_cons_succ]at c2;clear hg6 hb6 hs6)
     |(with_reducible refine lDr k6.out hi.out hu ?_))
    have z6:=hid ((X6.out.block _ (block_lt z5.out)).trans z5.out)
    have W6:=hid (W5.out.trans (X6.out.mono W5.out.size))
    have lt6:=hid (block_lt g6.out)
    clear k5 z5 e5 hTw hFu hC
    generalize hgg:w5.heap.size=g at *
    replace hgg:=hid hgg
    obtain⟨G,T7,hGF⟩:=ZvL (g:=g) (w:=w5) (w1:=w6) (w2:=w6) (G:=fun _=>False) o5.out (by rw[hgg.out];exact s5.out) (by rw[hgg.out];exact X6.out) g6.out (by rw[hgg.out];exact Vx8 _) (Below.refl _ _) (fun b hb=>hb.elim)
    refine(hput.out g _ G _ T7 (by have:=T7.lt;omega)).mono ?_
    rintro r w8 ⟨rfl,T8,S8,B8⟩
    dsimp only at T8
    obtain⟨A8,c8,h8,out8⟩:=T8.out_
    have f8:=Zap h8 1
    have d8:=Zaq h8 1
    have d80:=Zaq h8 0
    simp only[List.getElem?_toArray,List.getElem?_cons_zero,List.getElem?_cons_succ]at d8 d80
    replace h8:=hid h8
    replace out8:=hid out8
    replace B8:=hid B8
    have lt8:=hid T8.lt
    clear T8 S8 T7 hGF c2
    have g9:=hid (ZaD h8.out 1 (.int .i64 M))
    rw[show (#[Value.slice A8 ns'.length c8,.int .i64 root]:Array Value).setIfInBounds 1 (.int .i64 M)=#[.slice A8 ns'.length c8,.int .i64 M] from rfl]at g9
    have W8:=hid (W6.out.trans (B8.out.mono (by have:=W6.out.size;have:=lt4.out;omega)))
    have z8:=hid ((B8.out.block (w.heap.size+1+1) lt4.out).trans z6.out)
    have z9:=hid ((Vy3 w8 ⟨g,1,none⟩ (.int .i64 M) (w.heap.size+1+1) (by have:=lt4.out;have:=lt8.out.2;show w.heap.size+1+1≠g;omega)).trans z8.out)
    have W9:=hid (W8.out.setCell (p:=⟨g,1,none⟩) (by have:=lt8.out.2;have:=lt4.out;show w.heap.size≤g;omega) (.int .i64 M))
    have hi9:=hid (show (Tryz.prog.info? 24).map (·.size)=some ([Value.slice A8 ns'.length c8,.int .i64 M]).length from Zah)
    have r9:=hid (Zae (l:=[Value.slice A8 ns'.length c8,.int .i64 M]) g9.out)
    go_wp2_with (first
     |(with_reducible refine lDr r9.out hi9.out hut ?_)
     |((with_reducible refine stW 4 40 (w.heap.size+1+1) 24 zTrC ?_ ?_ ?_ ?_ ?_);exact z9.out;exact Zah;rfl;exact Zat A8 ns'.length c8 M;intro w10 hg9 hb9 hs9))
    refine Vy0 (Zce Tryz.results267 _ _ (w.heap.size+1+1) A8 ns'.length c8 M rfl hg9) rfl ⟨A8,c8,rfl,?_,W9.out.grown hb9 W9.out.size (fun g e=>by injection e with e;omega)⟩
    exact OwnR.base (out8.out w10 (fun b hb1 hb2 hb3=>(hb9.block b (by rw[show (w8.setCell ⟨g,1,none⟩ (.int .i64 M)).heap.size=w8.heap.size by simp[World.setCell]];exact hb2) (fun e=>by injection e with e;have:=lt4.out;omega)).trans (Vy3 _ _ _ b hb3))) (by have:=lt4.out;omega)
end Go.Proofs.YtnnclggeifnomaaGreatDoor
