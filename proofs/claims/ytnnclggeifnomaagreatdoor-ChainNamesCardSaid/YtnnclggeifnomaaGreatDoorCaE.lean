import Derived.Test.YtnnclggeifnomaaGreatDoorCaC
import Derived.Test.YtnnclggeifnomaaGreatDoorPrS
import Derived.Test.YtnnclggeifnomaaGreatDoorCaD
set_option maxRecDepth 100000
set_option linter.all false
set_option maxHeartbeats 8000000
namespace Go.Proofs.YtnnclggeifnomaaGreatDoor
open Go.RowKit
inductive Lf (ns:List Nd):Int→Dg→Prop
 |leaf {n:Int}:n≠0→(ndAt ns n).leaf=true→Lf ns n (ndAt ns n).k
 |left {n:Int} {k:Dg}:n≠0→(ndAt ns n).leaf=false→Lf ns (ndAt ns n).l k→Lf ns n k
 |right {n:Int} {k:Dg}:n≠0→(ndAt ns n).leaf=false→Lf ns (ndAt ns n).r k→Lf ns n k
def seen(ns:List Nd):Nat→Int→List Nat
 |e,n=>if n=0 then [] else if (ndAt ns n).leaf=true then [n.toNat] else match e with
  |0=>[]
  |e+1=>n.toNat::(seen ns e (ndAt ns n).l++seen ns e (ndAt ns n).r)
section
variable{ns:List Nd}{e:Nat}{n:Int}{b k:Dg}
theorem Zsj:seen ns e 0=[]:=by cases e<;>simp[seen]
theorem Ya8(h:n≠0)(hl:(ndAt ns n).leaf=true):seen ns e n=[n.toNat]:=by cases e<;>simp[seen,h,hl]
theorem Ya7(h:n≠0)(hl:(ndAt ns n).leaf=false):seen ns (e+1) n=n.toNat::(seen ns e (ndAt ns n).l++seen ns e (ndAt ns n).r):=by simp[seen,h,hl]
theorem ZzJ:∀(e:Nat) (n:Int) (p:Pr),p∈forP ns e n→Lf ns n p.k:=by
 intro e
 induction e with
 |zero=>
  intro n p hp
  by_cases h:n=0
  ·subst h;rw[ZaU]at hp;simp at hp
  ·cases hl:(ndAt ns n).leaf with
   |true=>rw[ZaT h hl]at hp;simp only[Vy4]at hp;subst hp;exact Lf.leaf h hl
   |false=>simp[forP,h,hl]at hp
 |succ e ih=>
  intro n p hp
  by_cases h:n=0
  ·subst h;rw[ZaU]at hp;simp at hp
  ·cases hl:(ndAt ns n).leaf with
   |true=>rw[ZaT h hl]at hp;simp only[Vy4]at hp;subst hp;exact Lf.leaf h hl
   |false=>
    rw[ZbV h hl]at hp
    rcases List.mem_append.1 hp with q|q
    ·exact Lf.left h hl (ih _ _ q)
    ·exact Lf.right h hl (ih _ _ q)
theorem Zrs(h:Lf ns n k):∀(e:Nat) (b:Dg),0≤rgt ns e n b→∃p∈forP ns e n,p.k=k:=by
 induction h with
 |leaf h hl=>intro e b _;exact⟨⟨_,_⟩,by rw[ZaT h hl];exact List.mem_singleton.2 rfl,rfl⟩
 |left h hl _ ih=>
  intro e b hr
  obtain⟨f,rfl,h1,h2,_⟩:=Za2 h hl hr
  obtain⟨p,hp,e⟩:=ih f b h1
  exact⟨p,by rw[ZbV h hl];exact List.mem_append_left _ hp,e⟩
 |right h hl _ ih=>
  intro e b hr
  obtain⟨f,rfl,h1,h2,_⟩:=Za2 h hl hr
  obtain⟨p,hp,e⟩:=ih f _ h2
  exact⟨p,by rw[ZbV h hl];exact List.mem_append_right _ hp,e⟩
theorem Ya9(ho:Ones ns):∀(e:Nat) (n:Int) (b:Dg),e≤256→Zr (256-e) b→0≤n→n≤ns.length→0≤rgt ns e n b→
  (seen ns e n).Nodup∧(∀ j∈seen ns e n,0<j∧(j:Int)≤n∧(∃ k,Lf ns (j:Int) k)∧∀k,Lf ns (j:Int) k→Lf ns n k)∧2 * (forP ns e n).length≤(seen ns e n).length+1:=by
 have leaf:∀(e:Nat) (n:Int),0≤n→n≠0→(ndAt ns n).leaf=true→(seen ns e n).Nodup∧(∀ j∈seen ns e n,0<j∧(j:Int)≤n∧(∃ k,Lf ns (j:Int) k)∧∀k,Lf ns (j:Int) k→Lf ns n k)∧2 * (forP ns e n).length≤(seen ns e n).length+1:=fun e n h0 h hl=>by
  rw[Ya8 h hl,ZaT h hl]
  refine⟨by simp,fun j hj=>?_,by simp⟩
  simp only[Vy4]at hj
  subst hj
  rw[Int.toNat_of_nonneg h0]
  exact⟨by omega,by omega,⟨_,Lf.leaf h hl⟩,fun k hk=>hk⟩
 intro e
 induction e with
 |zero=>
  intro n b _ _ h0 hn hr
  by_cases h:n=0
  ·subst h;rw[Zsj,ZaU];simp
  ·cases hl:(ndAt ns n).leaf with
   |true=>exact leaf 0 n h0 h hl
   |false=>rw[ZcN h hl]at hr;omega
 |succ e ih=>
  intro n b he hz h0 hn hr
  by_cases h:n=0
  ·subst h;rw[Zsj,ZaU];simp
  ·cases hl:(ndAt ns n).leaf with
   |true=>exact leaf (e+1) n h0 h hl
   |false=>
    have hs:=Zbz (e+1) n b he hz hr
    obtain⟨f,hf,h1,h2,h3,h4⟩:=Za2 h hl hr
    obtain rfl:e=f:=by omega
    have hd:256-(e+1)<256:=by omega
    have hd1:256-e=256-(e+1)+1:=by omega
    have hd2:255-e=256-(e+1):=by omega
    rw[hd2]at h2
    have z1:Zr (256-e) b:=by rw[hd1];exact Zeb hz
    have z2:Zr (256-e) (turnD b (256-(e+1))):=by rw[hd1];exact Zec hz hd
    obtain⟨⟨l0,ln⟩,⟨r0,rn⟩,_⟩:=ZgT ho (by omega) hn hl
    obtain⟨n1,m1,c1⟩:=ih _ b (by omega) z1 l0 (by omega) h1
    obtain⟨n2,m2,c2⟩:=ih _ _ (by omega) z2 r0 (by omega) h2
    have u1:=(Zbz e _ b (by omega) z1 h1).1
    have u2:=(Zbz e _ _ (by omega) z2 h2).1
    rw[hd1]at u1 u2
    have any:∃k,Lf ns n k:=by
     have:=hs.2.2.2.2.1 h4
     obtain⟨p,hp⟩:=List.exists_mem_of_length_pos (l:=forP ns (e+1) n) (by omega)
     exact⟨_,ZzJ _ _ p hp⟩
    rw[Ya7 h hl,ZbV h hl]
    refine⟨List.nodup_cons.2 ⟨fun hj=>?_,List.nodup_append.2 ⟨n1,n2,fun a ha c hc hac=>?_⟩⟩,fun j hj=>?_,?_⟩
    ·rcases List.mem_append.1 hj with q|q
     ·have:=(m1 _ q).2.1;omega
     ·have:=(m2 _ q).2.1;omega
    ·subst hac
     obtain⟨_,_,⟨k,hk⟩,q1⟩:=m1 a ha
     obtain⟨_,_,_,q2⟩:=m2 a hc
     obtain⟨p,hp,rfl⟩:=Zrs (q1 k hk) e b h1
     obtain⟨q,hq,e2⟩:=Zrs (q2 _ hk) e _ h2
     have a1:=u1 p hp (256-(e+1)) (by omega)
     have a2:=u2 q hq (256-(e+1)) (by omega)
     rw[e2,a1,ZcQ hz hd,hz _ (Vx8 _) hd]at a2
     omega
    ·rcases List.mem_cons.1 hj with rfl|hj
     ·rw[Int.toNat_of_nonneg h0]
      exact⟨by omega,by omega,any,fun k hk=>hk⟩
     ·rcases List.mem_append.1 hj with q|q
      ·obtain⟨q1,q2,q3,q4⟩:=m1 j q
       exact⟨q1,by omega,q3,fun k hk=>Lf.left h hl (q4 k hk)⟩
      ·obtain⟨q1,q2,q3,q4⟩:=m2 j q
       exact⟨q1,by omega,q3,fun k hk=>Lf.right h hl (q4 k hk)⟩
    ·simp only[List.length_cons,Vx3]
     omega
end
theorem Zyf{t:Tr}(h:mayT t=true):2 * (allT t).length≤t.ns.length+1:=by
 obtain⟨h1,h2,h3,h4,h5⟩:=ZaX.1 h
 obtain⟨n,m,c⟩:=Ya9 h4 256 t.root z0 (Vx8 _) Zfk h2 h3 h5
 have:=Znj (seen t.ns 256 t.root) ((List.range t.ns.length).map (·+1)) n fun x hx=>by
  obtain⟨q1,q2,_⟩:=m x hx
  exact List.mem_map.2 ⟨x-1,List.mem_range.2 (by omega),by omega⟩
 rw[Vx6,List.length_range]at this
 unfold allT
 omega
def trN(ns:List Nd):Nat→Int→List Nd→List Nd×Int
 |e,n,ms=>if n=0 then (ms,0) else if (ndAt ns n).leaf=true then (ms++[ndAt ns n],(ms.length:Int)+1) else match e with
  |0=>(ms,0)
  |e+1=>((trN ns e (ndAt ns n).r (trN ns e (ndAt ns n).l ms).1).1++[forkN (trN ns e (ndAt ns n).l ms).2 (trN ns e (ndAt ns n).r (trN ns e (ndAt ns n).l ms).1).2],((trN ns e (ndAt ns n).r (trN ns e (ndAt ns n).l ms).1).1.length:Int)+1)
section
variable{ns ms:List Nd}{e:Nat}{n:Int}{b:Dg}
theorem Yl4:trN ns e 0 ms=(ms,0):=by cases e<;>simp[trN]
theorem Yl3(h:n≠0)(hl:(ndAt ns n).leaf=true):trN ns e n ms=(ms++[ndAt ns n],(ms.length:Int)+1):=by cases e<;>simp[trN,h,hl]
theorem YmW(h:n≠0)(hl:(ndAt ns n).leaf=false):trN ns (e+1) n ms=((trN ns e (ndAt ns n).r (trN ns e (ndAt ns n).l ms).1).1++[forkN (trN ns e (ndAt ns n).l ms).2 (trN ns e (ndAt ns n).r (trN ns e (ndAt ns n).l ms).1).2],((trN ns e (ndAt ns n).r (trN ns e (ndAt ns n).l ms).1).1.length:Int)+1):=by simp[trN,h,hl]
def TrnOk(ns ms:List Nd)(e:Nat)(n:Int)(b:Dg)(o:List Nd×Int):Prop:=Ones o.1∧(∃ x,o.1=ms++x)∧0≤o.2∧o.2≤o.1.length∧0≤rgt o.1 e o.2 b∧forP o.1 e o.2=forP ns e n∧o.1.length=ms.length+(seen ns e n).length
theorem Yl5(ho:Ones ns)(hm:Ones ms)(h0:0≤n)(hn:n≤ns.length)(hz:n≠0)(hl:(ndAt ns n).leaf=true)(hr:0≤rgt ns e n b):TrnOk ns ms e n b (ms++[ndAt ns n],(ms.length:Int)+1):=by
 obtain⟨j,hj,rfl,hx,hone⟩:=Zc6 ho (by omega) hn
 have hl2:ns[j].leaf=true:=by rw[← hx];exact hl
 obtain⟨hv,e1,e2⟩:=Zgu hone hl2
 have ha:ndAt (ms++[ndAt ns ((j:Int)+1)]) ((ms.length:Int)+1)=ndAt ns ((j:Int)+1):=ZrI _
 have hne:(ms.length:Int)+1≠0:=by omega
 refine⟨ZrM hm ?_,⟨_,rfl⟩,by dsimp only;omega,by simp,?_,?_,by rw[Ya8 hz hl];simp⟩
 ·rw[hx]
  unfold oneN
  rw[if_pos hl2,hv,e1,e2]
  rfl
 ·dsimp only
  rw[Zck hne (by rw[ha];exact hl),ha]
  rw[Zck hz hl]at hr
  exact hr
 ·dsimp only
  rw[ZaT hne (by rw[ha];exact hl),ha,ZaT hz hl]
theorem Ynw(ho:Ones ns):∀(e:Nat) (n:Int) (b:Dg) (ms:List Nd),Ones ms→e≤256→Zr (256-e) b→0≤n→n≤ns.length→0≤rgt ns e n b→TrnOk ns ms e n b (trN ns e n ms):=by
 intro e
 induction e with
 |zero=>
  intro n b ms hm he hz h0 hn hr
  by_cases h:n=0
  ·subst h
   rw[Yl4]
   exact⟨hm,⟨[],by simp⟩,by simp,by simp,by rw[ZdK];decide,by rw[ZaU,ZaU],by rw[Zsj];rfl⟩
  ·cases hl:(ndAt ns n).leaf with
   |true=>rw[Yl3 h hl];exact Yl5 ho hm h0 hn h hl hr
   |false=>rw[ZcN h hl]at hr;omega
 |succ e ih=>
  intro n b ms hm he hz h0 hn hr
  by_cases h:n=0
  ·subst h
   rw[Yl4]
   exact⟨hm,⟨[],by simp⟩,by simp,by simp,by rw[ZdK];decide,by rw[ZaU,ZaU],by rw[Zsj];rfl⟩
  ·cases hl:(ndAt ns n).leaf with
   |true=>rw[Yl3 h hl];exact Yl5 ho hm h0 hn h hl hr
   |false=>
    obtain⟨f,hf,r1,r2,r3,_⟩:=Za2 h hl hr
    obtain rfl:e=f:=by omega
    obtain⟨k1,k2,_⟩:=ZgT ho (by omega) hn hl
    have z0:Zr (255-e) b:=by rw[show 255-e=256-(e+1) by omega];exact hz
    have z1:Zr (256-e) b:=by rw[show 256-e=255-e+1 by omega];exact Zeb z0
    have z2:Zr (256-e) (turnD b (255-e)):=by rw[show 256-e=255-e+1 by omega];exact Zec z0 (by omega)
    obtain⟨a1,⟨x1,a2⟩,a3,a4,a5,a6,a7⟩:=ih (ndAt ns n).l b ms hm (by omega) z1 k1.1 (by omega) r1
    obtain⟨c1,⟨x2,c2⟩,c3,c4,c5,c6,c7⟩:=ih (ndAt ns n).r (turnD b (255-e)) (trN ns e (ndAt ns n).l ms).1 a1 (by omega) z2 k2.1 (by omega) r2
    rw[YmW h hl]
    unfold TrnOk
    rw[Ya7 h hl,ZbV h hl]
    generalize trN ns e (ndAt ns n).l ms=p at *
    generalize trN ns e (ndAt ns n).r p.1=q at *
    have b5:0≤rgt q.1 e p.2 b:=by rw[c2,Zjl a1 _ _ _ a3 a4];exact a5
    have b6:forP q.1 e p.2=forP ns e (ndAt ns n).l:=by rw[c2,Zhd a1 _ _ a3 a4];exact a6
    have hlen:p.1.length≤q.1.length:=by rw[c2];simp
    have q1:=Zk8 (by omega) z1 r1
    have q2:=Zk8 (by omega) z2 r2
    have u1:=@ZnD ns e (ndAt ns n).l b
    have u2:=@ZnD ns e (ndAt ns n).r (turnD b (255-e))
    obtain⟨g1,g2,g3⟩:=ZkN (l:=p.2) (r:=q.2) c1 he z0 a3 (by omega) c3 c4 b5 c5 (by rw[b6,c6];omega)
    refine⟨g1,⟨x1++x2++[forkN p.2 q.2],by dsimp only;rw[c2,a2];simp⟩,by dsimp only;omega,by simp,g2,by dsimp only;rw[g3,b6,c6],by simp[c7,a7];omega⟩
def prunedT(t:Tr):Tr:=⟨(trN t.ns 256 t.root []).1,(trN t.ns 256 t.root []).2⟩
theorem YmC{t:Tr}(h:mayT t=true):mayT (prunedT t)=true∧allT (prunedT t)=allT t∧(prunedT t).ns.length≤t.ns.length:=by
 obtain⟨a0,a1,a2,ho,hr⟩:=ZaX.1 h
 obtain⟨b1,_,b3,b4,b5,b6,b7⟩:=Ynw ho 256 t.root z0 [] (fun i hi=>absurd hi (by simp)) (by omega) Zfk a1 a2 hr
 have hle:(seen t.ns 256 t.root).length≤t.ns.length:=by
  obtain⟨s1,s2,_⟩:=Ya9 ho 256 t.root z0 (by omega) Zfk a1 a2 hr
  have:=Znj (seen t.ns 256 t.root) ((List.range t.ns.length).map (·+1)) s1 fun x hx=>by
   obtain⟨q1,q2,_⟩:=s2 x hx
   exact List.mem_map.2 ⟨x-1,List.mem_range.2 (by omega),by omega⟩
  rwa [Vx6,List.length_range]at this
 have hl2:(prunedT t).ns.length≤t.ns.length:=by
  show (trN t.ns 256 t.root []).1.length≤_
  rw[b7]
  simpa using hle
 exact⟨ZaX.2 ⟨by omega,b3,b4,b1,b5⟩,b6,hl2⟩
theorem Ym4{t:Tr}(h:mayA t=true):mayA (prunedT t)=true∧allT (prunedT t)=allT t∧(prunedT t).ns.length≤t.ns.length:=by
 have h2:=h
 unfold mayA at h2
 simp only[Bool.and_eq_true]at h2
 obtain⟨k1,k2,k3⟩:=YmC h2.1
 refine⟨?_,k2,k3⟩
 unfold mayA
 rw[k1,k2,h2.2]
 rfl
end
structure TpAt (F:Nat→Prop) (g B:Nat) (An:Option Addr) (ns:List Nd) (r0:Int) (W:World) (A:Option Addr) (c:Nat) (ms:List Nd):Prop where
 box:W.heap[g]? =some (.cells #[.slice A ms.length c,.int .i64 r0] 24 (0,0))
 own:RowO 106 F W B A c ms
 row:Row F W An ns
 hg:g<B
 hB:B≤W.heap.size
 hF:∀b,F b→b<B∧b≠g
section
variable{F Z:Nat→Prop}{g B:Nat}{An:Option Addr}{ns ms:List Nd}{r0:Int}{W W':World}{A:Option Addr}{c:Nat}
theorem TpAt.chg(h:TpAt F g B An ns r0 W A c ms)(hc:Chg Z W W')(hZ:∀b,Z b→b<W.heap.size→b≠g∧B≤b∧∀a,A=some a→b≠a.block):TpAt F g B An ns r0 W' A c ms:=by
 have hl:=block_lt h.box
 have hF:∀b,F b→b<W.heap.size→W'.heap[b]? =W.heap[b]? :=fun b hb hl=>hc.block b hl fun e=>by have:=(hZ b e hl).2.1;have:=(h.hF b hb).1;omega
 exact⟨(hc.block _ hl fun e=>(hZ _ e hl).1 rfl).trans h.box,h.own.kept (fun a ha hl=>hc.block _ hl fun e=>(hZ _ e hl).2.2 a ha rfl) hF,h.row.kept hF hc.size,h.hg,Vx1 h.hB hc.size,h.hF⟩
theorem TpAt.bel(h:TpAt F g B An ns r0 W A c ms)(hb:Below W.heap.size W W'):TpAt F g B An ns r0 W' A c ms:=h.chg (Chg.of_bel (F:=fun _=>False) hb) fun b h _=>h.elim
end
def TpQ(F:Nat→Prop)(g B:Nat)(An:Option Addr)(ns:List Nd)(r0:Int)(A:Option Addr)(ms:List Nd)(r:Int)(w:World)(e:Ending)(w':World):Prop:=
 ∃A' c',e=.returned (.int .i64 r)∧TpAt F g B An ns r0 w' A' c' ms∧Chg (fun b=>b=g∨some b=A.map (·.block)) w w'∧∀a,A'=some a→some a.block=A.map (·.block)∨w.heap.size≤a.block
theorem YmJ(F:Nat→Prop)(g B:Nat)(An:Option Addr)(cn:Nat)(ns:List Nd)(root r0:Int)(A:Option Addr)(c:Nat)(ms:List Nd)(w:World)(h:TpAt F g B An ns r0 w A c ms):
  Calls Tryz.prog 130 #[.pointer (some ⟨g,0,none⟩),.agg #[.slice An ns.length cn,.int .i64 root],.int .i64 0] w (TpQ F g B An ns r0 A ms 0 w):=by
 have W0:=hid (Zad w (.cells #[.slice An ns.length cn,.int .i64 root] 24))
 have h0:=hid (h.bel W0.out)
 have hb:=hid h.own.blk
 clear h
 go_enter Tryz.func130,Tryz.ntmps130
 go_wp2
 go_ret
 exact⟨A,c,rfl,h0.out,Chg.of_bel W0.out,fun a ha=>.inl (by rw[ha];rfl)⟩
theorem Ynh(x:Nd)(V:Option Addr)(d:Nat)(r:Int):(ndC x V d).toArray.setIfInBounds 34 (.int .i64 r)=(ndC { x with l:=r } V d).toArray:=by
 have e:ndC x V d=([Value.bool x.leaf]++x.k.1.map bv)++[.slice V x.v.length d,.int .i64 x.l,.int .i64 x.r]:=by simp[ndC]
 have l:([Value.bool x.leaf]++x.k.1.map bv).length=33:=by simp[x.k.2]
 rw[List.setIfInBounds_toArray,e,List.set_append_right _ _ (by omega),l]
 simp[ndC]
theorem Yni(x:Nd)(V:Option Addr)(d:Nat)(r:Int):(ndC x V d).toArray.setIfInBounds 35 (.int .i64 r)=(ndC { x with r:=r } V d).toArray:=by
 have e:ndC x V d=([Value.bool x.leaf]++x.k.1.map bv)++[.slice V x.v.length d,.int .i64 x.l,.int .i64 x.r]:=by simp[ndC]
 have l:([Value.bool x.leaf]++x.k.1.map bv).length=33:=by simp[x.k.2]
 rw[List.setIfInBounds_toArray,e,List.set_append_right _ _ (by omega),l]
 simp[ndC]
theorem YkO{F G:Nat→Prop}{v w w':World}(h:Chg G v w)(k:Chg F w w')(hk:∀b,b<v.heap.size→F b→G b):Chg G v w':=
 ⟨k.os.trans h.os,k.tape.trans h.tape,k.output.trans h.output,Vx1 h.size k.size,fun b hb hn=>(k.block b (Vx4 hb h.size) fun e=>hn (hk b hb e)).trans (h.block b hb hn)⟩
theorem Ymo{X:Option Nat}{A4 A9:Option Addr}{N M:Nat}(q4:∀a,A4=some a→some a.block=X∨N≤a.block)(q9:∀a,A9=some a→some a.block=A4.map (·.block)∨M≤a.block)(h:N≤M):∀a,A9=some a→some a.block=X∨N≤a.block:=fun a ha=>by
 rcases q9 a ha with e|e
 ·rcases A4 with _|a4
  ·cases e
  ·simp only[Option.map_some,Option.some.injEq]at e
   have:=q4 a4 rfl
   rw[← e]at this
   exact this
 ·exact .inr (Vx1 h e)
theorem YlY{A A4:Option Addr}{N k:Nat}(hA:∀a,A=some a→a.block<k)(q:∀a,A4=some a→some a.block=A.map (·.block)∨N≤a.block)(hk:k<N):∀a,A4=some a→k≠a.block:=fun a ha e=>by
 rcases q a ha with h|h
 ·rcases A with _|a0
  ·cases h
  ·simp only[Option.map_some,Option.some.injEq]at h
   have:=hA a0 rfl
   omega
 ·omega
theorem Ymp{A A4:Option Addr}{N k:Nat}(q:∀a,A4=some a→some a.block=A.map (·.block)∨N≤a.block)(hk:k<N)(e:some k=A4.map (·.block)):some k=A.map (·.block):=by
 rcases A4 with _|a
 ·cases e
 ·simp only[Option.map_some,Option.some.injEq]at e
  rcases q a rfl with h|h
  ·rw[e];exact h
  ·omega
theorem Ym5{A A9 A10:Option Addr}{N M K:Nat}(h:A10=A9∨A10=some ⟨K,0,none⟩)(q:∀a,A9=some a→some a.block=A.map (·.block)∨N≤a.block)(h1:M≤N)(h2:M≤K):∀a,A10=some a→some a.block=A.map (·.block)∨M≤a.block:=fun a ha=>by
 rcases h with rfl|rfl
 ·exact(q a ha).imp id (Vx1 h1)
 ·injection ha with ha
  subst ha
  exact .inr h2
theorem Yk9{A:Option Addr}{k:Nat}(h:∀a,A=some a→k≠a.block):some k≠A.map (·.block):=fun e=>by
 rcases A with _|a
 ·cases e
 ·simp only[Option.map_some,Option.some.injEq]at e
  exact h a rfl e
theorem YmI(F:Nat→Prop)(g B:Nat)(An:Option Addr)(cn:Nat)(ns:List Nd)(root r0:Int)(j:Nat)(hj:j<ns.length)(hcn:ns.length≤1000000)(A:Option Addr)(c:Nat)(ms m1 m2:List Nd)(r1 r2:Int)(w:World)(h:TpAt F g B An ns r0 w A c ms)(hm:m2.length≤1000000)(i1:I64 r1)(i2:I64 r2)
  (hL:∀W A c,TpAt F g B An ns r0 W A c ms→Calls Tryz.prog 130 #[.pointer (some ⟨g,0,none⟩),.agg #[.slice An ns.length cn,.int .i64 root],.int .i64 ns[j].l] W (TpQ F g B An ns r0 A m1 r1 W))
  (hR:∀W A c,TpAt F g B An ns r0 W A c m1→Calls Tryz.prog 130 #[.pointer (some ⟨g,0,none⟩),.agg #[.slice An ns.length cn,.int .i64 root],.int .i64 ns[j].r] W (TpQ F g B An ns r0 A m2 r2 W)):
  Calls Tryz.prog 130 #[.pointer (some ⟨g,0,none⟩),.agg #[.slice An ns.length cn,.int .i64 root],.int .i64 ((j:Int)+1)] w (TpQ F g B An ns r0 A (m2++[{ ns[j]with l:=r1,r:=r2 }]) ((m2.length:Int)+1) w):=by
 have hut:=Tryz.underlying24
 have hun:=Tryz.underlying106
 have hlt:=block_lt h.box
 obtain⟨b,o,hA,V,d,hn,v1,v2,v3,k1,k2⟩:=Zb7 h.row hj
 subst hA
 have T0:=BoxT.new w (some ⟨b,o,none⟩) ns.length cn root 24
 have W0:=hid (Zad w (.cells #[.slice (some ⟨b,o,none⟩) ns.length cn,.int .i64 root] 24))
 have l0:=T0.ns
 have h0:=hid (h.bel W0.out)
 have n0:=hid (Zab W0.out hn)
 have e0:=hid (Vx0 (w.alloc (.cells #[.slice (some ⟨b,o,none⟩) ns.length cn,.int .i64 root] 24)) (.cells zNdC 106))
 have hblk0:=hid h.own.blk
 have hblk:=hid h0.out.own.blk
 have hrep:=hid (fun W (hW:Row F W V ns[j].v)=>(show Enc.rep F W ({ ns[j]with l:=r1,r:=r2 }:Nd) (ndC { ns[j]with l:=r1,r:=r2 } V d) from Zf7 { ns[j]with l:=r1,r:=r2 } V d v1 v2 hW i1 i2))
 have V0:=hid (v3.bel W0.out)
 have hz0:(((j:Int)+1)==0)=false:=by rw[beq_eq_false_iff_ne];omega
 have hw1:IntKind.i64.wrap ((j:Int)+1-1)=(j:Int):=by rw[IntKind.wrap_i64];omega
 have hj2:(j:Int)<(ns.length:Int):=by omega
 have hsi:=fun x:Nd=>hid (show (Tryz.prog.info? 106).map (·.size)=some (ndC x V d).length by rw[ZaG];exact Zbd)
 have hsa:=fun x:Nd=>hid (show (Tryz.prog.info? 106).map (·.size)=some (ndC x V d).toArray.size by rw[Vx7,ZaG];exact Zbd)
 have hza:=fun x:Nd=>hid (show zNdC.size=(ndC x V d).toArray.size by rw[ZbY,Vx7,ZaG])
 have hna:=fun x:Nd=>hid (ZcZ x V d)
 have hst:=hid (fun x:Nd=>Ynh x V d r1)
 have hsr:=hid (fun x:Nd=>Yni x V d r2)
 have hle:=fun x:Nd=>hid (show (ndC x V d).length=Enc.size Nd from ZaG x V d)
 generalize ns[j]=x at *
 replace hL:=hid hL
 replace hR:=hid hR
 replace hm:=hid hm
 have t0:=hid T0.all
 have hgB:=hid h.hg
 have hBw:=hid h.hB
 have hFo:=hid h.hF
 clear h hn v3 T0 hj
 go_enter Tryz.func130,Tryz.ntmps130
 go_wp2_with (first
  |(with_reducible refine lDr n0.out (hsi x).out hun ?_)
  |(with_reducible refine Zac rfl 106 rfl zNdC Zbh ?_)
  |((with_reducible refine stW 7 15 _ 106 zNdC ?_ ?_ ?_ ?_ ?_);exact e0.out;exact(hsa x).out;exact(hza x).out;exact(hna x).out;intro w2 hgS hbS hsS;have X2:=hid (Zan rfl hbS);have N2:=hid hgS;clear hgS hbS hsS))
 have N3:=N2.out
 have Y2:=hid (W0.out.trans (X2.out.mono W0.out.size))
 have p0:=(h0.out.bel X2.out).bel (Zao w2)
 have t2:=hid (Zab X2.out t0.out)
 have V2:=hid (V0.out.bel X2.out)
 simp only[Vx2]at N3 ⊢
 have hiT:=hid (show (Tryz.prog.info? 24).map (·.size)=some ([Value.slice (some ⟨b,o,none⟩) ns.length cn,.int .i64 root]).length from Zah)
 have ltn:=hid (block_lt N3)
 have hA1:=hid (fun a (ha:A=some a)=>(show a.block<w.heap.size+1 by have:=(hblk.out a ha).2;rw[Vx2]at this;omega))
 have hA0:=hid (fun a (ha:A=some a)=>(show w.heap.size≠a.block∧B≤a.block from ⟨by have:=(hblk0.out a ha).2;omega,(hblk0.out a ha).1⟩))
 have nbA:=hid (fun e:some (w.heap.size+1)=A.map (·.block)=>Yk9 (fun a ha=>by have:=hA1.out a ha;omega) e)
 have ntA:=hid (fun e:some w.heap.size=A.map (·.block)=>Yk9 (fun a ha=>(hA0.out a ha).1) e)
 have nbg:=hid (show w.heap.size+1≠g by have:=hgB.out;have:=hBw.out;omega)
 have ntg:=hid (show w.heap.size≠g by have:=hgB.out;have:=hBw.out;omega)
 have nBb:=hid (show B≤w.heap.size+1 by have:=hBw.out;omega)
 have si2:=hid (show (Tryz.prog.info? 3).map (·.size)=some 1 by kernel_rfl)
 have si3:=hid (show (Tryz.prog.info? 22).map (·.size)=some 1 by kernel_rfl)
 have s34:=fun x:Nd=>hid (show 34<(ndC x V d).toArray.size by rw[Vx7,ZaG];decide)
 have s35:=fun x:Nd=>hid (show 35<(ndC x V d).toArray.size by rw[Vx7,ZaG];decide)
 have n7:=N3
 clear N2 N3 X2 t0 V0 h0 n0 e0 W0
 refine wp_region_noPanic ?_
 refine wp_region_held_drew (S:=fun w'=>Chg (fun b=>b=g∨some b=A.map (·.block)∨b=w.heap.size+1) w2 w') (by kernel_rfl) ?_ (fun hHeld=>?_)
 ·exact Chg.of_bel (Zao w2)
 refine' tkP 0 rfl ?_
 refine' tkM 1 rfl (fun _ h=>Zak t2.out (fun hb=>h.block _ hb (fun e=>by rcases e with e|e|e;exact ntg.out e;exact ntA.out e;omega))) hut hiT.out ?_
 refine' tkW 2 5 ?_
 simp only[sQ]
 refine' tkM 6 rfl (fun _ h=>Zak t2.out (fun hb=>h.block _ hb (fun e=>by rcases e with e|e|e;exact ntg.out e;exact ntA.out e;omega))) hut hiT.out ?_
 refine' tkP 7 rfl ?_
 simp only[sQ]
 apply shareK (T:=fun (K:World→(Option Addr)→(Nat)→Prop)=>∀(wq:World) (A4:Option Addr) (c4:Nat),Chg (fun b=>b=g∨some b=A.map (·.block)∨b=w.heap.size+1) w2 wq→TpAt F g B (some ⟨b,o,none⟩) ns r0 wq A4 c4 m1→Hid (∀ a,A4=some a→some a.block=A.map (·.block)∨w2.heap.size≤a.block)→wq.heap[w.heap.size+1]? =some (.cells (ndC x V d).toArray 106 (0,0))→K wq A4 c4)
 intro M1
 apply shareK (T:=fun (K:World→Prop)=>∀(wq:World),Chg (fun b=>b=g∨some b=A.map (·.block)∨b=w.heap.size+1) w2 wq→TpAt F g B (some ⟨b,o,none⟩) ns r0 wq A c ms→wq.heap[w.heap.size+1]? =some (.cells (ndC x V d).toArray 106 (0,0))→K wq)
 intro M0
 ·skip
  refine Ynx 3 8 rfl rfl (fun K hK=>?_) (fun K hK=>?_)
  ·skip
   have hCell:=(BoxN.heap n7).l
   go_simp
   refine hK.out _ _ (hHeld) fun hHeld=>?_
   clear hK K
   try simp only[sQ]
   refine Ynx 4 8 rfl rfl (fun K hK=>?_) (fun K hK=>?_)
   ·skip
    go_simp
    refine(hL.out _ A c p0).mono ?_
    rintro r v4 ⟨A4,c4,rfl,p4,hC4,q4⟩
    replace q4:=hid (fun a ha=>(q4 a ha).imp id (Vx1 hHeld.size))
    have n7:=(hC4.block _ (block_lt n7) (fun e=>by rcases e with e|e;exact nbg.out e;exact nbA.out e)).trans n7
    go_wp2_with fail
    refine hK.out _ _ (YkO hHeld hC4 (fun b _ e=>by rcases e with e|e;exact .inl e;exact .inr (.inl e))) fun hHeld=>?_
    clear hK K
    try simp only[sQ]
    refine rdH 8 rfl fun K hK=>?_
    have hCell:=(BoxN.heap n7).r
    go_simp
    refine hK.out _ _ (hHeld) fun hHeld=>?_
    clear hK K
    try simp only[sQ]
    refine' tkP 10 rfl ?_
    simp only[sQ]
    exact M1 _ A4 c4 hHeld p4 q4 n7
   ·skip
    have hCell:=(BoxN.heap n7).r
    go_simp
    refine hK.out _ _ (hHeld) fun hHeld=>?_
    clear hK K
    try simp only[sQ]
    exact M0 _ hHeld p0 n7
  ·skip
   have hCell:=(BoxN.heap n7).r
   go_simp
   refine hK.out _ _ (hHeld) fun hHeld=>?_
   clear hK K
   try simp only[sQ]
   refine rdH 3 rfl fun K hK=>?_
   have hCell:=(BoxN.heap n7).l
   go_simp
   refine hK.out _ _ (hHeld) fun hHeld=>?_
   clear hK K
   try simp only[sQ]
   exact M0 _ hHeld p0 n7
 ·skip
  intro wq hHeld p0 n7
  refine rdH 4 rfl fun K hK=>?_
  go_simp
  refine(hL.out _ A c p0).mono ?_
  rintro r v4 ⟨A4,c4,rfl,p4,hC4,q4⟩
  replace q4:=hid (fun a ha=>(q4 a ha).imp id (Vx1 hHeld.size))
  have n7:=(hC4.block _ (block_lt n7) (fun e=>by rcases e with e|e;exact nbg.out e;exact nbA.out e)).trans n7
  go_wp2_with fail
  refine hK.out _ _ (YkO hHeld hC4 (fun b _ e=>by rcases e with e|e;exact .inl e;exact .inr (.inl e))) fun hHeld=>?_
  clear hK K
  try simp only[sQ]
  refine' tkP 10 rfl ?_
  simp only[sQ]
  exact M1 _ A4 c4 hHeld p4 q4 n7
 intro wq A4 c4 hHeld p4 q4 n7
 refine rdH 9 rfl fun K hK=>?_
 go_simp
 refine(hR.out _ A4 c4 p4).mono ?_
 rintro r v9 ⟨A9,c9,rfl,p9,hC9,q9⟩
 replace q9:=hid (Ymo q4.out q9 hHeld.size)
 have n7:=(hC9.block _ (block_lt n7) (fun e=>by rcases e with e|e;exact nbg.out e;exact Yk9 (YlY hA1.out q4.out ltn.out) e)).trans n7
 go_wp2_with fail
 refine hK.out _ _ (YkO hHeld hC9 (fun k hk e=>by rcases e with e|e;exact .inl e;exact .inr (.inl (Ymp q4.out hk e)))) fun hHeld=>?_
 clear hK K
 try simp only[sQ]
 refine rdH 11 rfl fun K hK=>?_
 refine Zez rfl 3 (.tmp 26) (.tmp 20) rfl (w.heap.size+1) 34 (.int .i64 r1) _ _ rfl rfl rfl rfl n7 (s34 x).out si2.out ?_
 intro v11 n8 hC11
 rw[hst.out]at n8
 have p9:=p9.chg hC11 (fun b e _=>by subst e;exact⟨nbg.out,nBb.out,fun a ha=>YlY hA1.out q9.out ltn.out a ha⟩)
 refine hK.out _ _ (YkO hHeld hC11 (fun b _ e=>.inr (.inr e))) fun hHeld=>?_
 clear hK K
 try simp only[sQ]
 refine' tkP 12 rfl ?_
 simp only[sQ]
 refine rdH 13 rfl fun K hK=>?_
 refine Zez rfl 3 (.tmp 27) (.tmp 25) rfl (w.heap.size+1) 35 (.int .i64 r2) _ _ rfl rfl rfl rfl n8 (s35 _).out si2.out ?_
 intro v13 n9 hC13
 rw[hsr.out]at n9
 have p9:=p9.chg hC13 (fun b e _=>by subst e;exact⟨nbg.out,nBb.out,fun a ha=>YlY hA1.out q9.out ltn.out a ha⟩)
 refine hK.out _ _ (YkO hHeld hC13 (fun b _ e=>.inr (.inr e))) fun hHeld=>?_
 clear hK K
 try simp only[sQ]
 refine dnN ?_
 have C13:=hid hHeld
 have V13:=V2.out.chg hHeld (fun k hk _ e=>by have:=hFo.out k hk;rcases e with e|e|e;exact this.2 e;(exact Yk9 (fun a ha e=>by have h1:=(hA0.out a ha).2;omega) e);(have:=nBb.out;omega))
 have n10:=hid (Zae n9)
 have ltv:=hid (Vx4 ltn.out hHeld.size)
 have hl9:=hid (hle ({ x with l:=r1,r:=r2 }))
 have szN:=hid (show Enc.size Nd≤16777216 by show 36≤16777216;decide)
 have hsx:=hid (hsi { x with l:=r1,r:=r2 })
 have R13:=hid (hrep.out _ V13)
 generalize ({ x with l:=r1,r:=r2 }:Nd)=x2 at *
 have hb9:=hid p9.own.blk
 have b9:=p9.box
 have p5:=p9.bel (Zao v13)
 have ok9:=hid (fun a (ha:A9=some a)=>(show a.block≠g by have:=(hb9.out a ha).1;have:=hgB.out;omega))
 clear hHeld n9 p9 V13 t2 V2
 go_wp2
 refine wp_region_noPanic ?_
 refine wp_region_held_drew (S:=fun w'=>Chg (fun b=>b=g∨some b=A9.map (·.block)) v13 w') (by kernel_rfl) ?_ (fun hHeld=>?_)
 ·exact Chg.of_bel (Zao v13)
 refine' tkW 0 1 ?_
 refine' tkW 2 3 ?_
 simp only[sQ]
 refine' tkM 5 rfl (fun _ h=>Zak n10.out (fun hb=>h.block _ hb (fun e=>by rcases e with e|e;exact nbg.out e;exact Yk9 (YlY hA1.out q9.out ltn.out) e))) hun hsx.out.out ?_
 simp only[sQ]
 apply shareK (T:=fun (K:World→(Nat)→Prop)=>∀(wq:World) (g6:Nat),Chg (fun b=>b=g∨some b=A9.map (·.block)) v13 wq→TpAt F g B (some ⟨b,o,none⟩) ns r0 wq A9 c9 m2→Src F wq (some ⟨g6,0,none⟩) [x2]→K wq g6)
 intro M0
 ·skip
  refine Ynx 4 6 rfl rfl (fun K hK=>?_) (fun K hK=>?_)
  ·skip
   have hCell:=(Zae (l:=[Value.slice A9 m2.length c9,.int .i64 r0]) p5.box) 0 _ rfl
   go_simp
   refine hK.out _ _ (hHeld) fun hHeld=>?_
   clear hK K
   try simp only[sQ]
   refine rdH 6 rfl fun K hK=>?_
   refine Yla slotNd szN.out (by rfl) (.tmp 33) rfl (ndC x2 V d) rfl hl9.out.out ?_
   intro g6 v6 b6 f6 hB
   have s6:Src F v6 (some ⟨g6,0,none⟩) [x2]:=YmF (Enc.kept R13.out (fun k hk hl=>(hB.block k (Vx4 hl hHeld.size)).trans (hHeld.block k hl (fun e=>by have h1:=hFo.out k hk;rcases e with e|e;exact h1.2 e;exact Yk9 (fun a ha e=>by have h2:=(hb9.out a ha).1;omega) e)))) f6
   have p5:=p5.bel hB
   refine hK.out _ _ (hHeld.trans (Chg.of_bel hB)) fun hHeld=>?_
   clear hK K
   try simp only[sQ]
   exact M0 _ g6 hHeld p5 s6
  ·skip
   refine Yla slotNd szN.out (by rfl) (.tmp 33) rfl (ndC x2 V d) rfl hl9.out.out ?_
   intro g6 v6 b6 f6 hB
   have s6:Src F v6 (some ⟨g6,0,none⟩) [x2]:=YmF (Enc.kept R13.out (fun k hk hl=>(hB.block k (Vx4 hl hHeld.size)).trans (hHeld.block k hl (fun e=>by have h1:=hFo.out k hk;rcases e with e|e;exact h1.2 e;exact Yk9 (fun a ha e=>by have h2:=(hb9.out a ha).1;omega) e)))) f6
   have p5:=p5.bel hB
   refine hK.out _ _ (hHeld.trans (Chg.of_bel hB)) fun hHeld=>?_
   clear hK K
   try simp only[sQ]
   refine rdH 4 rfl fun K hK=>?_
   have hCell:=(Zae (l:=[Value.slice A9 m2.length c9,.int .i64 r0]) p5.box) 0 _ rfl
   go_simp
   refine hK.out _ _ (hHeld) fun hHeld=>?_
   clear hK K
   try simp only[sQ]
   exact M0 _ g6 hHeld p5 s6
 intro wq g6 hHeld p5 s6
 refine rdH 7 rfl fun K hK=>?_
 refine Zxt slotNd rfl (.tmp 32) (.tmp 34) rfl F B A9 _ m2.length 1 c9 1 m2 [x2] rfl rfl rfl rfl p5.own s6 (fun k hk=>by have h1:=hFo.out k hk;have h2:=p5.hB;omega) (by have:=hm.out;simp;omega) p5.hB ?_
 intro A10 c10 v10 o10 hB10 hG10 h10
 have q10:=hid (Ym5 h10 q9.out Y2.out.size (Vx1 Y2.out.size (Vx1 C13.out.size hHeld.size)))
 have r10:=p5.row.chg (Chg.of_grown hG10) (fun k hk _ e=>by have h1:=hFo.out k hk;exact Yk9 (fun a ha e=>by have h2:=(hb9.out a ha).1;omega) e)
 have x10:=(hG10.block _ (block_lt p5.box) (Yk9 (fun a ha e=>ok9.out a ha e.symm))).trans p5.box
 refine hK.out _ _ (YkO hHeld (Chg.of_grown hG10) (fun k _ e=>.inr e)) fun hHeld=>?_
 clear hK K
 try simp only[sQ]
 refine' tkW 8 9 ?_
 simp only[sQ]
 refine rdH 10 rfl fun K hK=>?_
 refine Zez rfl 22 (.tmp 37) (.tmp 35) rfl g 0 (.slice A10 (m2++[x2]).length c10) _ _ rfl rfl rfl rfl x10 (by show 0<2;decide) si3.out ?_
 intro v14 x11 hC14
 refine hK.out _ _ (YkO hHeld hC14 (fun k _ e=>.inl e)) fun hHeld=>?_
 clear hK K
 try simp only[sQ]
 refine dnN ?_
 have x14:=hid (show v14.heap[g]? =some (.cells #[.slice A10 (m2++[x2]).length c10,.int .i64 r0] 24 (0,0)) from x11)
 have c14:=(Zae (l:=[Value.slice A10 (m2++[x2]).length c10,.int .i64 r0]) x14.out) 0 _ rfl
 have hb10:=hid o10.blk
 have o14:=hid (o10.kept (w':=v14) (fun a ha hl=>hC14.block _ hl (fun e=>by have h1:=(hb10.out a ha).1;have h2:=hgB.out;have e':a.block=g:=e;omega)) (fun k hk hl=>hC14.block k hl (fun e=>(hFo.out k hk).2 e)))
 have r14:=hid (r10.chg hC14 (fun k hk _ e=>(hFo.out k hk).2 e))
 have C14:=hid hHeld
 have wl:IntKind.i64.wrap 0=0:=rfl
 clear hHeld x11 hC14 o10 r10 x10 hB10 hG10 h10 b9
 go_wp2
 go_ret
 refine⟨A10,c10,by simp,⟨x14.out,o14.out,r14.out,hgB.out,Vx1 hBw.out (Vx1 Y2.out.size (Vx1 C13.out.size C14.out.size)),hFo.out⟩,YkO (YkO (Chg.of_bel Y2.out) C13.out (fun k hk e=>?_)) C14.out (fun k hk e=>?_),q10.out⟩
 ·rcases e with e|e|e
  ·exact .inl e
  ·exact .inr e
  ·omega
 ·rcases e with e|e
  ·exact .inl e
  ·exact .inr (Ymp q9.out (Vx4 hk Y2.out.size) e)
theorem YnP{x:Nd}(hl:x.leaf=false)(hk:x.k=z0)(hv:x.v=[])(l r:Int):({ x with l:=l,r:=r }:Nd)=forkN l r:=by
 rcases x with ⟨a,b,c,d,e⟩
 dsimp only at hl hk hv
 subst hl hk hv
 rfl
theorem YnQ{x:Nd}(hl:x.l=0)(hr:x.r=0):({ x with l:=0,r:=0 }:Nd)=x:=by
 rcases x with ⟨a,b,c,d,e⟩
 dsimp only at hl hr
 subst hl hr
 rfl
theorem YnI(F:Nat→Prop)(g B:Nat)(An:Option Addr)(cn:Nat)(ns:List Nd)(root r0:Int)(ho:Ones ns)(hc:ns.length≤1000000):∀(e:Nat) (n:Int) (b:Dg) (ms:List Nd) (w:World) (A:Option Addr) (c:Nat),
  Ones ms→e≤256→Zr (256-e) b→0≤n→n≤ns.length→0≤rgt ns e n b→(trN ns e n ms).1.length≤1000000→TpAt F g B An ns r0 w A c ms→
  Calls Tryz.prog 130 #[.pointer (some ⟨g,0,none⟩),.agg #[.slice An ns.length cn,.int .i64 root],.int .i64 n] w (TpQ F g B An ns r0 A (trN ns e n ms).1 (trN ns e n ms).2 w):=by
 have leaf:∀(e:Nat) (n:Int) (ms:List Nd) (w:World) (A:Option Addr) (c:Nat),0≤n→n≤ns.length→n≠0→(ndAt ns n).leaf=true→ms.length≤1000000→TpAt F g B An ns r0 w A c ms→
   Calls Tryz.prog 130 #[.pointer (some ⟨g,0,none⟩),.agg #[.slice An ns.length cn,.int .i64 root],.int .i64 n] w (TpQ F g B An ns r0 A (ms++[ndAt ns n]) ((ms.length:Int)+1) w):=fun e n ms w A c h0 hn hz hl hm h=>by
  obtain⟨j,hj,rfl,hx,hone⟩:=Zc6 ho (by omega) hn
  rw[hx]at hl ⊢
  obtain⟨_,e1,e2⟩:=Zgu hone hl
  have k:=YmI F g B An cn ns root r0 j hj hc A c ms ms ms 0 0 w h hm ⟨by decide,by decide⟩ ⟨by decide,by decide⟩
   (fun W A c h=>by rw[e1];exact YmJ F g B An cn ns root r0 A c ms W h) (fun W A c h=>by rw[e2];exact YmJ F g B An cn ns root r0 A c ms W h)
  rw[YnQ e1 e2]at k
  exact k
 intro e
 induction e with
 |zero=>
  intro n b ms w A c hm he hz h0 hn hr hL h
  by_cases hzn:n=0
  ·subst hzn
   rw[Yl4]
   exact YmJ F g B An cn ns root r0 A c ms w h
  ·cases hl:(ndAt ns n).leaf with
   |true=>
    rw[Yl3 hzn hl]at hL ⊢
    exact leaf 0 n ms w A c h0 hn hzn hl (by simp at hL;omega) h
   |false=>rw[ZcN hzn hl]at hr;omega
 |succ e ih=>
  intro n b ms w A c hm he hz h0 hn hr hL h
  by_cases hzn:n=0
  ·subst hzn
   rw[Yl4]
   exact YmJ F g B An cn ns root r0 A c ms w h
  ·cases hl:(ndAt ns n).leaf with
   |true=>
    rw[Yl3 hzn hl]at hL ⊢
    exact leaf (e+1) n ms w A c h0 hn hzn hl (by simp at hL;omega) h
   |false=>
    obtain⟨f,hf,r1,r2,r3,_⟩:=Za2 hzn hl hr
    obtain rfl:e=f:=by omega
    obtain⟨k1,k2,_⟩:=ZgT ho (by omega) hn hl
    have z0':Zr (255-e) b:=by rw[show 255-e=256-(e+1) by omega];exact hz
    have z1:Zr (256-e) b:=by rw[show 256-e=255-e+1 by omega];exact Zeb z0'
    have z2:Zr (256-e) (turnD b (255-e)):=by rw[show 256-e=255-e+1 by omega];exact Zec z0' (by omega)
    obtain⟨a1,⟨x1,a2⟩,a3,a4,a5,a6,a7⟩:=Ynw ho e (ndAt ns n).l b ms hm (by omega) z1 k1.1 (by omega) r1
    obtain⟨c1,⟨x2,c2⟩,c3,c4,c5,c6,c7⟩:=Ynw ho e (ndAt ns n).r (turnD b (255-e)) (trN ns e (ndAt ns n).l ms).1 a1 (by omega) z2 k2.1 (by omega) r2
    rw[YmW hzn hl]at hL ⊢
    dsimp only at hL ⊢
    simp only[Vx3,List.length_singleton]at hL
    have hle:(trN ns e (ndAt ns n).l ms).1.length≤(trN ns e (ndAt ns n).r (trN ns e (ndAt ns n).l ms).1).1.length:=by
     rw[c7];omega
    have iL:=fun W A c h=>ih (ndAt ns n).l b ms W A c hm (by omega) z1 k1.1 (by omega) r1 (by omega) h
    have iR:=fun W A c h=>ih (ndAt ns n).r (turnD b (255-e)) (trN ns e (ndAt ns n).l ms).1 W A c a1 (by omega) z2 k2.1 (by omega) r2 (by omega) h
    generalize trN ns e (ndAt ns n).l ms=p at *
    generalize trN ns e (ndAt ns n).r p.1=q at *
    obtain⟨j,hj,rfl,hx,hone⟩:=Zc6 ho (by omega) hn
    rw[hx]at hl iL iR
    obtain⟨_,_,_,_,_,e1,e2⟩:=Ze0 hone hl
    have k:=YmI F g B An cn ns root r0 j hj hc A c ms p.1 q.1 p.2 q.2 w h (by omega) ⟨by omega,by omega⟩ ⟨by omega,by omega⟩ iL iR
    rw[YnP hl e1 e2]at k
    exact k
theorem YnN(w:World)(l:List Value)(t:TypeId):
  let W:=((w.alloc (.cells l.toArray t)).alloc (.cells zTrC t)).alloc (.cells zTrC t)
  W.rangeAt w.heap.size 0 l∧W.heap[w.heap.size+1]? =some (.cells zTrC t (0,0))∧W.heap[w.heap.size+1+1]? =some (.cells zTrC t (0,0))∧Below w.heap.size w W∧W.heap.size=w.heap.size+3:=by
 intro W
 have h1:=Zae (l:=l) (Vx0 w (.cells l.toArray t))
 have h2:=Vx0 (w.alloc (.cells l.toArray t)) (.cells zTrC t)
 have h3:=Vx0 ((w.alloc (.cells l.toArray t)).alloc (.cells zTrC t)) (.cells zTrC t)
 simp only[Vx2]at h2 h3
 exact⟨Zab (Zad _ _) (Zab (Zad _ _) h1),((Zad _ _).block _ (block_lt h2)).trans h2,h3,Zag (Zag (Zad _ _) (Zad _ _)) (Zad _ _),by simp only[W,Vx2]⟩
theorem YnF(A:Option Addr)(c:Nat)(ns:List Nd)(root:Int)(w:World)(hr:Row (fun b=>b<w.heap.size) w A ns)(hc:ns.length≤1000000)(hm:mayT ⟨ns,root⟩=true):
  Calls Tryz.prog 87 #[.agg #[.slice A ns.length c,.int .i64 root]] w fun e w'=>∃A' c',e=.returned (.agg #[.slice A' (prunedT ⟨ns,root⟩).ns.length c',.int .i64 (prunedT ⟨ns,root⟩).root])∧Row (fun b=>b<w'.heap.size) w' A' (prunedT ⟨ns,root⟩).ns∧(prunedT ⟨ns,root⟩).ns.length≤c'∧Below w.heap.size w w':=by
 have hut:=Tryz.underlying24
 have hp:=(YmC hm).2.2
 dsimp only at hp
 obtain⟨-,m1,m2,ho,m3⟩:=ZaX.1 hm
 dsimp only at m1 m2 ho m3
 obtain⟨Y0,Z0,G0,W0,s0⟩:=YnN w [.slice A ns.length c,.int .i64 root] 24
 have hiT:=hid (show (Tryz.prog.info? 24).map (·.size)=some ([Value.slice A ns.length c,.int .i64 root]).length from Zah)
 have p0:TpAt (fun b=>b<w.heap.size) (w.heap.size+1+1) (w.heap.size+3) A ns 0 (((w.alloc (.cells [.slice A ns.length c,.int .i64 root].toArray 24)).alloc (.cells zTrC 24)).alloc (.cells zTrC 24)) none 0 []:=
  ⟨G0,RowO.nil _ _ _,hr.bel W0,by omega,by omega,fun b hb=>⟨by omega,by omega⟩⟩
 have hTp:=hid (fun W h=>YnI (fun b=>b<w.heap.size) (w.heap.size+1+1) (w.heap.size+3) A c ns root 0 ho hc 256 root z0 [] W none 0 (fun i hi=>absurd hi (by simp)) (by omega) Zfk m1 m2 m3 (show (prunedT ⟨ns,root⟩).ns.length≤1000000 by omega) h)
 replace hTp:Hid (∀ W,TpAt (fun b=>b<w.heap.size) (w.heap.size+1+1) (w.heap.size+3) A ns 0 W none 0 []→Calls Tryz.prog 130 #[.pointer (some ⟨w.heap.size+1+1,0,none⟩),.agg #[.slice A ns.length c,.int .i64 root],.int .i64 root] W (TpQ (fun b=>b<w.heap.size) (w.heap.size+1+1) (w.heap.size+3) A ns 0 none (prunedT ⟨ns,root⟩).ns (prunedT ⟨ns,root⟩).root W)):=hTp
 generalize prunedT ⟨ns,root⟩=t' at *
 have c1:=Y0 1 _ rfl
 replace Y0:=hid Y0
 replace Z0:=hid Z0
 replace W0:=hid W0
 replace p0:=hid p0
 replace s0:=hid s0
 clear G0 hr hm m1 m2 m3 ho hp
 go_enter Tryz.func87,Tryz.ntmps87
 go_wp2_with (first
  |(with_reducible refine Zac rfl 24 rfl zTrC Zas ?_)
  |(with_reducible refine lDr Y0.out hiT.out hut ?_)
  |fail)
 refine(hTp.out _ p0.out).mono ?_
 rintro e w1 ⟨A1,c2,rfl,p1,hC,_⟩
 have lt0:=hid (block_lt Z0.out)
 have s0':=s0.out
 have Z1:=hid ((hC.block _ lt0.out (fun e=>by rcases e with e|e;omega;cases e)).trans Z0.out)
 have x1:=p1.box
 have W1:=hid (W0.out.trans (hC.below W0.out.size (fun b hb e=>by rcases e with e|e;omega;cases e)))
 have hb1:=hid p1.own.blk
 have hcp:=hid p1.own.cap.1
 have o1:=hid p1.own
 have r1:=hid p1.row
 have si:=hid (show (Tryz.prog.info? 3).map (·.size)=some 1 by kernel_rfl)
 have lz:=hid (show 1<(#[Value.slice A1 t'.ns.length c2,.int .i64 0]:Array Value).size by show 1<2;decide)
 have l2:=hid lt0
 clear p0 p1 hTp c1 Y0 hC Z0 W0
 go_wp2_with (first
  |((refine Za8 rfl 3 (.tmp 8) (.tmp 7) rfl (w.heap.size+1+1) 1 (.int .i64 t'.root) _ _ rfl rfl rfl rfl x1 lz.out si.out ?_);intro w2 hgS hCS;have Z2:=hid ((hCS.block _ (block_lt Z1.out) (by omega)).trans Z1.out);have G2:=hid (Zae (l:=[.slice A1 t'.ns.length c2,.int .i64 t'.root]) hgS);have C2:=hid hCS;have W2:=hid (W1.out.trans (hCS.below W1.out.size (fun b hb e=>by have e':b=w.heap.size+1+1:=e;omega)));clear hgS hCS Z1 W1 x1)
  |(with_reducible refine lDr G2.out hiT.out hut ?_)
  |((with_reducible refine stW 2 9 (w.heap.size+1) 24 zTrC ?_ ?_ ?_ ?_ ?_);exact Z2.out;exact Zah;rfl;exact Zat _ _ _ _;intro w3 hg3 hb3 hs3))
 have ob:=hb1.out
 have o3:=(o1.out.kept (w':=w2) (fun a ha hl=>C2.out.block _ hl (fun e=>by have:=(ob a ha).1;have e':a.block=w.heap.size+1+1:=e;omega)) (fun b hb hl=>C2.out.block b hl (fun e=>by have e':b=w.heap.size+1+1:=e;have hb':b<w.heap.size:=hb;omega))).kept (w':=w3) (fun a ha hl=>hb3.block _ hl (fun e=>by injection e with e;have:=(ob a ha).1;omega)) (fun b hb hl=>hb3.block b hl (fun e=>by injection e with e;have hb':b<w.heap.size:=hb;omega))
 have q3:=o3.blk
 have R3:Row (fun b=>b<w3.heap.size) w3 A1 t'.ns:=o3.row.mono (fun b hb hl=>hl)
 exact Vy0 (results_cell_row Tryz.results87 _ _ (w.heap.size+1) 24 _ (0,0) _ rfl hg3 hut rfl Zah) rfl ⟨A1,c2,rfl,R3,hcp.out,W2.out.grown hb3 W2.out.size (fun g e=>by injection e with e;omega)⟩
theorem YnH(F G:Nat→Prop)(A B:Option Addr)(c d:Nat)(ns ms:List Nd)(root r2:Int)(w:World)(hr:Row F w A ns)(hs:Row G w B ms)(hc:ns.length≤1000000)(hd:ms.length≤1000000):
  Calls Tryz.prog 98 #[.agg #[.slice A ns.length c,.int .i64 root],.agg #[.slice B ms.length d,.int .i64 r2]] w fun e w'=>e=.returned (.bool (decide (pairsM ⟨ns,root⟩=pairsM ⟨ms,r2⟩)))∧Below w.heap.size w w':=by
 have hut:=Tryz.underlying24
 have W0:Below w.heap.size w ((w.alloc (.cells #[.slice A ns.length c,.int .i64 root] 24)).alloc (.cells #[.slice B ms.length d,.int .i64 r2] 24)):=Zag (Zad _ _) (Zad _ _)
 have T0:=hid ((BoxT.new w A ns.length c root 24).bel (Zad _ (.cells #[.slice B ms.length d,.int .i64 r2] 24))).all
 have U0:=BoxT.new (w.alloc (.cells #[.slice A ns.length c,.int .i64 root] 24)) B ms.length d r2 24
 rw[Vx2]at U0
 replace U0:=hid U0.all
 have R0:=hid (hr.bel W0)
 have S0:=hid (hs.bel W0)
 have hiT:=hid (show (Tryz.prog.info? 24).map (·.size)=some ([Value.slice A ns.length c,.int .i64 root]).length from Zah)
 have hiU:=hid (show (Tryz.prog.info? 24).map (·.size)=some ([Value.slice B ms.length d,.int .i64 r2]).length from Zah)
 have hA:=hid (fun W h=>ZbN F A c ns root W h hc)
 have hB:=hid (fun W h=>ZbN G B d ms r2 W h hd)
 generalize pairsM ⟨ns,root⟩=ps at *
 generalize pairsM ⟨ms,r2⟩=qs at *
 generalize (if mayT ⟨ns,root⟩=true then (0:Int) else 8)=e1 at *
 generalize (if mayT ⟨ms,r2⟩=true then (0:Int) else 8)=e2 at *
 replace W0:=hid W0
 clear hr hs
 go_enter Tryz.func98,Tryz.ntmps98
 go_wp2_with (first
  |(with_reducible refine lDr T0.out hiT.out hut ?_)
  |fail)
 try simp only[Vx2]
 generalize (w.alloc (.cells #[.slice A ns.length c,.int .i64 root] 24)).alloc (.cells #[.slice B ms.length d,.int .i64 r2] 24)=w0 at *
 refine(hA.out _ R0.out).mono ?_
 rintro e w1 ⟨A1,c1,rfl,o1,b1⟩
 have S1:=hid (S0.out.bel b1)
 have U1:=hid (Zab b1 U0.out)
 have W1:=hid (W0.out.trans (b1.mono W0.out.size))
 replace o1:=hid o1
 clear R0 S0 T0 U0 W0 b1 hA hiT
 go_wp2_with (first
  |(with_reducible refine lDr U1.out hiU.out hut ?_)
  |fail)
 refine(hB.out _ S1.out).mono ?_
 rintro e w2 ⟨A2,c2,rfl,o2,b2⟩
 have P2:=hid (o1.out.row.bel b2)
 have Q2:=hid o2.row
 have l1:=hid (show ps.length≤9223372036854775807 by have:=o1.out.cap;unfold maxLen at this;omega)
 have l2:=hid (show qs.length≤9223372036854775807 by have:=o2.cap;unfold maxLen at this;omega)
 have W2:=hid (W1.out.trans (b2.mono W1.out.size))
 clear o1 o2 b2 W1 U1 S1 hB hiU
 go_wp2_with fail
 refine(Zn8 _ _ A1 A2 c1 c2 ps.length qs.length ps qs w2 P2.out Q2.out rfl rfl l1.out l2.out).mono ?_
 rintro e w3 ⟨rfl,b3⟩
 go_wp2
 go_ret
 exact⟨rfl,W2.out.trans (b3.mono W2.out.size)⟩
theorem YnC(F G H I:Nat→Prop)(D:Option Addr)(d:Nat)(ds:List Dp)(X:Option Addr)(e:Nat)(xs:List Tx)(D2:Option Addr)(d2:Nat)(ds2:List Dp)(X2:Option Addr)(e2:Nat)(xs2:List Tx)(w:World)
  (h1:Row F w D ds) (h2:Row G w X xs) (h3:Row H w D2 ds2) (h4:Row I w X2 xs2) (l1:ds.length≤9223372036854775807) (l2:xs.length≤9223372036854775807) (l3:ds2.length≤9223372036854775807) (l4:xs2.length≤9223372036854775807):
  Calls Tryz.prog 96 #[.agg #[.slice D ds.length d,.slice X xs.length e],.agg #[.slice D2 ds2.length d2,.slice X2 xs2.length e2]] w fun r w'=>r=.returned (.bool (decide (ds=ds2)&&decide (xs=xs2)))∧Below w.heap.size w w':=by
 have A0:=Zae (l:=[.slice D ds.length d,.slice X xs.length e]) (Vx0 w (.cells [.slice D ds.length d,.slice X xs.length e].toArray 35))
 have A1:=Zab (Zad _ (.cells #[.slice D2 ds2.length d2,.slice X2 xs2.length e2] 35)) A0
 have A2:=Zae (l:=[.slice D2 ds2.length d2,.slice X2 xs2.length e2]) (Vx0 (w.alloc (.cells #[.slice D ds.length d,.slice X xs.length e] 35)) (.cells #[.slice D2 ds2.length d2,.slice X2 xs2.length e2] 35))
 simp only[Vx2]at A2
 have W0:=Zag (Zad w (.cells #[.slice D ds.length d,.slice X xs.length e] 35)) (Zad _ (.cells #[.slice D2 ds2.length d2,.slice X2 xs2.length e2] 35))
 have K1:=hid (h1.bel W0)
 have K2:=hid (h2.bel W0)
 have K3:=hid (h3.bel W0)
 have K4:=hid (h4.bel W0)
 have c1:=A1 0 _ rfl
 have c2:=A1 1 _ rfl
 have c3:=A2 0 _ rfl
 have c4:=A2 1 _ rfl
 have hD:=hid (fun W k1 k2=>YmX F H D D2 d d2 ds ds2 W k1 k2 l1 l3)
 have hX:=hid (fun W k1 k2=>YmZ G I X X2 e e2 xs xs2 W k1 k2 l2 l4)
 generalize decide (ds=ds2)=q1 at *
 generalize decide (xs=xs2)=q2 at *
 replace W0:=hid W0
 clear h1 h2 h3 h4 A0 A1 A2
 go_enter Tryz.func96,Tryz.ntmps96
 go_wp2_with fail
 try simp only[Vx2]at *
 generalize (w.alloc (.cells #[.slice D ds.length d,.slice X xs.length e] 35)).alloc (.cells #[.slice D2 ds2.length d2,.slice X2 xs2.length e2] 35)=w0 at *
 refine(hD.out _ K1.out K3.out).mono ?_
 rintro r w1 ⟨rfl,hB⟩
 have W1:=hid (W0.out.trans (hB.mono W0.out.size))
 have d2:=(hB.cell (Vx5 _ _ c2)).trans c2
 have d4:=(hB.cell (Vx5 _ _ c4)).trans c4
 have M2:=hid (K2.out.bel hB)
 have M4:=hid (K4.out.bel hB)
 clear K1 K2 K3 K4 W0 hB c1 c2 c3 c4
 cases q1 with
 |false=>
  go_wp2
  go_ret
  exact⟨rfl,W1.out⟩
 |true=>
  go_wp2_with fail
  refine(hX.out _ M2.out M4.out).mono ?_
  rintro r w2 ⟨rfl,hB⟩
  go_wp2
  go_ret
  exact⟨by cases q2<;>rfl,W1.out.trans (hB.mono W1.out.size)⟩
theorem YnV{x y:Lk}:decide (x=y)=(decide (x.h=y.h)&&(decide (x.root=y.root)&&((decide (x.ds=y.ds)&&decide (x.xs=y.xs))&&decide (x.rs=y.rs)))):=by
 rcases x with ⟨a,b,c,d,e⟩
 rcases y with ⟨a2,b2,c2,d2,e2⟩
 rw[Bool.eq_iff_iff]
 simp[and_assoc]
theorem YnD(F G:Nat→Prop)(x y:Lk)(s t:LkS)(w:World)(h1:LkOk F w x s)(h2:LkOk G w y t):
  Calls Tryz.prog 48 #[.agg (lkC x s).toArray,.agg (lkC y t).toArray] w fun e w'=>e=.returned (.bool (decide (x=y)))∧Below w.heap.size w w':=by
 have huh:=Tryz.underlying51
 have hub:=Tryz.underlying35
 have A0:=Zae (l:=lkC x s) (Vx0 w (.cells (lkC x s).toArray 77))
 have A1:=Zab (Zad _ (.cells (lkC y t).toArray 77)) A0
 have A2:=Zae (l:=lkC y t) (Vx0 (w.alloc (.cells (lkC x s).toArray 77)) (.cells (lkC y t).toArray 77))
 simp only[Vx2]at A2
 have W0:=hid (Zag (Zad w (.cells (lkC x s).toArray 77)) (Zad _ (.cells (lkC y t).toArray 77)))
 have LA:=hid (LkAt.of A1)
 have LB:=hid (LkAt.of A2)
 have KA:=hid (h1.bel W0.out)
 have KB:=hid (h2.bel W0.out)
 have c1:=LA.out.R
 have c2:=LB.out.R
 have r1:=LA.out.root
 have r2:=LB.out.root
 have b1:=hid (show ((w.alloc (.cells (lkC x s).toArray 77)).alloc (.cells (lkC y t).toArray 77)).rangeAt w.heap.size 99 [.slice s.D x.ds.length s.d,.slice s.X x.xs.length s.e] from LA.out.bd)
 have b2:=hid (show ((w.alloc (.cells (lkC x s).toArray 77)).alloc (.cells (lkC y t).toArray 77)).rangeAt (w.heap.size+1) 99 [.slice t.D y.ds.length t.d,.slice t.X y.xs.length t.e] from LB.out.bd)
 have a1:=hid LA.out.hd
 have a2:=hid LB.out.hd
 have j1:=hid (Zbu x.h)
 have j2:=hid (Zbu y.h)
 have m1:∀{n k:Nat},n≤k∧k≤maxLen→n≤9223372036854775807:=fun h=>by unfold maxLen at h;omega
 have hSb:=hid (fun W k1 k2 k3 k4=>YnC F F G G s.D s.d x.ds s.X s.e x.xs t.D t.d y.ds t.X t.e y.xs W k1 k2 k3 k4 (m1 h1.dc) (m1 h1.xc) (m1 h2.dc) (m1 h2.xc))
 have hSr:=hid (fun W k1 k2=>YmY F G s.R t.R s.r t.r x.rs y.rs W k1 k2 (m1 h1.rc) (m1 h2.rc))
 obtain⟨q1,hq1⟩:∃v,decide (x.h=y.h)=v:=⟨_,rfl⟩
 obtain⟨q4,hq4⟩:∃v,decide (x.root=y.root)=v:=⟨_,rfl⟩
 have hE:∀W,(Op.equalIn 10000 51 (.agg (hdC x.h).toArray) (.agg (hdC y.h).toArray)).run Tryz.prog W=.ok q1 W:=fun W=>ZhR x.h y.h h1.hd h2.hd q1 hq1 W
 have hq5:(x.root==y.root)=q4:=hq4
 rw[YnV,hq1,hq4]
 generalize (decide (x.ds=y.ds)&&decide (x.xs=y.xs))=q2 at *
 generalize decide (x.rs=y.rs)=q3 at *
 replace c1:=hid c1
 replace c2:=hid c2
 clear h1 h2 hq1 hq4 A0 A1 A2 LA LB
 go_enter Tryz.func48,Tryz.ntmps48
 generalize hdC x.h=ch1 at *
 generalize hdC y.h=ch2 at *
 cases q1 with
 |false=>
  go_wp2_with (first
   |(with_reducible refine lDr a1.out j1.out huh ?_)
   |(with_reducible refine lDr a2.out j2.out huh ?_))
  go_ret
  exact⟨rfl,W0.out⟩
 |true=>
  cases q4 with
  |false=>
   go_wp2_with (first
    |(with_reducible refine lDr a1.out j1.out huh ?_)
    |(with_reducible refine lDr a2.out j2.out huh ?_))
   go_ret
   exact⟨rfl,W0.out⟩
  |true=>
   go_wp2_with (first
    |(with_reducible refine lDr a1.out j1.out huh ?_)
    |(with_reducible refine lDr a2.out j2.out huh ?_)
    |(with_reducible refine lDr b1.out (ZfA _ _) hub ?_)
    |(with_reducible refine lDr b2.out (ZfA _ _) hub ?_)
    |fail)
   refine(hSb.out _ KA.out.ds KA.out.xs KB.out.ds KB.out.xs).mono ?_
   rintro e w3 ⟨rfl,hB⟩
   have W3:=hid (W0.out.trans (hB.mono W0.out.size))
   have K3:=hid (KA.out.bel hB)
   have J3:=hid (KB.out.bel hB)
   have d1:=(hB.cell (Vx5 _ _ c1.out)).trans c1.out
   have d2:=(hB.cell (Vx5 _ _ c2.out)).trans c2.out
   simp only[Nat.zero_add]at d1 d2
   clear hB KA KB W0 c1 c2
   cases q2 with
   |false=>
    go_wp2
    go_ret
    exact⟨rfl,W3.out⟩
   |true=>
    go_wp2_with fail
    refine(hSr.out _ K3.out.rs J3.out.rs).mono ?_
    rintro e w4 ⟨rfl,hB⟩
    go_wp2
    go_ret
    exact⟨by cases q3<;>rfl,W3.out.trans (hB.mono W3.out.size)⟩
theorem YnL(w:World)(l m:List Value)(t u:TypeId):
  let W:=(w.alloc (.cells l.toArray t)).alloc (.cells m.toArray u)
  W.rangeAt w.heap.size 0 l∧W.rangeAt (w.heap.size+1) 0 m∧Below w.heap.size w W:=by
 intro W
 have h1:=Zae (Vx0 w (.cells l.toArray t))
 have h2:=Zae (Vx0 (w.alloc (.cells l.toArray t)) (.cells m.toArray u))
 simp only[Vx2]at h2
 exact⟨Zab (Zad _ _) h1,h2,Zag (Zad _ _) (Zad _ _)⟩
theorem YnK{ns:List Nd}{r:Int}(h0:0≤r)(h1:r≤ns.length):(verT ns r).ns.length=r.toNat∧(verT ns r).root=r:=by
 refine⟨?_,rfl⟩
 unfold verT
 simp only[List.length_take]
 omega
theorem YnJ{t:Tr}(h:mayA t=true):pairsM t=allT t:=by
 unfold mayA at h
 simp only[Bool.and_eq_true]at h
 unfold pairsM
 rw[if_pos h.1]
theorem YnE(F G:Nat→Prop)(A:Option Addr)(c:Nat)(ns:List Nd)(root:Int)(b1 o1:Nat)(y:Lk)(s1:LkS)(b2 o2:Nat)(x:Lk)(s2:LkS)(box:Dg)(w:World)(hr:Row F w A ns)(hc:ns.length≤50000)(hcc:ns.length≤c)
  (ly:LkAt w b1 o1 y s1) (ky:LkOk G w y s1) (lx:LkAt w b2 o2 x s2) (kx:LkOk G w x s2) (hds:x.ds.length≤1000) (hxs:x.xs.length≤1000)
  (y0:0≤y.root) (y1:y.root≤ns.length) (y2:mayA (verT ns y.root)=true) (x0:0≤x.root) (x1:x.root≤ns.length) (x2:mayA (verT ns x.root)=true) (hT:Tab w):
  Calls Tryz.prog 50 #[.agg #[.slice A ns.length c,.int .i64 root],.pointer (some ⟨b1,o1,none⟩),.pointer (some ⟨b2,o2,none⟩),.agg (box.1.map bv).toArray] w fun e w'=>e=.returned (.bool (appliedB ns box y x))∧Below w.heap.size w w':=by
 have hut:=Tryz.underlying24
 have huh:=Tryz.underlying51
 have hub:=Tryz.underlying35
 have hu:=Tryz.underlying37
 obtain⟨Y0,D0,W0⟩:=YnL w [.slice A ns.length c,.int .i64 root] (box.1.map bv) 24 37
 have hiT:=hid (show (Tryz.prog.info? 24).map (·.size)=some ([Value.slice A ns.length c,.int .i64 root]).length from Zah)
 have hiD:=hid (Zaz box)
 have hiB:=hid (ZfA (.slice s2.D x.ds.length s2.d) (.slice s2.X x.xs.length s2.e))
 have jy:=hid (Zbu y.h)
 have jx:=hid (Zbu x.h)
 have R0:=hid ((hr.mono (G:=fun b=>b<w.heap.size) fun b _ h=>h).bel W0)
 have LY:=hid (ly.bel W0)
 have LX:=hid (lx.bel W0)
 have KX:=hid (kx.bel W0)
 have T0:=hid (hT.bel W0 hT.low)
 have hlow:=hid hT.low
 have hm:=y2
 unfold mayA at hm
 simp only[Bool.and_eq_true]at hm
 obtain⟨p1,p2,p3⟩:=Ym4 y2
 obtain⟨a1,a2,a3,a4⟩:=YlF (p1.trans y2.symm) p2 y.h x.ds x.xs box
 have hvl:=(YnK y0 y1).1
 have hVy:=hid (fun W hW=>Yll F A c ns root b1 o1 y s1 W (by omega) hW y0 y1 hcc)
 have hVx:=hid (fun W hW=>Yll F A c ns root b2 o2 x s2 W (by omega) hW x0 x1 hcc)
 have hPr:=hid (fun W hW=>YnF A y.root.toNat (verT ns y.root).ns (verT ns y.root).root W hW (by omega) hm.1)
 replace hPr:Hid (∀ W,Row (fun b=>b<W.heap.size) W A (verT ns y.root).ns→Calls Tryz.prog 87 #[.agg #[.slice A (verT ns y.root).ns.length y.root.toNat,.int .i64 (verT ns y.root).root]] W fun e w'=>∃A' c',e=.returned (.agg #[.slice A' (prunedT (verT ns y.root)).ns.length c',.int .i64 (prunedT (verT ns y.root)).root])∧Row (fun b=>b<w'.heap.size) w' A' (prunedT (verT ns y.root)).ns∧(prunedT (verT ns y.root)).ns.length≤c'∧Below W.heap.size W w'):=hPr
 have hpl:(prunedT (verT ns y.root)).ns.length≤50000:=by have:=p3;omega
 have hpx:=YnJ x2
 have hxl:=(YnK x0 x1).1
 obtain⟨z,hz⟩:∃z,applyE (verT ns y.root) y.h x.ds x.xs box=z:=⟨_,rfl⟩
 obtain⟨q3,hq3⟩:∃q,decide (applyL (verT ns y.root) y.h x.ds x.xs box=allT (verT ns x.root))=q:=⟨_,rfl⟩
 have hAp:=hid (fun W A' c' hR hD hX hT=>Zd6 (fun b=>True) (fun b=>True) (fun b=>True) A' c' (prunedT (verT ns y.root)).ns (prunedT (verT ns y.root)).root y.h s2.D s2.d x.ds s2.X s2.e x.xs box W ky.hd hR hpl hD hX hds hxs hT z (applyH (verT ns y.root) y.h x.ds x.xs box) (applyR (verT ns y.root) y.h x.ds x.xs box)
  (fun o=>z=0→mayA o=true∧decide (pairsM o=pairsM ⟨(verT ns x.root).ns,(verT ns x.root).root⟩)=q3) (a1.trans hz) a4 a3 (fun o h e=>by
   unfold ApplyOk at h
   rw[if_pos ((a1.trans hz).trans e)]at h
   refine⟨h.1,?_⟩
   rw[YnJ h.1,h.2.1,←hq3]
   show decide (applyL (prunedT (verT ns y.root)) y.h x.ds x.xs box=pairsM (verT ns x.root))=_
   rw[hpx,a2]))
 have hok:z=0→(applyH (verT ns y.root) y.h x.ds x.xs box).ok:=fun e=>Ymg (Ymt (hz.trans e)).1
 have hSt:Hid (∀ (W:World) (o:Tr) (A':Option Addr) (c':Nat),Row (fun _=>True) W A' o.ns→Row (fun _=>True) W A (verT ns x.root).ns→o.ns.length≤1000000→Calls Tryz.prog 98 #[.agg #[.slice A' o.ns.length c',.int .i64 o.root],.agg #[.slice A (verT ns x.root).ns.length x.root.toNat,.int .i64 (verT ns x.root).root]] W fun e w'=>e=.returned (.bool (decide (pairsM o=pairsM ⟨(verT ns x.root).ns,(verT ns x.root).root⟩)))∧Below W.heap.size W w'):=hid (fun W o A' c' h1 h2 l1=>YnH _ _ A' A c' x.root.toNat o.ns (verT ns x.root).ns o.root (verT ns x.root).root W h1 h2 l1 (by omega))
 have ans:appliedB ns box y x=(decide (z=0)&&(decide (applyH (verT ns y.root) y.h x.ds x.xs box=x.h)&&(decide (applyR (verT ns y.root) y.h x.ds x.xs box=x.rs)&&q3))):=by
  unfold appliedB
  rw[hz,hq3]
 generalize appliedB ns box y x=an at *
 generalize applyH (verT ns y.root) y.h x.ds x.xs box=H at *
 generalize applyR (verT ns y.root) y.h x.ds x.xs box=rs at *
 have rV:Hid (∀ W,Row (fun b=>b<w.heap.size) W A ns→Row (fun b=>b<W.heap.size) W A (verT ns y.root).ns):=hid (fun W h=>(show Row _ W A (verT ns y.root).ns from h.take y.root.toNat).mono (fun _ _ hl=>hl))
 have rX:Hid (∀ W,Row (fun b=>b<w.heap.size) W A ns→Row (fun _=>True) W A (verT ns x.root).ns):=hid (fun W h=>(show Row _ W A (verT ns x.root).ns from h.take x.root.toNat).mono (fun _ _ _=>trivial))
 have hlo:Hid (∀ o:Tr,mayA o=true→o.ns.length≤1000000):=hid (fun o h=>by
  unfold mayA at h
  simp only[Bool.and_eq_true]at h
  exact Vx1 (ZaX.1 h.1).1 (by decide))
 replace ans:=hid ans
 replace hok:=hid hok
 have aH:=hid (Zbg H)
 have zH':=hid (Zbw H)
 have oH:=hid (ZbM H)
 have jH:=hid (Zbu H)
 have xok:=hid kx.hd
 replace W0:=hid W0
 replace Y0:=hid Y0
 replace D0:=hid D0
 generalize prunedT (verT ns y.root)=t' at *
 generalize verT ns y.root=vy at *
 generalize verT ns x.root=vx at *
 clear hr hc hcc ly ky lx kx hds hxs y0 y1 y2 x0 x1 x2 hT hm p1 p2 p3 a1 a2 a3 a4 hvl hpl hpx hxl hz hq3
 go_enter Tryz.func50,Tryz.ntmps50
 go_wp2
 generalize (w.alloc (.cells #[.slice A ns.length c,.int .i64 root] 24)).alloc (.cells (box.1.map bv).toArray 37)=w1 at *
 have y1h:=hid LY.out.hd
 have x1b:=hid LX.out.bd
 refine rgB fun hHeld=>?_
 refine' tkM 0 rfl (fun _ h=>Zab h Y0.out) hut hiT.out ?_
 refine' tkW 1 4 ?_
 refine' tkP 5 rfl ?_
 simp only[sQ]
 refine' tkP 6 rfl ?_
 refine' tkM 7 rfl (fun _ h=>Zab h y1h.out) huh jy.out ?_
 refine' tkW 8 9 ?_
 simp only[sQ]
 refine' tkP 10 rfl ?_
 refine' tkM 11 rfl (fun _ h=>Zab h x1b.out) hub hiB.out ?_
 refine' tkM 12 rfl (fun _ h=>Zab h D0.out) hu hiD.out ?_
 simp only[sQ]
 apply shareK (T:=fun (K:World→(Option Addr)→(Nat)→(Tr)→(Option Addr)→(Nat)→(Option Addr)→(Nat)→(Nat)→(Nat)→(Nat)→(Nat)→Prop)=>∀(wq:World) (Ap3:Option Addr) (cp3:Nat) (o9:Tr) (Ap:Option Addr) (cp:Nat) (Rp:Option Addr) (rp:Nat) (Mm:Nat) (Tt:Nat) (g5:Nat) (g6:Nat),Below w1.heap.size w1 wq→w1.heap.size≤g5→w1.heap.size≤g6→Hid (g5≠g6)→wq.heap[g5]? =some (.cells zTrC 24 (0,0))→wq.heap[g6]? =some (.cells zHdC 51 (0,0))→OwnM 106 wq Mm Tt Ap cp o9.ns→OwnM 148 wq Mm Tt Rp rp rs→Hid (z=0→mayA o9=true∧decide (pairsM o9=pairsM ⟨vx.ns,vx.root⟩)=q3)→w1.heap.size≤Mm→Tt≤wq.heap.size→Hid (g5<Mm∨Tt≤g5)→Hid (g6<Mm∨Tt≤g6)→K wq Ap3 cp3 o9 Ap cp Rp rp Mm Tt g5 g6)
 intro M9
 apply shareK (T:=fun (K:World→(Option Addr)→(Nat)→(Tr)→(Option Addr)→(Nat)→(Option Addr)→(Nat)→(Nat)→(Nat)→(Nat)→Prop)=>∀(wq:World) (Ap3:Option Addr) (cp3:Nat) (o9:Tr) (Ap:Option Addr) (cp:Nat) (Rp:Option Addr) (rp:Nat) (Mm:Nat) (Tt:Nat) (g6:Nat),Below w1.heap.size w1 wq→w1.heap.size≤g6→wq.heap[g6]? =some (.cells zHdC 51 (0,0))→OwnM 106 wq Mm Tt Ap cp o9.ns→OwnM 148 wq Mm Tt Rp rp rs→Hid (z=0→mayA o9=true∧decide (pairsM o9=pairsM ⟨vx.ns,vx.root⟩)=q3)→w1.heap.size≤Mm→Tt≤wq.heap.size→Hid (g6<Mm∨Tt≤g6)→K wq Ap3 cp3 o9 Ap cp Rp rp Mm Tt g6)
 intro M8
 apply shareK (T:=fun (K:World→(Option Addr)→(Nat)→(Tr)→(Option Addr)→(Nat)→(Option Addr)→(Nat)→(Nat)→(Nat)→(Nat)→Prop)=>∀(wq:World) (Ap3:Option Addr) (cp3:Nat) (o9:Tr) (Ap:Option Addr) (cp:Nat) (Rp:Option Addr) (rp:Nat) (Mm:Nat) (Tt:Nat) (g5:Nat),Below w1.heap.size w1 wq→w1.heap.size≤g5→wq.heap[g5]? =some (.cells zTrC 24 (0,0))→OwnM 106 wq Mm Tt Ap cp o9.ns→OwnM 148 wq Mm Tt Rp rp rs→Hid (z=0→mayA o9=true∧decide (pairsM o9=pairsM ⟨vx.ns,vx.root⟩)=q3)→w1.heap.size≤Mm→Tt≤wq.heap.size→Hid (g5<Mm∨Tt≤g5)→K wq Ap3 cp3 o9 Ap cp Rp rp Mm Tt g5)
 intro M7
 apply shareK (T:=fun (K:World→(Option Addr)→(Nat)→(Nat)→(Nat)→Prop)=>∀(wq:World) (Ap3:Option Addr) (cp3:Nat) (g5:Nat) (g6:Nat),Below w1.heap.size w1 wq→w1.heap.size≤g5→w1.heap.size≤g6→Hid (g5≠g6)→wq.heap[g5]? =some (.cells zTrC 24 (0,0))→wq.heap[g6]? =some (.cells zHdC 51 (0,0))→Row (fun _=>True) wq Ap3 t'.ns→K wq Ap3 cp3 g5 g6)
 intro M6
 apply shareK (T:=fun (K:World→(Nat)→(Nat)→Prop)=>∀(wq:World) (g5:Nat) (g6:Nat),Below w1.heap.size w1 wq→w1.heap.size≤g5→w1.heap.size≤g6→Hid (g5≠g6)→wq.heap[g5]? =some (.cells zTrC 24 (0,0))→wq.heap[g6]? =some (.cells zHdC 51 (0,0))→K wq g5 g6)
 intro M5
 apply shareK (T:=fun (K:World→(Option Addr)→(Nat)→(Nat)→Prop)=>∀(wq:World) (Ap3:Option Addr) (cp3:Nat) (g6:Nat),Below w1.heap.size w1 wq→w1.heap.size≤g6→wq.heap[g6]? =some (.cells zHdC 51 (0,0))→Row (fun _=>True) wq Ap3 t'.ns→K wq Ap3 cp3 g6)
 intro M4
 apply shareK (T:=fun (K:World→(Option Addr)→(Nat)→(Nat)→Prop)=>∀(wq:World) (Ap3:Option Addr) (cp3:Nat) (g5:Nat),Below w1.heap.size w1 wq→w1.heap.size≤g5→wq.heap[g5]? =some (.cells zTrC 24 (0,0))→Row (fun _=>True) wq Ap3 t'.ns→K wq Ap3 cp3 g5)
 intro M3
 apply shareK (T:=fun (K:World→(Nat)→(Nat)→Prop)=>∀(wq:World) (g5:Nat) (g6:Nat),Below w1.heap.size w1 wq→w1.heap.size≤g5→w1.heap.size≤g6→Hid (g5≠g6)→wq.heap[g5]? =some (.cells zTrC 24 (0,0))→wq.heap[g6]? =some (.cells zHdC 51 (0,0))→K wq g5 g6)
 intro M2
 apply shareK (T:=fun (K:World→(Nat)→Prop)=>∀(wq:World) (g6:Nat),Below w1.heap.size w1 wq→w1.heap.size≤g6→wq.heap[g6]? =some (.cells zHdC 51 (0,0))→K wq g6)
 intro M1
 apply shareK (T:=fun (K:World→(Nat)→Prop)=>∀(wq:World) (g5:Nat),Below w1.heap.size w1 wq→w1.heap.size≤g5→wq.heap[g5]? =some (.cells zTrC 24 (0,0))→K wq g5)
 intro M0
 ·skip
  refine Yny 2 19 20 rfl rfl rfl (fun K hK=>?_) (fun K hK=>?_) (fun K hK=>?_)
  ·skip
   refine clB hK (hVy.out _ (LY.out.bel hHeld)) fun v2 hB hHeld=>?_
   try have e5:=(hB.block _ (block_lt e5)).trans e5
   try have e6:=(hB.block _ (block_lt e6)).trans e6
   clear hK K
   try simp only[sQ]
   refine Yny 3 19 20 rfl rfl rfl (fun K hK=>?_) (fun K hK=>?_) (fun K hK=>?_)
   ·skip
    go_simp
    refine(hPr.out _ (rV.out _ (R0.out.bel hHeld))).mono ?_
    rintro r v3 ⟨Ap3,cp3,rfl,p3,_,hB⟩
    replace p3:=p3.mono (G:=fun _=>True) (fun _ _ _=>trivial)
    try have e5:=(hB.block _ (block_lt e5)).trans e5
    try have e6:=(hB.block _ (block_lt e6)).trans e6
    go_wp2_with fail
    refine kB hK hHeld hB fun hHeld=>?_
    clear hK K
    try simp only[sQ]
    refine Yny 13 19 20 rfl rfl rfl (fun K hK=>?_) (fun K hK=>?_) (fun K hK=>?_)
    ·skip
     go_simp
     refine(hAp.out _ Ap3 cp3 p3 ((KX.out.bel hHeld).ds.mono (fun _ _ _=>trivial)) ((KX.out.bel hHeld).xs.mono (fun _ _ _=>trivial)) (T0.out.bel hHeld (Vx4 hlow.out W0.out.size))).mono ?_
     rintro r v9 ⟨o9,Ap,cp,Rp,rp,rfl,a9,r9,hB,k9⟩
     obtain⟨Mm,Tt,a9,r9,b9,t9,q9⟩:=Ymz a9 r9 hHeld.size
     replace k9:=hid k9
     try have z5:=hid (q9 _ (block_lt e5))
     try have z6:=hid (q9 _ (block_lt e6))
     try have e5:=(hB.block _ (block_lt e5)).trans e5
     try have e6:=(hB.block _ (block_lt e6)).trans e6
     go_wp2_with fail
     refine kB hK hHeld hB fun hHeld=>?_
     clear hK K
     try simp only[sQ]
     refine' tkW 14 15 ?_
     refine' tkW 16 17 ?_
     simp only[sQ]
     refine' tkP 18 rfl ?_
     simp only[sQ]
     refine Ynx 19 20 rfl rfl (fun K hK=>?_) (fun K hK=>?_)
     ·skip
      refine Zar rfl 24 rfl zTrC Zas ?_
      intro g5 v5 j5 e5 hB
      have m5:=Vx1 hHeld.size j5
      try have n56:=hid (show g5≠g6 from by have:=block_lt e6;omega)
      try have n56:=hid (show g5≠g6 from by have:=block_lt d6;omega)
      try have z5:=hid (Or.inr (Vx1 t9 j5):g5<Mm∨Tt≤g5)
      try have t9:=Vx1 t9 hB.size
      try have a9:=a9.bel hB
      try have r9:=r9.bel hB
      try have p3:=p3.bel hB
      try have e6:=(hB.block _ (block_lt e6)).trans e6
      refine kB hK hHeld hB fun hHeld=>?_
      clear hK K
      try simp only[sQ]
      exact M7 _ Ap3 cp3 o9 Ap cp Rp rp Mm Tt g5 hHeld m5 e5 a9 r9 k9 b9 t9 z5
     ·skip
      refine Zar rfl 51 rfl zHdC Za9 ?_
      intro g6 v6 j6 e6 hB
      have m6:=Vx1 hHeld.size j6
      try have n56:=hid (show g5≠g6 from by have:=block_lt e5;omega)
      try have n56:=hid (show g5≠g6 from by have:=block_lt d5;omega)
      try have z6:=hid (Or.inr (Vx1 t9 j6):g6<Mm∨Tt≤g6)
      try have t9:=Vx1 t9 hB.size
      try have a9:=a9.bel hB
      try have r9:=r9.bel hB
      try have p3:=p3.bel hB
      try have e5:=(hB.block _ (block_lt e5)).trans e5
      try have d5:=(hB.block _ (block_lt d5)).trans d5
      refine kB hK hHeld hB fun hHeld=>?_
      clear hK K
      try simp only[sQ]
      exact M8 _ Ap3 cp3 o9 Ap cp Rp rp Mm Tt g6 hHeld m6 e6 a9 r9 k9 b9 t9 z6
    ·skip
     refine Zar rfl 24 rfl zTrC Zas ?_
     intro g5 v5 j5 e5 hB
     have m5:=Vx1 hHeld.size j5
     try have n56:=hid (show g5≠g6 from by have:=block_lt e6;omega)
     try have n56:=hid (show g5≠g6 from by have:=block_lt d6;omega)
     try have z5:=hid (Or.inr (Vx1 t9 j5):g5<Mm∨Tt≤g5)
     try have t9:=Vx1 t9 hB.size
     try have a9:=a9.bel hB
     try have r9:=r9.bel hB
     try have p3:=p3.bel hB
     try have e6:=(hB.block _ (block_lt e6)).trans e6
     refine kB hK hHeld hB fun hHeld=>?_
     clear hK K
     try simp only[sQ]
     exact M3 _ Ap3 cp3 g5 hHeld m5 e5 p3
    ·skip
     refine Zar rfl 51 rfl zHdC Za9 ?_
     intro g6 v6 j6 e6 hB
     have m6:=Vx1 hHeld.size j6
     try have n56:=hid (show g5≠g6 from by have:=block_lt e5;omega)
     try have n56:=hid (show g5≠g6 from by have:=block_lt d5;omega)
     try have z6:=hid (Or.inr (Vx1 t9 j6):g6<Mm∨Tt≤g6)
     try have t9:=Vx1 t9 hB.size
     try have a9:=a9.bel hB
     try have r9:=r9.bel hB
     try have p3:=p3.bel hB
     try have e5:=(hB.block _ (block_lt e5)).trans e5
     try have d5:=(hB.block _ (block_lt d5)).trans d5
     refine kB hK hHeld hB fun hHeld=>?_
     clear hK K
     try simp only[sQ]
     exact M4 _ Ap3 cp3 g6 hHeld m6 e6 p3
   ·skip
    refine Zar rfl 24 rfl zTrC Zas ?_
    intro g5 v5 j5 e5 hB
    have m5:=Vx1 hHeld.size j5
    try have n56:=hid (show g5≠g6 from by have:=block_lt e6;omega)
    try have n56:=hid (show g5≠g6 from by have:=block_lt d6;omega)
    try have z5:=hid (Or.inr (Vx1 t9 j5):g5<Mm∨Tt≤g5)
    try have t9:=Vx1 t9 hB.size
    try have a9:=a9.bel hB
    try have r9:=r9.bel hB
    try have p3:=p3.bel hB
    try have e6:=(hB.block _ (block_lt e6)).trans e6
    refine kB hK hHeld hB fun hHeld=>?_
    clear hK K
    try simp only[sQ]
    exact M0 _ g5 hHeld m5 e5
   ·skip
    refine Zar rfl 51 rfl zHdC Za9 ?_
    intro g6 v6 j6 e6 hB
    have m6:=Vx1 hHeld.size j6
    try have n56:=hid (show g5≠g6 from by have:=block_lt e5;omega)
    try have n56:=hid (show g5≠g6 from by have:=block_lt d5;omega)
    try have z6:=hid (Or.inr (Vx1 t9 j6):g6<Mm∨Tt≤g6)
    try have t9:=Vx1 t9 hB.size
    try have a9:=a9.bel hB
    try have r9:=r9.bel hB
    try have p3:=p3.bel hB
    try have e5:=(hB.block _ (block_lt e5)).trans e5
    try have d5:=(hB.block _ (block_lt d5)).trans d5
    refine kB hK hHeld hB fun hHeld=>?_
    clear hK K
    try simp only[sQ]
    exact M1 _ g6 hHeld m6 e6
  ·skip
   refine Zar rfl 24 rfl zTrC Zas ?_
   intro g5 v5 j5 e5 hB
   have m5:=Vx1 hHeld.size j5
   try have n56:=hid (show g5≠g6 from by have:=block_lt e6;omega)
   try have n56:=hid (show g5≠g6 from by have:=block_lt d6;omega)
   try have z5:=hid (Or.inr (Vx1 t9 j5):g5<Mm∨Tt≤g5)
   try have t9:=Vx1 t9 hB.size
   try have a9:=a9.bel hB
   try have r9:=r9.bel hB
   try have p3:=p3.bel hB
   try have e6:=(hB.block _ (block_lt e6)).trans e6
   refine kB hK hHeld hB fun hHeld=>?_
   clear hK K
   try simp only[sQ]
   refine Ynx 2 20 rfl rfl (fun K hK=>?_) (fun K hK=>?_)
   ·skip
    refine clB hK (hVy.out _ (LY.out.bel hHeld)) fun v2 hB hHeld=>?_
    try have e5:=(hB.block _ (block_lt e5)).trans e5
    try have e6:=(hB.block _ (block_lt e6)).trans e6
    clear hK K
    try simp only[sQ]
    exact M0 _ g5 hHeld m5 e5
   ·skip
    refine Zar rfl 51 rfl zHdC Za9 ?_
    intro g6 v6 j6 e6 hB
    have m6:=Vx1 hHeld.size j6
    try have n56:=hid (show g5≠g6 from by have:=block_lt e5;omega)
    try have n56:=hid (show g5≠g6 from by have:=block_lt d5;omega)
    try have z6:=hid (Or.inr (Vx1 t9 j6):g6<Mm∨Tt≤g6)
    try have t9:=Vx1 t9 hB.size
    try have a9:=a9.bel hB
    try have r9:=r9.bel hB
    try have p3:=p3.bel hB
    try have e5:=(hB.block _ (block_lt e5)).trans e5
    try have d5:=(hB.block _ (block_lt d5)).trans d5
    refine kB hK hHeld hB fun hHeld=>?_
    clear hK K
    try simp only[sQ]
    exact M2 _ g5 g6 hHeld m5 m6 n56 e5 e6
  ·skip
   refine Zar rfl 51 rfl zHdC Za9 ?_
   intro g6 v6 j6 e6 hB
   have m6:=Vx1 hHeld.size j6
   try have n56:=hid (show g5≠g6 from by have:=block_lt e5;omega)
   try have n56:=hid (show g5≠g6 from by have:=block_lt d5;omega)
   try have z6:=hid (Or.inr (Vx1 t9 j6):g6<Mm∨Tt≤g6)
   try have t9:=Vx1 t9 hB.size
   try have a9:=a9.bel hB
   try have r9:=r9.bel hB
   try have p3:=p3.bel hB
   try have e5:=(hB.block _ (block_lt e5)).trans e5
   try have d5:=(hB.block _ (block_lt d5)).trans d5
   refine kB hK hHeld hB fun hHeld=>?_
   clear hK K
   try simp only[sQ]
   refine Ynx 2 19 rfl rfl (fun K hK=>?_) (fun K hK=>?_)
   ·skip
    refine clB hK (hVy.out _ (LY.out.bel hHeld)) fun v2 hB hHeld=>?_
    try have e5:=(hB.block _ (block_lt e5)).trans e5
    try have e6:=(hB.block _ (block_lt e6)).trans e6
    clear hK K
    try simp only[sQ]
    exact M1 _ g6 hHeld m6 e6
   ·skip
    refine Zar rfl 24 rfl zTrC Zas ?_
    intro g5 v5 j5 e5 hB
    have m5:=Vx1 hHeld.size j5
    try have n56:=hid (show g5≠g6 from by have:=block_lt e6;omega)
    try have n56:=hid (show g5≠g6 from by have:=block_lt d6;omega)
    try have z5:=hid (Or.inr (Vx1 t9 j5):g5<Mm∨Tt≤g5)
    try have t9:=Vx1 t9 hB.size
    try have a9:=a9.bel hB
    try have r9:=r9.bel hB
    try have p3:=p3.bel hB
    try have e6:=(hB.block _ (block_lt e6)).trans e6
    refine kB hK hHeld hB fun hHeld=>?_
    clear hK K
    try simp only[sQ]
    exact M2 _ g5 g6 hHeld m5 m6 n56 e5 e6
 ·skip
  intro wq g5 hHeld m5 e5
  refine Ynx 3 20 rfl rfl (fun K hK=>?_) (fun K hK=>?_)
  ·skip
   go_simp
   refine(hPr.out _ (rV.out _ (R0.out.bel hHeld))).mono ?_
   rintro r v3 ⟨Ap3,cp3,rfl,p3,_,hB⟩
   replace p3:=p3.mono (G:=fun _=>True) (fun _ _ _=>trivial)
   try have e5:=(hB.block _ (block_lt e5)).trans e5
   try have e6:=(hB.block _ (block_lt e6)).trans e6
   go_wp2_with fail
   refine kB hK hHeld hB fun hHeld=>?_
   clear hK K
   try simp only[sQ]
   exact M3 _ Ap3 cp3 g5 hHeld m5 e5 p3
  ·skip
   refine Zar rfl 51 rfl zHdC Za9 ?_
   intro g6 v6 j6 e6 hB
   have m6:=Vx1 hHeld.size j6
   try have n56:=hid (show g5≠g6 from by have:=block_lt e5;omega)
   try have n56:=hid (show g5≠g6 from by have:=block_lt d5;omega)
   try have z6:=hid (Or.inr (Vx1 t9 j6):g6<Mm∨Tt≤g6)
   try have t9:=Vx1 t9 hB.size
   try have a9:=a9.bel hB
   try have r9:=r9.bel hB
   try have p3:=p3.bel hB
   try have e5:=(hB.block _ (block_lt e5)).trans e5
   try have d5:=(hB.block _ (block_lt d5)).trans d5
   refine kB hK hHeld hB fun hHeld=>?_
   clear hK K
   try simp only[sQ]
   exact M5 _ g5 g6 hHeld m5 m6 n56 e5 e6
 ·skip
  intro wq g6 hHeld m6 e6
  refine Ynx 3 19 rfl rfl (fun K hK=>?_) (fun K hK=>?_)
  ·skip
   go_simp
   refine(hPr.out _ (rV.out _ (R0.out.bel hHeld))).mono ?_
   rintro r v3 ⟨Ap3,cp3,rfl,p3,_,hB⟩
   replace p3:=p3.mono (G:=fun _=>True) (fun _ _ _=>trivial)
   try have e5:=(hB.block _ (block_lt e5)).trans e5
   try have e6:=(hB.block _ (block_lt e6)).trans e6
   go_wp2_with fail
   refine kB hK hHeld hB fun hHeld=>?_
   clear hK K
   try simp only[sQ]
   exact M4 _ Ap3 cp3 g6 hHeld m6 e6 p3
  ·skip
   refine Zar rfl 24 rfl zTrC Zas ?_
   intro g5 v5 j5 e5 hB
   have m5:=Vx1 hHeld.size j5
   try have n56:=hid (show g5≠g6 from by have:=block_lt e6;omega)
   try have n56:=hid (show g5≠g6 from by have:=block_lt d6;omega)
   try have z5:=hid (Or.inr (Vx1 t9 j5):g5<Mm∨Tt≤g5)
   try have t9:=Vx1 t9 hB.size
   try have a9:=a9.bel hB
   try have r9:=r9.bel hB
   try have p3:=p3.bel hB
   try have e6:=(hB.block _ (block_lt e6)).trans e6
   refine kB hK hHeld hB fun hHeld=>?_
   clear hK K
   try simp only[sQ]
   exact M5 _ g5 g6 hHeld m5 m6 n56 e5 e6
 ·skip
  intro wq g5 g6 hHeld m5 m6 n56 e5 e6
  refine rdC 2 rfl (hVy.out _ (LY.out.bel hHeld)) fun v2 hB hHeld=>?_
  try have e5:=(hB.block _ (block_lt e5)).trans e5
  try have e6:=(hB.block _ (block_lt e6)).trans e6
  try simp only[sQ]
  exact M5 _ g5 g6 hHeld m5 m6 n56 e5 e6
 ·skip
  intro wq Ap3 cp3 g5 hHeld m5 e5 p3
  refine Ynx 13 20 rfl rfl (fun K hK=>?_) (fun K hK=>?_)
  ·skip
   go_simp
   refine(hAp.out _ Ap3 cp3 p3 ((KX.out.bel hHeld).ds.mono (fun _ _ _=>trivial)) ((KX.out.bel hHeld).xs.mono (fun _ _ _=>trivial)) (T0.out.bel hHeld (Vx4 hlow.out W0.out.size))).mono ?_
   rintro r v9 ⟨o9,Ap,cp,Rp,rp,rfl,a9,r9,hB,k9⟩
   obtain⟨Mm,Tt,a9,r9,b9,t9,q9⟩:=Ymz a9 r9 hHeld.size
   replace k9:=hid k9
   try have z5:=hid (q9 _ (block_lt e5))
   try have z6:=hid (q9 _ (block_lt e6))
   try have e5:=(hB.block _ (block_lt e5)).trans e5
   try have e6:=(hB.block _ (block_lt e6)).trans e6
   go_wp2_with fail
   refine kB hK hHeld hB fun hHeld=>?_
   clear hK K
   try simp only[sQ]
   refine' tkW 14 15 ?_
   refine' tkW 16 17 ?_
   simp only[sQ]
   refine' tkP 18 rfl ?_
   simp only[sQ]
   exact M7 _ Ap3 cp3 o9 Ap cp Rp rp Mm Tt g5 hHeld m5 e5 a9 r9 k9 b9 t9 z5
  ·skip
   refine Zar rfl 51 rfl zHdC Za9 ?_
   intro g6 v6 j6 e6 hB
   have m6:=Vx1 hHeld.size j6
   try have n56:=hid (show g5≠g6 from by have:=block_lt e5;omega)
   try have n56:=hid (show g5≠g6 from by have:=block_lt d5;omega)
   try have z6:=hid (Or.inr (Vx1 t9 j6):g6<Mm∨Tt≤g6)
   try have t9:=Vx1 t9 hB.size
   try have a9:=a9.bel hB
   try have r9:=r9.bel hB
   try have p3:=p3.bel hB
   try have e5:=(hB.block _ (block_lt e5)).trans e5
   try have d5:=(hB.block _ (block_lt d5)).trans d5
   refine kB hK hHeld hB fun hHeld=>?_
   clear hK K
   try simp only[sQ]
   exact M6 _ Ap3 cp3 g5 g6 hHeld m5 m6 n56 e5 e6 p3
 ·skip
  intro wq Ap3 cp3 g6 hHeld m6 e6 p3
  refine Ynx 13 19 rfl rfl (fun K hK=>?_) (fun K hK=>?_)
  ·skip
   go_simp
   refine(hAp.out _ Ap3 cp3 p3 ((KX.out.bel hHeld).ds.mono (fun _ _ _=>trivial)) ((KX.out.bel hHeld).xs.mono (fun _ _ _=>trivial)) (T0.out.bel hHeld (Vx4 hlow.out W0.out.size))).mono ?_
   rintro r v9 ⟨o9,Ap,cp,Rp,rp,rfl,a9,r9,hB,k9⟩
   obtain⟨Mm,Tt,a9,r9,b9,t9,q9⟩:=Ymz a9 r9 hHeld.size
   replace k9:=hid k9
   try have z5:=hid (q9 _ (block_lt e5))
   try have z6:=hid (q9 _ (block_lt e6))
   try have e5:=(hB.block _ (block_lt e5)).trans e5
   try have e6:=(hB.block _ (block_lt e6)).trans e6
   go_wp2_with fail
   refine kB hK hHeld hB fun hHeld=>?_
   clear hK K
   try simp only[sQ]
   refine' tkW 14 15 ?_
   refine' tkW 16 17 ?_
   simp only[sQ]
   refine' tkP 18 rfl ?_
   simp only[sQ]
   exact M8 _ Ap3 cp3 o9 Ap cp Rp rp Mm Tt g6 hHeld m6 e6 a9 r9 k9 b9 t9 z6
  ·skip
   refine Zar rfl 24 rfl zTrC Zas ?_
   intro g5 v5 j5 e5 hB
   have m5:=Vx1 hHeld.size j5
   try have n56:=hid (show g5≠g6 from by have:=block_lt e6;omega)
   try have n56:=hid (show g5≠g6 from by have:=block_lt d6;omega)
   try have z5:=hid (Or.inr (Vx1 t9 j5):g5<Mm∨Tt≤g5)
   try have t9:=Vx1 t9 hB.size
   try have a9:=a9.bel hB
   try have r9:=r9.bel hB
   try have p3:=p3.bel hB
   try have e6:=(hB.block _ (block_lt e6)).trans e6
   refine kB hK hHeld hB fun hHeld=>?_
   clear hK K
   try simp only[sQ]
   exact M6 _ Ap3 cp3 g5 g6 hHeld m5 m6 n56 e5 e6 p3
 ·skip
  intro wq g5 g6 hHeld m5 m6 n56 e5 e6
  refine rdH 3 rfl fun K hK=>?_
  go_simp
  refine(hPr.out _ (rV.out _ (R0.out.bel hHeld))).mono ?_
  rintro r v3 ⟨Ap3,cp3,rfl,p3,_,hB⟩
  replace p3:=p3.mono (G:=fun _=>True) (fun _ _ _=>trivial)
  try have e5:=(hB.block _ (block_lt e5)).trans e5
  try have e6:=(hB.block _ (block_lt e6)).trans e6
  go_wp2_with fail
  refine kB hK hHeld hB fun hHeld=>?_
  clear hK K
  try simp only[sQ]
  exact M6 _ Ap3 cp3 g5 g6 hHeld m5 m6 n56 e5 e6 p3
 ·skip
  intro wq Ap3 cp3 g5 g6 hHeld m5 m6 n56 e5 e6 p3
  refine rdH 13 rfl fun K hK=>?_
  go_simp
  refine(hAp.out _ Ap3 cp3 p3 ((KX.out.bel hHeld).ds.mono (fun _ _ _=>trivial)) ((KX.out.bel hHeld).xs.mono (fun _ _ _=>trivial)) (T0.out.bel hHeld (Vx4 hlow.out W0.out.size))).mono ?_
  rintro r v9 ⟨o9,Ap,cp,Rp,rp,rfl,a9,r9,hB,k9⟩
  obtain⟨Mm,Tt,a9,r9,b9,t9,q9⟩:=Ymz a9 r9 hHeld.size
  replace k9:=hid k9
  try have z5:=hid (q9 _ (block_lt e5))
  try have z6:=hid (q9 _ (block_lt e6))
  try have e5:=(hB.block _ (block_lt e5)).trans e5
  try have e6:=(hB.block _ (block_lt e6)).trans e6
  go_wp2_with fail
  refine kB hK hHeld hB fun hHeld=>?_
  clear hK K
  try simp only[sQ]
  refine' tkW 14 15 ?_
  refine' tkW 16 17 ?_
  simp only[sQ]
  refine' tkP 18 rfl ?_
  simp only[sQ]
  exact M9 _ Ap3 cp3 o9 Ap cp Rp rp Mm Tt g5 g6 hHeld m5 m6 n56 e5 e6 a9 r9 k9 b9 t9 z5 z6
 ·skip
  intro wq Ap3 cp3 o9 Ap cp Rp rp Mm Tt g5 hHeld m5 e5 a9 r9 k9 b9 t9 z5
  refine rdH 20 rfl fun K hK=>?_
  refine Zar rfl 51 rfl zHdC Za9 ?_
  intro g6 v6 j6 e6 hB
  have m6:=Vx1 hHeld.size j6
  try have n56:=hid (show g5≠g6 from by have:=block_lt e5;omega)
  try have n56:=hid (show g5≠g6 from by have:=block_lt d5;omega)
  try have z6:=hid (Or.inr (Vx1 t9 j6):g6<Mm∨Tt≤g6)
  try have t9:=Vx1 t9 hB.size
  try have a9:=a9.bel hB
  try have r9:=r9.bel hB
  try have p3:=p3.bel hB
  try have e5:=(hB.block _ (block_lt e5)).trans e5
  try have d5:=(hB.block _ (block_lt d5)).trans d5
  refine kB hK hHeld hB fun hHeld=>?_
  clear hK K
  try simp only[sQ]
  exact M9 _ Ap3 cp3 o9 Ap cp Rp rp Mm Tt g5 g6 hHeld m5 m6 n56 e5 e6 a9 r9 k9 b9 t9 z5 z6
 ·skip
  intro wq Ap3 cp3 o9 Ap cp Rp rp Mm Tt g6 hHeld m6 e6 a9 r9 k9 b9 t9 z6
  refine rdH 19 rfl fun K hK=>?_
  refine Zar rfl 24 rfl zTrC Zas ?_
  intro g5 v5 j5 e5 hB
  have m5:=Vx1 hHeld.size j5
  try have n56:=hid (show g5≠g6 from by have:=block_lt e6;omega)
  try have n56:=hid (show g5≠g6 from by have:=block_lt d6;omega)
  try have z5:=hid (Or.inr (Vx1 t9 j5):g5<Mm∨Tt≤g5)
  try have t9:=Vx1 t9 hB.size
  try have a9:=a9.bel hB
  try have r9:=r9.bel hB
  try have p3:=p3.bel hB
  try have e6:=(hB.block _ (block_lt e6)).trans e6
  refine kB hK hHeld hB fun hHeld=>?_
  clear hK K
  try simp only[sQ]
  exact M9 _ Ap3 cp3 o9 Ap cp Rp rp Mm Tt g5 g6 hHeld m5 m6 n56 e5 e6 a9 r9 k9 b9 t9 z5 z6
 intro wq Ap3 cp3 o9 Ap cp Rp rp Mm Tt g5 g6 hHeld m5 m6 n56 e5 e6 a9 r9 k9 b9 t9 z5 z6
 refine rdH 21 rfl fun K hK=>?_
 refine Zaj rfl 24 (.tmp 9) (.tmp 28) rfl g5 _ rfl rfl 24 zTrC e5 Zah rfl (Zat _ _ _ _) ?_
 intro v7 d5 hG
 have a9:=a9.far z5.out hG
 have r9:=r9.far z5.out hG
 have t9:=Vx1 t9 hG.size
 try have e6:=(hG.block _ (block_lt e6) (by intro q;injection q with q;exact n56.out q.symm)).trans e6
 refine hK.out _ _ (hHeld.grown hG hHeld.size (by intro k hk;injection hk with hk;omega)) fun hHeld=>?_
 clear hK K
 try simp only[sQ]
 refine rdH 22 rfl fun K hK=>?_
 refine Zaj rfl 51 (.tmp 10) (.tmp 29) rfl g6 _ rfl rfl 51 zHdC e6 aH.out zH'.out oH.out ?_
 intro v8 d6 hG
 have a9:=a9.far z6.out hG
 have r9:=r9.far z6.out hG
 have t9:=Vx1 t9 hG.size
 have d5:=(hG.block _ (block_lt d5) (by intro q;injection q with q;exact n56.out q)).trans d5
 refine hK.out _ _ (hHeld.grown hG hHeld.size (by intro k hk;injection hk with hk;omega)) fun hHeld=>?_
 clear hK K
 try simp only[sQ]
 refine' tkW 23 24 ?_
 simp only[sQ]
 refine dnN ?_
 have s81:=hid hHeld.size
 have W8:=hid (W0.out.trans (hHeld.mono W0.out.size))
 have X8:=hid (LX.out.bel hHeld)
 have K8:=hid (KX.out.bel hHeld)
 have R8:=hid (R0.out.bel hHeld)
 have Y8:=hid (Zab hHeld Y0.out)
 have h5:=hid (Zae (l:=[Value.slice Ap o9.ns.length cp,.int .i64 o9.root]) d5)
 have h6:=hid (Zae d6)
 have a8:=hid ((a9.own.row).mono (G:=fun _=>True) (fun _ _ _=>trivial))
 have r8:=hid ((r9.own.row).mono (G:=fun _=>True) (fun _ _ _=>trivial))
 have hr9:=hid (show rs.length≤9223372036854775807 by have:=r9.own.cap;unfold maxLen at this;omega)
 have hx9:=hid (show x.rs.length≤9223372036854775807 by have:=K8.out.rc;unfold maxLen at this;omega)
 have hiO:=hid (show (Tryz.prog.info? 24).map (·.size)=some ([Value.slice Ap o9.ns.length cp,.int .i64 o9.root]).length from Zah)
 have x8h:=hid X8.out.hd
 have x8R:=X8.out.R
 clear a9 r9 d5 d6 hAp hPr hVy rV Y0 D0 R0 LX LY KX T0 z5 z6 m5 m6 n56 t9 b9 W0 y1h x1b
 by_cases hz:z=0
 case neg=>
  have qz:(z==0)=false:=beq_eq_false_iff_ne.2 hz
  have e1:=hid (show an=false by rw[ans.out,Vy1 hz];rfl)
  replace hz:=hid hz
  clear ans hok k9 x8R
  go_wp2
  refine rgB fun hHeld=>?_
  refine' tkW 0 1 ?_
  refine' tkW 2 3 ?_
  simp only[sQ]
  refine' tkW 4 5 ?_
  refine' tkW 6 7 ?_
  simp only[sQ]
  refine' tkW 8 9 ?_
  refine' tkW 10 11 ?_
  simp only[sQ]
  refine' tkW 12 13 ?_
  refine' tkW 14 15 ?_
  simp only[sQ]
  refine' tkW 16 17 ?_
  refine' tkW 18 19 ?_
  simp only[sQ]
  refine' tkW 20 21 ?_
  refine' tkW 22 23 ?_
  simp only[sQ]
  refine' tkW 24 25 ?_
  simp only[sQ]
  refine dnN ?_
  go_wp2
  go_ret
  exact⟨by rw[e1.out];rfl,W8.out.trans (hHeld.mono W8.out.size)⟩
 case pos=>
  have qz:(z==0)=true:=beq_iff_eq.2 hz
  have Hok:=hid (hok.out hz)
  obtain⟨o9a,o9b⟩:=k9.out hz
  have l9:=hid (hlo.out _ o9a)
  obtain⟨q1,hq1⟩:∃q,decide (H=x.h)=q:=⟨_,rfl⟩
  have hE:∀W,(Op.equalIn 10000 51 (.agg (hdC H).toArray) (.agg (hdC x.h).toArray)).run Tryz.prog W=.ok q1 W:=fun W=>ZhR H x.h Hok.out xok.out q1 hq1 W
  have e1:=hid (show an=(q1&&(decide (rs=x.rs)&&q3)) by rw[ans.out,hq1,Vy2 hz];rfl)
  replace hz:=hid hz
  clear ans hok k9 hq1
  generalize hdC H=ch1 at *
  generalize hdC x.h=ch2 at *
  cases q1 with
  |false=>
   replace e1:=hid (show an=false from e1.out)
   clear x8R
   go_wp2
   refine rgB fun hHeld=>?_
   refine' tkW 0 1 ?_
   refine' tkP 2 rfl ?_
   refine' tkM 3 rfl (fun _ h=>Zab h h6.out) huh jH.out ?_
   simp only[sQ]
   refine' tkW 4 5 ?_
   refine' tkP 6 rfl ?_
   refine' tkM 7 rfl (fun _ h=>Zab h x8h.out) huh jx.out ?_
   simp only[sQ]
   refine' tkW 8 9 ?_
   refine' tkW 10 11 ?_
   simp only[sQ]
   refine' tkW 12 13 ?_
   refine' tkW 14 15 ?_
   simp only[sQ]
   refine' tkW 16 17 ?_
   refine' tkW 18 19 ?_
   simp only[sQ]
   refine' tkW 20 21 ?_
   refine' tkW 22 23 ?_
   simp only[sQ]
   refine' tkW 24 25 ?_
   simp only[sQ]
   refine dnN ?_
   go_wp2
   go_ret
   exact⟨by rw[e1.out];rfl,W8.out.trans (hHeld.mono W8.out.size)⟩
  |true=>
   have hSr:=hid (fun W k1 k2=>YmY (fun _=>True) G Rp s2.R rp s2.r rs x.rs W k1 k2 hr9.out hx9.out)
   generalize decide (rs=x.rs)=q2 at *
   cases q2 with
   |false=>
    replace e1:=hid (show an=false from e1.out)
    go_wp2
    refine rgB fun hHeld=>?_
    refine' tkW 0 1 ?_
    refine' tkP 2 rfl ?_
    refine' tkM 3 rfl (fun _ h=>Zab h h6.out) huh jH.out ?_
    simp only[sQ]
    refine' tkW 4 5 ?_
    refine' tkP 6 rfl ?_
    refine' tkM 7 rfl (fun _ h=>Zab h x8h.out) huh jx.out ?_
    simp only[sQ]
    refine' tkW 8 9 ?_
    refine' tkW 10 11 ?_
    simp only[sQ]
    refine' tkW 12 13 ?_
    refine' tkP 14 rfl ?_
    refine' tkC 15 rfl x8R ?_
    simp only[sQ]
    refine rdC 16 rfl (hSr.out _ (r8.out.bel hHeld) (K8.out.bel hHeld).rs) fun v2 hB hHeld=>?_
    try simp only[sQ]
    refine' tkW 17 18 ?_
    refine' tkW 19 20 ?_
    simp only[sQ]
    refine' tkW 21 22 ?_
    refine' tkW 23 24 ?_
    simp only[sQ]
    refine' tkP 25 rfl ?_
    simp only[sQ]
    refine dnN ?_
    go_wp2
    go_ret
    exact⟨by rw[e1.out];rfl,W8.out.trans (hHeld.mono W8.out.size)⟩
   |true=>
    replace e1:=hid (show an=q3 from e1.out)
    go_wp2
    refine rgB fun hHeld=>?_
    refine' tkW 0 1 ?_
    refine' tkP 2 rfl ?_
    refine' tkM 3 rfl (fun _ h=>Zab h h6.out) huh jH.out ?_
    simp only[sQ]
    refine' tkW 4 5 ?_
    refine' tkP 6 rfl ?_
    refine' tkM 7 rfl (fun _ h=>Zab h x8h.out) huh jx.out ?_
    simp only[sQ]
    refine' tkW 8 9 ?_
    refine' tkW 10 11 ?_
    simp only[sQ]
    refine' tkW 12 13 ?_
    refine' tkP 14 rfl ?_
    refine' tkC 15 rfl x8R ?_
    simp only[sQ]
    refine rdC 16 rfl (hSr.out _ (r8.out.bel hHeld) (K8.out.bel hHeld).rs) fun v2 hB hHeld=>?_
    try simp only[sQ]
    refine' tkW 17 18 ?_
    refine' tkM 19 rfl (fun _ h=>Zab h h5.out) hut hiO.out ?_
    refine' tkM 20 rfl (fun _ h=>Zab h Y8.out) hut hiT.out ?_
    simp only[sQ]
    refine' tkP 21 rfl ?_
    simp only[sQ]
    refine rdC 22 rfl (hVx.out _ (X8.out.bel hHeld)) fun v2 hB hHeld=>?_
    try simp only[sQ]
    refine rdC 23 rfl (hSt.out _ o9 Ap cp (a8.out.bel hHeld) (rX.out _ (R8.out.bel hHeld)) l9.out) fun v2 hB hHeld=>?_
    try simp only[sQ]
    refine' tkW 24 25 ?_
    simp only[sQ]
    refine dnN ?_
    go_wp2
    go_ret
    exact⟨by rw[e1.out];rfl,W8.out.trans (hHeld.mono W8.out.size)⟩
theorem YnM:∀(args:Array Value) (W:World),(callFunc 47 args).run Tryz.prog W=.ok (.enter 47 args) W:=fun _ _=>by kernel_rfl
def VerOk(ns:List Nd)(x:Lk):Prop:=0≤x.root∧x.root≤ns.length∧mayA (verT ns x.root)=true
theorem YnO(F:Nat→Prop)(w:World)(t:Tr)(h:I64 t.root):LkOk F w (firstK t) zLkS:=
 ⟨⟨⟨show (-9223372036854775808:Int)≤0 by decide,show (0:Int)≤9223372036854775807 by decide⟩,show (-9223372036854775808:Int)≤0 by decide,show (0:Int)≤9223372036854775807 by decide⟩,h,Row.nil _ _ _,Row.nil _ _ _,Row.nil _ _ _,⟨Vx8 _,by decide⟩,⟨Vx8 _,by decide⟩,⟨Vx8 _,by decide⟩⟩
theorem YnG(F G H:Nat→Prop)(cb db:Nat)(A:Option Addr)(c:Nat)(ns:List Nd)(root:Int)(box:Dg)(p:Option Addr)(a:Option Lk)(b o:Nat)(x:Lk)(s:LkS)(w:World)(hcb:w.rangeAt cb 0 [.slice A ns.length c,.int .i64 root])(hdb:w.rangeAt db 0 (box.1.map bv))
  (hr:Row F w A ns) (hc:ns.length≤50000) (hcc:ns.length≤c) (ha:AhdAt G w p a) (hl:LkAt w b o x s) (hk:LkOk H w x s) (hds:x.ds.length≤1000) (hxs:x.xs.length≤1000) (hx:VerOk ns x) (hy:∀y,a=some y→VerOk ns y) (hT:Tab w):
  Calls Tryz.prog 47 #[.pointer p,.pointer (some ⟨b,o,none⟩),.pointer (some ⟨cb,0,none⟩),.pointer (some ⟨db,0,none⟩)] w fun e w'=>e=.returned (.bool (mdK ns box a x))∧Below w.heap.size w w':=by
 have hut:=Tryz.underlying24
 have hul:=Tryz.underlying77
 have hu:=Tryz.underlying37
 have hiT:=hid (show (Tryz.prog.info? 24).map (·.size)=some ([Value.slice A ns.length c,.int .i64 root]).length from Zah)
 have hiD:=hid (Zaz box)
 have L0:=hid hl
 have K0:=hid hk
 have R0:=hid hr
 have C0:=hid hcb
 have D0:=hid hdb
 have T0:=hid hT
 have hlow:=hid hT.low
 obtain⟨x0,x1,x2⟩:=hx
 cases a with
 |none=>
  obtain rfl:p=none:=ha
  have hVx:=hid (fun W hW=>Yll F A c ns root b o x s W (by omega) hW x0 x1 hcc)
  have hvl:=(YnK x0 x1).1
  have hFi:=hid (fun W hr hT=>Ylw F A x.root.toNat (verT ns x.root).ns (verT ns x.root).root W hr (by omega) hT)
  have rX:Hid (∀ W,Row F W A ns→Row F W A (verT ns x.root).ns):=hid (fun W h=>h.take x.root.toNat)
  have hfo:=hid (fun W=>YnO F W (verT ns x.root) ⟨by show _≤x.root;omega,by show x.root≤_;omega⟩)
  replace hFi:Hid (∀ W,Row F W A (verT ns x.root).ns→Tab W→Calls Tryz.prog 39 #[.agg #[.slice A (verT ns x.root).ns.length x.root.toNat,.int .i64 (verT ns x.root).root]] W fun e w'=>e=.returned (.agg (lkC (firstK (verT ns x.root)) zLkS).toArray)∧Below W.heap.size W w'):=hFi
  show Calls _ _ _ _ fun e w'=>e=.returned (.bool (decide (x=firstK (verT ns x.root))))∧Below w.heap.size w w'
  have hSl:=hid (fun W h1 h2=>YnD H F x (firstK (verT ns x.root)) s zLkS W h1 h2)
  generalize firstK (verT ns x.root)=y at *
  generalize verT ns x.root=vx at *
  generalize decide (x=y)=q at *
  have is:=hid (YkW x s)
  have c1:=hid hl.all
  clear hl hk hr hcb hdb hT x0 x1 x2 hy hds hxs hc hcc hvl
  go_enter Tryz.func47,Tryz.ntmps47
  go_wp2
  refine rgB fun hHeld=>?_
  refine' tkW 0 1 ?_
  refine' tkM 2 rfl (fun _ h=>Zab h c1.out) hul is.out ?_
  refine' tkP 3 rfl ?_
  simp only[sQ]
  refine' tkM 4 rfl (fun _ h=>Zab h C0.out) hut hiT.out ?_
  refine' tkP 5 rfl ?_
  simp only[sQ]
  refine rdC 6 rfl (hVx.out _ (L0.out.bel hHeld)) fun v2 hB hHeld=>?_
  try simp only[sQ]
  refine rdC 7 rfl (hFi.out _ (rX.out _ (R0.out.bel hHeld)) (T0.out.bel hHeld hlow.out)) fun v2 hB hHeld=>?_
  try simp only[sQ]
  refine rdC 8 rfl (hSl.out _ (K0.out.bel hHeld) (hfo.out _)) fun v2 hB hHeld=>?_
  try simp only[sQ]
  refine' tkP 9 rfl ?_
  simp only[sQ]
  refine dnN ?_
  go_wp2
  go_ret
  exact⟨rfl,hHeld⟩
 |some y=>
  obtain⟨b1,o1,s1,rfl,ly,ky⟩:=ha
  obtain⟨y0,y1,y2⟩:=hy y rfl
  have hA:=hid (YnE F (fun _=>True) A c ns root b1 o1 y s1 b o x s box w hr hc hcc ly (ky.mono (fun _ _ _=>trivial)) hl (hk.mono (fun _ _ _=>trivial)) hds hxs y0 y1 y2 x0 x1 x2 hT)
  show Calls _ _ _ _ fun e w'=>e=.returned (.bool (appliedB ns box y x))∧Below w.heap.size w w'
  generalize appliedB ns box y x=q at *
  clear hl hk hr hT x0 x1 x2 y0 y1 y2 hy hds hxs hc hcc ly ky L0 K0 R0 T0
  go_enter Tryz.func47,Tryz.ntmps47
  go_wp2_with (first
   |(with_reducible refine lDr C0.out hiT.out hut ?_)
   |(with_reducible refine lDr D0.out hiD.out hu ?_)
   |fail)
  refine hA.out.mono ?_
  rintro r w2 ⟨rfl,hB⟩
  go_wp2
  go_ret
  exact⟨rfl,hB⟩
theorem YnS(w:World)(c:Ch)(s:ChS)(m:List Value)(t u:TypeId):
  let W:=(w.alloc (.cells (chV c s).toArray t)).alloc (.cells m.toArray u)
  W.rangeAt w.heap.size 0 (chV c s)∧W.rangeAt (w.heap.size+1) 0 m∧Below w.heap.size w W:=YnL w (chV c s) m t u
theorem YnB(F:Nat→Prop)(c:Ch)(s:ChS)(box:Dg)(w:World)(h:ChIn F w c s)(hb:ChB 50000 c)(hT:Tab w):
  Calls Tryz.prog 13 #[.agg (chV c s).toArray,.agg (box.1.map bv).toArray] w fun e w'=>e=.returned (.bool (soundC c box))∧Below w.heap.size w w':=by
 have huc:=Tryz.underlying27
 have hb1:ChB 1000000 c:=⟨by have:=hb.ns;omega,hb.ls,hb.xs⟩
 obtain⟨Y0,D0,W0⟩:=YnS w c s (box.1.map bv) 27 37
 have hiC:=hid (YkJ c s)
 have I0:=hid (h.bel W0)
 have T0:=hid (hT.bel W0 hT.low)
 have hlow:=hid hT.low
 have hCk:=hid (fun W h1 h2=>YkQ F c s W h1 hb1 h2)
 have hcap:=hid h.nc
 obtain⟨q,hq⟩:∃v,mayC c=v:=⟨_,rfl⟩
 obtain⟨an,han⟩:∃v,soundC c box=v:=⟨_,rfl⟩
 rw[han]
 unfold soundC at han
 rw[hq]at hCk han
 replace han:=hid han
 have hat:=hid (fun (e:q=true)=>(⟨(Ylb (hq.trans e)).1,fun j hj=>(Yk4 (hq.trans e) hj).2.1⟩:0<c.ls.length∧∀(j:Nat) (hj:j<c.ls.length),VerOk c.t.ns c.ls[j]))
 replace W0:=hid W0
 replace Y0:=hid Y0
 replace D0:=hid D0
 replace hb:=hid hb
 clear h hT hq hb1
 go_enter Tryz.func13,Tryz.ntmps13
 go_wp2_with (first
  |(with_reducible refine lDr Y0.out hiC.out huc ?_)
  |fail)
 generalize (w.alloc (.cells (chV c s).toArray 27)).alloc (.cells (box.1.map bv).toArray 37)=w0 at *
 refine(hCk.out _ I0.out T0.out).mono ?_
 rintro e w1 ⟨rfl,hB⟩
 have I1:=hid (I0.out.bel hB)
 have T1:=hid (T0.out.bel hB (Vx4 hlow.out W0.out.size))
 have W1:=hid (W0.out.trans (hB.mono W0.out.size))
 have Y1:=hid (Zab hB Y0.out)
 have D1:=hid (Zab hB D0.out)
 clear hB hCk I0 W0 T0 Y0 D0
 cases q with
 |false=>
  have e9:=hid (show false=an from han.out)
  clear hat han
  go_wp2
  go_ret
  exact⟨by rw[← e9.out];rfl,W1.out⟩
 |true=>
  obtain⟨hpos,hat2⟩:=hat.out (by first|trivial|rfl)
  obtain⟨b,o,hA⟩:∃b o,s.L=some ⟨b,o,none⟩:=by
   obtain⟨b,o,h1,_⟩:=YkS I1.out.ls hpos
   exact⟨b,o,h1⟩
  obtain⟨A,k,L,m⟩:=s
  dsimp only at hA
  subst hA
  have bC:=BoxC.of (show _ from Y1.out)
  have l1:=bC.ls
  have y1:=hid bC.t
  have hlb:=hb.out.ls
  have hHo:=hid (fun (W0:World) (hW0:Below w1.heap.size w1 W0) (gb:Nat) hgb=>YlK (mdK c.t.ns box) c.ls 47 #[.pointer (some ⟨w.heap.size,0,none⟩),.pointer (some ⟨w.heap.size+1,0,none⟩)] b o gb m W0 YnM (by omega) hgb (fun j hj W hW=>by
   have hWw:=hW0.trans (hW.mono hW0.size)
   have I2:=I1.out.bel hWw
   obtain⟨h1,s1,h2,h3⟩:=YmE I2.ls hj
   have hx:=hb.out.xs _ (List.getElem_mem hj)
   exact YnG F F F w.heap.size (w.heap.size+1) A k c.t.ns c.t.root box (ahdA b o j) (aheadK c.ls j) b (o+j * 102) c.ls[j] s1 W (Zab hWw y1.out) (Zab hWw D1.out) I2.ns hb.out.ns hcap.out h1 h2 h3 hx.1 hx.2.1 (hat2 j hj)
    (fun y hy=>by obtain⟨i,hi,rfl⟩:=List.getElem_of_mem (Ymn hy);exact hat2 i hi) (T1.out.bel hWw (Vx4 hlow.out W1.out.size))))
  have e9:=hid (show heldB (mdK c.t.ns box) c.ls=an from han.out)
  clear han
  generalize heldB (mdK c.t.ns box) c.ls=v at *
  clear hat2 hat bC I1 T1 Y1 D1 y1
  go_wp2_with fail
  refine(Yme (some ⟨b,o,none⟩) c.ls.length m _).mono ?_
  rintro e w4 ⟨rfl,rfl⟩
  go_wp2_with fail
  refine(hHo.out _ (Zad _ _) _ (Vx0 _ _)).mono ?_
  rintro e w5 ⟨rfl,hB5⟩
  have X5:=hid (W1.out.trans ((Zad w1 (.cells #[.slice (some ⟨b,o,none⟩) c.ls.length m] 25)).mono W1.out.size))
  have Y5:=hid (X5.out.trans (hB5.mono X5.out.size))
  clear hHo hB5 X5
  go_wp2
  go_ret
  exact⟨by rw[← e9.out];rfl,Y5.out⟩
end Go.Proofs.YtnnclggeifnomaaGreatDoor
