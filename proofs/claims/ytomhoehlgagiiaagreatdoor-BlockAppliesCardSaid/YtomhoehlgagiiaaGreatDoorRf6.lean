import Derived.Test.YtomhoehlgagiiaaGreatDoorStX
import Derived.Test.YtomhoehlgagiiaaGreatDoorRefE
import Derived.Test.YtomhoehlgagiiaaGreatDoorInW
set_option maxRecDepth 100000
set_option linter.all false
set_option maxHeartbeats 4000000
namespace Go.Proofs.YtomhoehlgagiiaaGreatDoor
open Go.RowKit
theorem YbA:∀c:Fin 256,∀p:Fin 8,(tbyte (UInt8.ofNat c.val) p.val).toNat=(if c.val / 2 ^ (7-p.val) % 2=1 then c.val-2 ^ (7-p.val) else c.val+2 ^ (7-p.val))∧(c.val / 2 ^ (7-p.val) % 2=1→2 ^ (7-p.val)≤c.val)∧(c.val / 2 ^ (7-p.val) % 2≠1→c.val+2 ^ (7-p.val)<256):=by decide +kernel
set_option maxRecDepth 100000 in
theorem Zq2(l:List UInt8)(i:Int)(w:World)(hl:l.length=32):
  Calls Tryz.prog 151 #[.agg (l.map bv).toArray,.int .i64 i] w fun r w'=>r=.returned (.tuple #[.agg ((turnV l i).map bv).toArray,.int .i64 (bitE i)])∧Below w.heap.size w w':=by
 obtain⟨ds,hds⟩:∃ds,ds=(l.map bv).toArray:=⟨_,rfl⟩
 have hsz:ds.size=32:=by rw[hds];simp[hl]
 have hd1:=Vx0 w (.cells ds 26)
 have hz1:=Vx0 (w.alloc (.cells ds 26)) (.cells z32 26)
 rw[Vx2]at hz1
 have W2:=Zag (Zad w (.cells ds 26)) (Zad _ (.cells z32 26))
 unfold turnV bitE
 rw[← hds]
 replace hds:=hid hds
 by_cases h:0≤i∧i<256
 ·rw[if_pos h,if_pos h]
  obtain⟨h1,h2⟩:=h
  obtain⟨n,rfl⟩:=Int.eq_ofNat_of_zero_le h1
  have hn:n<256:=by omega
  have hat:=fun w=>ZiL l n w hl hn
  rw[← hds.out]at hat
  have hd2:=(Below.heap_alloc (w.alloc (.cells ds 26)) (.cells z32 26) w.heap.size (by simp)).trans hd1
  obtain⟨c0,hc0⟩:∃c0,l.getD (n / 8) 0=c0:=⟨_,rfl⟩
  have hcl:=c0.toNat_lt
  have hdq:=Yio l (n / 8) (by omega)
  rw[hc0,←hds.out]at hdq
  have hk:kb l n=c0.toNat / 2 ^ (7-n % 8) % 2:=by unfold kb;rw[hc0]
  have htn:turn l n=l.set (n / 8) (tbyte c0 (n % 8)):=by unfold turn;rw[hc0]
  have q1:=YbB n
  have q2:=YhI n
  have q3:n / 8<32:=by omega
  have q4:n % 8<8:=Nat.mod_lt _ (by omega)
  obtain⟨t1,t2,t3⟩:=YbA ⟨c0.toNat,hcl⟩ ⟨n % 8,q4⟩
  simp only[UInt8.ofNat_toNat]at t1 t2 t3
  rw[← hk]at t1 t2 t3
  have hkl:=Zeu l n
  rw[show ((n:Int).toNat)=n by omega,htn]
  clear htn hk hc0 hd1
  generalize n / 8=q at *
  generalize n % 8=p at *
  generalize kb l n=k at *
  generalize hx:tbyte c0 p=x at *
  go_enter Tryz.func151,Tryz.ntmps151
  go_wp2_with ((with_reducible refine Zac rfl 26 rfl z32 Zam ?_))
  generalize ((w.alloc (.cells ds 26)).alloc (.cells z32 26))=W0 at *
  go_loopw [6,7] (fun v j wr=>∃m:Nat,m≤7-p∧v=.int .u8 ((2 ^ m:Nat):Int)∧j=.int .i64 ((7-m:Nat):Int)∧Below w.heap.size w wr∧wr.heap[w.heap.size]? =some (.cells ds 26 (0,0))∧wr.heap[w.heap.size+1]? =some (.cells z32 26 (0,0))) (fun _ j _=>(intOf j).toNat)
  case atStart=>exact⟨0,Nat.zero_le _,by simp,rfl,W2,hd2,hz1⟩
  case round=>
   obtain⟨m,hm,rfl,rfl,hb,g1,g2⟩:=hrel
   have hm2:2 ^ m≤2 ^ 7:=Nat.pow_le_pow_right (by omega) (by omega)
   have hm3:2 ^ (m+1)=2 * 2 ^ m:=by rw[Nat.pow_succ,Nat.mul_comm]
   by_cases hlt:m<7-p
   ·have hm4:2 ^ (m+1)≤2 ^ 7:=Nat.pow_le_pow_right (by omega) (by omega)
    replace hm3:=hid hm3
    have hm5:2 * 2 ^ m≤2 ^ 7:=by rw[← hm3.out];exact hm4
    simp only[Nat.reducePow]at hm2 hm5
    generalize 2 ^ m=y at *
    clear hm4
    replace g1:=hid g1
    replace g2:=hid g2
    go_wp2
    go_roundw
    case rel=>exact⟨m+1,by omega,by rw[hm3.out];simp,by congr 1;omega,hb,g1.out,g2.out⟩
    case measure=>simp[intOf];omega
   ·have hmp:7-p=m:=by omega
    rw[hmp]at t1 t2 t3
    simp only[Nat.reducePow]at hm2
    generalize 2 ^ m=y at *
    go_wp2_with (((with_reducible refine wpList_load_row rfl 26 (.tmp 2) rfl w.heap.size rfl 26 ds (0,0) _ ?_ Tryz.underlying26 rfl ?_ ?_);exact g1;(rw[hsz];exact Zai)))
    refine(hat wr).mono ?_
    rintro e w5 ⟨rfl,hb5⟩
    replace g1:=(hb5.block _ (block_lt g1)).trans g1
    replace g2:=(hb5.block _ (block_lt g2)).trans g2
    have hb5':=hb.trans (hb5.mono hb.size)
    have hcell:=Zaq g1 q
    rw[hdq]at hcell
    have hfz:=Zap g1 q
    have g3:=ZaD g1 q (.int .u8 (x.toNat:Int))
    have g4:=(Vy3 w5 ⟨w.heap.size,q,none⟩ (.int .u8 (x.toNat:Int)) (w.heap.size+1) (by simp)).trans g2
    have hds2:ds.setIfInBounds q (.int .u8 (x.toNat:Int))=((l.set q x).map bv).toArray:=by rw[hds.out];simp[bv]
    rw[hds2]at g3
    have hsz2:((l.set q x).map bv).toArray.size=32:=by simp[hl]
    have hall:=Zay (l.set q x)
    clear hds2 g1 g2 hb5 hb hdq hm3 hmp hx
    replace hds:=trivial
    by_cases hk1:k=1
    ·subst hk1
     have t4:=t2 rfl
     rw[if_pos rfl]at t1
     have t5:((c0.toNat:Int)-(y:Int))=(x.toNat:Int):=by omega
     have hxl:=x.toNat_lt
     clear t1 t2 t3
     go_wp2_with (first
      |((with_reducible refine wpList_load_row rfl 26 (.tmp 2) rfl w.heap.size rfl 26 ((l.set q x).map bv).toArray (0,0) _ ?_ Tryz.underlying26 rfl ?_ ?_);exact g3;(rw[hsz2];exact Zai))
      |((with_reducible refine stW 4 41 _ 26 z32 ?_ ?_ ?_ ?_ ?_);exact g4;(rw[hsz2];exact Zai);(rw[hsz2];exact z32_size);exact hall;intro w6 hg6 hb6 hs6))
     refine Vy0 (ZcM rfl _ _ (w.heap.size+1) _ rfl hg6 hsz2) rfl ⟨rfl,(hb5'.setCell (p:=⟨w.heap.size,q,none⟩) (Vx8 _) _).grown hb6 (Vx1 hb5'.size (by simp[World.setCell])) (by intro k hk;injection hk with hk;omega)⟩
    ·have hk0:k=0:=by omega
     subst hk0
     have t4:=t3 (by omega)
     rw[if_neg (by omega)]at t1
     have t5:((c0.toNat:Int)+(y:Int))=(x.toNat:Int):=by omega
     have hxl:=x.toNat_lt
     clear t1 t2 t3
     go_wp2_with (first
      |((with_reducible refine wpList_load_row rfl 26 (.tmp 2) rfl w.heap.size rfl 26 ((l.set q x).map bv).toArray (0,0) _ ?_ Tryz.underlying26 rfl ?_ ?_);exact g3;(rw[hsz2];exact Zai))
      |((with_reducible refine stW 4 41 _ 26 z32 ?_ ?_ ?_ ?_ ?_);exact g4;(rw[hsz2];exact Zai);(rw[hsz2];exact z32_size);exact hall;intro w6 hg6 hb6 hs6))
     refine Vy0 (ZcM rfl _ _ (w.heap.size+1) _ rfl hg6 hsz2) rfl ⟨rfl,(hb5'.setCell (p:=⟨w.heap.size,q,none⟩) (Vx8 _) _).grown hb6 (Vx1 hb5'.size (by simp[World.setCell])) (by intro k hk;injection hk with hk;omega)⟩
 ·rw[if_neg h,if_neg h]
  have h3:i<0∨256≤i:=by omega
  go_enter Tryz.func151,Tryz.ntmps151
  rcases h3 with h3|h3
  ·go_wp2_with (first
    |(with_reducible refine Zac rfl 26 rfl z32 Zam ?_)
    |((with_reducible refine stW 4 14 _ 26 z32 ?_ ?_ ?_ ?_ ?_);exact hz1;exact Zai;rfl;decide +kernel;intro w4 hg4 hb4 hs4))
   refine Vy0 (ZcM rfl _ _ (w.heap.size+1) _ rfl hg4 rfl) rfl ⟨rfl,W2.grown hb4 W2.size (by intro k hk;injection hk with hk;omega)⟩
  ·go_wp2_with (first
    |(with_reducible refine Zac rfl 26 rfl z32 Zam ?_)
    |((with_reducible refine stW 4 14 _ 26 z32 ?_ ?_ ?_ ?_ ?_);exact hz1;exact Zai;rfl;decide +kernel;intro w4 hg4 hb4 hs4))
   refine Vy0 (ZcM rfl _ _ (w.heap.size+1) _ rfl hg4 rfl) rfl ⟨rfl,W2.grown hb4 W2.size (by intro k hk;injection hk with hk;omega)⟩
def anyT(ns:List Nd):Bool:=ns.any fun x=>decide (100<x.v.length)
def greatT(ns:List Nd)(m:Nat):Bool:=anyT (ns.take (m+1))||decide (m<ns.length)
theorem Zyj{ns:List Nd}{j:Nat}(hj:j<ns.length):anyT (ns.take (j+1))=(anyT (ns.take j)||decide (100<ns[j].v.length)):=by
 unfold anyT
 rw[Vy5 hj,List.any_append]
 simp
theorem Zyi{ns:List Nd}{j m:Nat}(h:anyT (ns.take j)=true)(hj:j≤m):anyT (ns.take m)=true:=by
 unfold anyT at h ⊢
 rw[List.any_eq_true]at h ⊢
 obtain⟨x,h1,h2⟩:=h
 refine⟨x,?_,h2⟩
 rw[show ns.take j=(ns.take m).take j by rw[List.take_take,Nat.min_eq_left hj]]at h1
 exact List.mem_of_mem_take h1
theorem Zbi{ns:List Nd}{m:Nat}(h:greatT ns m=false):ns.length≤m∧∀x∈ns,x.v.length≤100:=by
 unfold greatT at h
 rw[Bool.or_eq_false_iff,decide_eq_false_iff_not]at h
 have hl:ns.length≤m:=by omega
 refine⟨hl,fun x hx=>?_⟩
 have h1:=h.1
 unfold anyT at h1
 rw[List.take_of_length_le (by omega),List.any_eq_false]at h1
 simpa using h1 x hx
theorem ZaY(F:Nat→Prop)(A:Option Addr)(c m:Nat)(ns:List Nd)(root:Int)(w:World)(hr:Row F w A ns)(hc:ns.length≤9223372036854775807):
  Calls Tryz.prog 16 #[.agg #[.slice A ns.length c,.int .i64 root],.int .i64 (m:Int)] w fun e w'=>e=.returned (.bool (greatT ns m))∧Below w.heap.size w w':=by
 obtain⟨ans,ha⟩:∃ans,greatT ns m=ans:=⟨_,rfl⟩
 have hG:greatT ns m=(anyT (ns.take (m+1))||decide (m<ns.length)):=rfl
 rw[ha]at hG ⊢
 clear ha
 replace hG:=hid hG
 have hb0:=BoxT.new w A ns.length c root 24
 have W0:=Zad w (.cells #[.slice A ns.length c,.int .i64 root] 24)
 have hr0:=hr.bel W0
 have bns:=hb0.ns
 replace hb0:=trivial
 go_enter Tryz.func16,Tryz.ntmps16
 go_wp2
 generalize w.alloc (.cells #[.slice A ns.length c,.int .i64 root] 24)=w0 at *
 go_loop [5] (fun i=>∃k:Nat,k≤ns.length∧k≤m+1∧i=.int .i64 k∧anyT (ns.take k)=false) (fun i=>ns.length-(intOf i).toNat)
 case atStart=>exact⟨0,Nat.zero_le _,Nat.zero_le _,rfl,rfl⟩
 case round=>
  obtain⟨k,hk,hkm,rfl,hrel⟩:=hrel
  by_cases hlt:k<ns.length
  ·by_cases hm:k≤m
   ·have ht:=Zyj hlt
    obtain⟨b,o,rfl,A',c',hR,_,h2,_⟩:=Zb7 hr0 hlt
    have hcell:=ZzZ hR
    generalize ns[k].v=v at *
    rw[hrel,Bool.false_or]at ht
    replace hrel:=hid hrel
    by_cases hv:100<v.length
    ·rw[Vy2 hv]at ht
     replace ht:=hid ht
     go_wp2
     go_ret
     exact⟨Zcs (by rw[hG.out,Zyi ht.out (by omega),Bool.true_or]),W0⟩
    ·rw[Vy1 hv]at ht
     replace ht:=hid ht
     go_wp2
     go_round
     case rel=>exact⟨k+1,by omega,by omega,by go_num,ht.out⟩
     case measure=>simp[intOf];omega
   ·obtain rfl:k=m+1:=by omega
    replace hrel:=hid hrel
    go_wp2
    go_ret
    exact⟨Zcs (by rw[hG.out,hrel.out,Bool.false_or]),W0⟩
  ·obtain rfl:k=ns.length:=by omega
   rw[List.take_length]at hrel
   replace hrel:=hid hrel
   go_wp2
   go_ret
   exact⟨Zcs (by rw[hG.out,List.take_of_length_le (by omega),hrel.out,Bool.false_or]),W0⟩
theorem Ycc(F:Nat→Prop)(x:Nd)(A:Option Addr)(c a:Nat)(w:World)(h1:x.v.length≤9223372036854775807)(ha:a≤9223372036854775807):
  Calls Tryz.prog 73 #[.agg (ndC x A c).toArray,.int .i64 (a:Int)] w fun e w'=>e=.returned (.bool (oneN x a))∧Below w.heap.size w w':=by
 have W0:=Zad w (.cells (ndC x A c).toArray 124)
 have hb:=BoxN.new w x A c 124
 have hl:=hb.leaf
 have hv:=hb.val
 have hL:=hb.l
 have hR:=hb.r
 have hk:=hid hb.key
 have hu:=Tryz.underlying26
 have hi:=hid (Zaz x.k)
 have hz:=hid Zes
 obtain⟨vb,hvb⟩:∃vb,valB x.v=vb:=⟨_,rfl⟩
 obtain⟨kb,hkb⟩:∃kb,decide (x.k=z0)=kb:=⟨_,rfl⟩
 have hE:∀W,(Op.equalIn 10000 26 (.agg (x.k.1.map bv).toArray) (.agg (z0.1.map bv).toArray)).run Tryz.prog W=.ok kb W:=fun W=>ZaL x.k z0 kb hkb W
 obtain⟨ans,hans⟩:∃ans,oneN x a=ans:=⟨_,rfl⟩
 rw[hans]
 have hA:oneN x a=ans:=hans
 unfold oneN at hA
 rw[hvb,hkb]at hA
 replace hA:=hid hA
 obtain⟨leaf,k,v,l,r⟩:=x
 dsimp only at *
 clear hans hb hkb
 generalize hcs:ndC ⟨leaf,k,v,l,r⟩ A c=cs at *
 generalize k.1.map bv=dk at *
 generalize z0.1.map bv=dz at *
 clear hcs
 replace hvb:=hid hvb
 cases leaf
 ·skip
  have no:¬(0≤l∧l≤a∧0≤r∧r≤a∧¬(l=0∧r=0))→false=ans:=fun h=>by rw[← hA.out,if_neg (by decide),Vy1 h];rfl
  replace no:=hid no
  by_cases q1:l<0
  ·replace no:=hid (no.out (by omega))
   go_enter Tryz.func73,Tryz.ntmps73
   go_wp2
   go_ret
   exact⟨Zcs no.out,W0⟩
  by_cases q2:(a:Int)<l
  ·replace no:=hid (no.out (by omega))
   go_enter Tryz.func73,Tryz.ntmps73
   go_wp2
   go_ret
   exact⟨Zcs no.out,W0⟩
  by_cases q3:r<0
  ·replace no:=hid (no.out (by omega))
   go_enter Tryz.func73,Tryz.ntmps73
   go_wp2
   go_ret
   exact⟨Zcs no.out,W0⟩
  by_cases q4:(a:Int)<r
  ·replace no:=hid (no.out (by omega))
   go_enter Tryz.func73,Tryz.ntmps73
   go_wp2
   go_ret
   exact⟨Zcs no.out,W0⟩
  by_cases q5:l=0∧r=0
  ·replace no:=hid (no.out (by omega))
   obtain⟨rfl,rfl⟩:=q5
   go_enter Tryz.func73,Tryz.ntmps73
   go_wp2
   go_ret
   exact⟨Zcs no.out,W0⟩
  have yes:(kb&&decide (v=[]))=ans:=by rw[← hA.out,if_neg (by decide),Vy2 (show 0≤l∧l≤a∧0≤r∧r≤a∧¬(l=0∧r=0) from ⟨by omega,by omega,by omega,by omega,q5⟩),Bool.true_and]
  have qv:((v.length:Int)==0)=decide (v=[]):=by cases v<;>simp<;>omega
  replace yes:=hid yes
  clear no
  have q6:decide (l<0)=false:=Vy1 q1
  have q7:decide ((a:Int)<l)=false:=Vy1 q2
  have q8:decide (r<0)=false:=Vy1 q3
  have q9:decide ((a:Int)<r)=false:=Vy1 q4
  have qq:(l==0)=false∨l=0∧(r==0)=false:=by
   by_cases h0:l=0
   ·exact .inr ⟨h0,beq_eq_false_iff_ne.2 fun e=>q5 ⟨h0,e⟩⟩
   ·exact .inl (beq_eq_false_iff_ne.2 h0)
  clear q5 hA
  rcases qq with ql|⟨rfl,qr⟩
  ·cases kb
   ·go_enter Tryz.func73,Tryz.ntmps73
    go_wp2_with (first
     |(with_reducible refine lDr hk.out hi.out hu ?_)
     |((with_reducible refine Zaf rfl 26 _ rfl dz.toArray [] ?_ ?_ ?_);exact hz.out;rfl))
    go_ret
    exact⟨Zcs yes.out,W0⟩
   ·go_enter Tryz.func73,Tryz.ntmps73
    go_wp2_with (first
     |(with_reducible refine lDr hk.out hi.out hu ?_)
     |((with_reducible refine Zaf rfl 26 _ rfl dz.toArray [] ?_ ?_ ?_);exact hz.out;rfl))
    go_ret
    exact⟨Zcs yes.out,W0⟩
  ·cases kb
   ·go_enter Tryz.func73,Tryz.ntmps73
    go_wp2_with (first
     |(with_reducible refine lDr hk.out hi.out hu ?_)
     |((with_reducible refine Zaf rfl 26 _ rfl dz.toArray [] ?_ ?_ ?_);exact hz.out;rfl))
    go_ret
    exact⟨Zcs yes.out,W0⟩
   ·go_enter Tryz.func73,Tryz.ntmps73
    go_wp2_with (first
     |(with_reducible refine lDr hk.out hi.out hu ?_)
     |((with_reducible refine Zaf rfl 26 _ rfl dz.toArray [] ?_ ?_ ?_);exact hz.out;rfl))
    go_ret
    exact⟨Zcs yes.out,W0⟩
 ·have hA2:(vb&&decide (l=0)&&decide (r=0))=ans:=by rw[← hA.out,if_pos rfl]
  replace hA2:=hid hA2
  clear hA
  cases vb
  ·go_enter Tryz.func73,Tryz.ntmps73
   go_wp2_with fail
   refine(ZdR v A c false _ h1 hvb.out).mono ?_
   rintro e w7 ⟨rfl,rfl⟩
   go_wp2
   go_ret
   exact⟨Zcs hA2.out,W0⟩
  ·by_cases hl0:l=0
   ·subst hl0
    go_enter Tryz.func73,Tryz.ntmps73
    go_wp2_with fail
    refine(ZdR v A c true _ h1 hvb.out).mono ?_
    rintro e w7 ⟨rfl,rfl⟩
    go_wp2
    go_ret
    exact⟨Zcs (by rw[← hA2.out];simp;rfl),W0⟩
   ·have ql:(l==0)=false:=beq_eq_false_iff_ne.2 hl0
    go_enter Tryz.func73,Tryz.ntmps73
    go_wp2_with fail
    refine(ZdR v A c true _ h1 hvb.out).mono ?_
    rintro e w7 ⟨rfl,rfl⟩
    go_wp2
    go_ret
    exact⟨Zcs (by rw[← hA2.out];simp[hl0]),W0⟩
theorem OwnQ.keptG{α:Type}[Enc α]{E:TypeId}{w w':World}{B0 B g:Nat}{A:Option Addr}{c:Nat}{xs:List α}(h:OwnQ E w B0 B A c xs)(hk:∀b,b<w.heap.size→b≠g→w'.heap[b]? =w.heap[b]?)(h0:g<B0)(h1:g<B):OwnQ E w' B0 B A c xs:=by
 have hb:=h.blk
 obtain⟨F,k1,k2⟩:=h
 exact⟨F,k1.kept (fun a ha hl=>hk _ hl fun e=>by have:=(hb a ha).1;omega) (fun b hf hl=>hk b hl fun e=>by have:=(k2 b hf).1;omega),fun b hf=>⟨(k2 b hf).1,(k2 b hf).2.kept (hk b (k2 b hf).2.lt fun e=>by have:=(k2 b hf).1;omega)⟩⟩
theorem Zxf{E:TypeId}{w:World}{B:Nat}(x:Nd){A:Option Addr}{c:Nat}(h:Own E w B A c x.v)(hl:I64 x.l)(hr:I64 x.r):Enc.rep (fun b=>∃a,A=some a∧b=a.block) w x (ndC x A c):=
 Zf7 x A c h.cap.1 h.cap.2 (h.rd.row fun a ha _=>⟨a,ha,rfl⟩) hl hr
theorem ZzY(x:Nd)(A A2:Option Addr)(c c2:Nat):(ndC x A c).toArray.setIfInBounds 33 (.slice A2 x.v.length c2)=(ndC x A2 c2).toArray:=by
 apply Array.ext'
 have hl:(x.k.1.map bv).length=32:=by rw[Vx6];exact x.k.2
 simp only[Array.toList_setIfInBounds,ndC,List.cons_append,List.nil_append,List.set_cons_succ]
 rw[List.set_append_right _ _ (by omega),hl]
 rfl
theorem YcB(root:Int):Tryz.prog.built 24 [(1,.int .i64 root)]=some #[Value.slice none 0 0,.int .i64 root]:=by kernel_rfl
theorem Zfu(A:Option Addr)(n c:Nat)(root:Int):(#[Value.slice A n c,.int .i64 root]:Array Value).all (·.oneCell')=true:=all_oneCell_toArray (cs:=[Value.slice A n c,.int .i64 root]) fun u hu=>by
 simp at hu
 rcases hu with rfl|rfl<;>rfl
theorem Yce(k:Dg)(d:Nat)(hd:d<256)(u:Value)(hu:u=.agg (k.1.map bv).toArray)(w:World):
  Calls Tryz.prog 151 #[u,.int .i64 (d:Int)] w fun e w'=>e=.returned (.tuple #[.agg ((turnD k d).1.map bv).toArray,.int .i64 0])∧Below w.heap.size w w':=by
 subst hu
 have h:=Zq2 k.1 d w k.2
 rw[show turnV k.1 (d:Int)=turn k.1 d by unfold turnV;rw[if_pos (by omega)];rfl,show bitE (d:Int)=0 by unfold bitE;rw[if_pos (by omega)]]at h
 exact h
theorem Zoi(a b:Dg)(u v:Value)(s:Nat)(hu:u=.agg (a.1.map bv).toArray)(hv:v=.agg (b.1.map bv).toArray)(hs:shared a.1 b.1=s)(w:World):
  Calls Tryz.prog 150 #[u,v] w fun e w'=>e=.returned (.int .i64 (s:Int))∧Below w.heap.size w w':=by
 subst hu hv hs
 exact Zi3 a.1 b.1 w a.2 b.2
theorem Zgz(w:World)(A:Option Addr)(n c:Nat)(root:Int)(b:Dg)(t u:TypeId):
  BoxT ((w.alloc (.cells #[.slice A n c,.int .i64 root] t)).alloc (.cells (b.1.map bv).toArray u)) w.heap.size A n c root∧((w.alloc (.cells #[.slice A n c,.int .i64 root] t)).alloc (.cells (b.1.map bv).toArray u)).rangeAt (w.heap.size+1) 0 (b.1.map bv)∧
  Below w.heap.size w ((w.alloc (.cells #[.slice A n c,.int .i64 root] t)).alloc (.cells (b.1.map bv).toArray u)):=by
 have h1:=BoxT.new w A n c root t
 have h2:=Zae (Vx0 (w.alloc (.cells #[.slice A n c,.int .i64 root] t)) (.cells (b.1.map bv).toArray u))
 rw[Vx2]at h2
 exact⟨h1.bel (Zad _ _),h2,Zag (Zad _ _) (Zad _ _)⟩
theorem ZhC{w0 w4:World}{o:Obj}{k:Nat}(hk:k=w0.heap.size)(hb:(w0.alloc o).grownBy w4 (some k)):Below w0.heap.size w0 w4:=
 (Zad w0 o).grown hb (Zad w0 o).size (fun g e=>by injection e with e;omega)
theorem ZmB(F:Nat→Prop)(A:Option Addr)(c:Nat)(ns:List Nd)(root:Int)(ho:Ones ns)(hc:ns.length≤9223372036854775807)(e d:Nat)(n:Int)(b:Dg)(w:World)(hd:e+d=256)(h0:0≤n)(hn:n≤ns.length)(hr:Row F w A ns)
  (ih:∀f,e=f+1→∀(n:Int) (b:Dg) (w:World),0≤n→n≤ns.length→Row F w A ns→
   Calls Tryz.prog 74 #[.agg #[.slice A ns.length c,.int .i64 root],.int .i64 n,.int .i64 ((d:Int)+1),.agg (b.1.map bv).toArray] w fun r w'=>r=.returned (.int .i64 (rgt ns f n b))∧Below w.heap.size w w'):
  Calls Tryz.prog 74 #[.agg #[.slice A ns.length c,.int .i64 root],.int .i64 n,.int .i64 (d:Int),.agg (b.1.map bv).toArray] w fun r w'=>r=.returned (.int .i64 (rgt ns e n b))∧Below w.heap.size w w':=by
 obtain⟨hb0,hk0,W0⟩:=Zgz w A ns.length c root b 24 26
 have hu:=Tryz.underlying26
 have hun:=Tryz.underlying124
 have hut:=Tryz.underlying24
 by_cases hz:n=0
 ·subst hz
  rw[ZdK]
  go_enter Tryz.func74,Tryz.ntmps74
  go_wp2
  go_ret
  exact⟨rfl,W0⟩
 ·obtain⟨j,hj,rfl,hx,h1⟩:=Zc6 ho (by omega) hn
  have hr0:=hr.bel W0
  obtain⟨q,o,rfl,A',c',hR,hv1,hv2,hv3,hI1,hI2⟩:=Zb7 hr0 hj
  have hw:IntKind.i64.wrap ((j:Int)+1-1)=j:=by rw[IntKind.wrap_i64];omega
  have hne:((j:Int)+1==0)=false:=beq_eq_false_iff_ne.2 hz
  obtain⟨ans,hans⟩:∃ans,rgt ns e ((j:Int)+1) b=ans:=⟨_,rfl⟩
  rw[hans]
  have hA:=hans
  have hi:=hid (Zaz b)
  have hiN:=hid (show (Tryz.prog.info? 124).map (·.size)=some (ndC ns[j] A' c').length by rw[ZaG];exact Zbd)
  have hiS:=hid (show (Tryz.prog.info? 124).map (·.size)=some (ndC ns[j] A' c').toArray.size by rw[Vx7,ZaG];exact Zbd)
  have hzs:=hid (show zNdC.size=(ndC ns[j] A' c').toArray.size by rw[ZbY,Vx7,ZaG])
  have hone:=hid (ZcZ ns[j] A' c')
  have hz9:=hid (Vx0 ((w.alloc (.cells #[.slice (some ⟨q,o,none⟩) ns.length c,.int .i64 root] 24)).alloc (.cells (b.1.map bv).toArray 26)) (.cells zNdC 124))
  replace hR:=hid hR
  replace hr0:=hid hr0
  have hbT:=hb0.ns
  replace hb0:=hid hb0
  replace hk0:=hid hk0
  cases hl:ns[j].leaf with
  |true=>
   rw[Zck hz (by rw[hx];exact hl),hx]at hA
   obtain⟨s,hs⟩:∃s,shared ns[j].k.1 b.1=s:=⟨_,rfl⟩
   have hs256:=Zey ns[j].k.1 b.1
   rw[hs]at hA hs256
   have hik:=hid (Zaz ns[j].k)
   have hS:=fun W=>Zoi ns[j].k b _ _ s rfl rfl hs W
   clear hs hans
   replace hA:=hid hA
   go_enter Tryz.func74,Tryz.ntmps74
   go_wp2_with (first
    |(with_reducible refine Zac rfl 124 rfl zNdC Zbh ?_)
    |(with_reducible refine lDr hR.out hiN.out hun ?_)
    |((with_reducible refine stW 9 21 _ 124 zNdC ?_ ?_ ?_ ?_ ?_);exact hz9.out;exact hiS.out;exact hzs.out;exact hone.out;intro w4 hg4 hb4 hs4;simp only[Vx2]at hg4 hb4;have X4:=hid (ZhC (by simp) hb4);have N4:=BoxN.heap hg4;have y1:=N4.leaf;rw[hl]at y1;have y2:=N4.l;have y3:=N4.r;have T4:=hb0.out.bel X4.out;have b4:=Zab X4.out hk0.out;have y4:=T4.ns;have y5:=T4.rt;have W4:=hid (W0.trans (X4.out.mono W0.size));clear hg4 hb4 hs4)
    |(with_reducible refine lDr N4.key hik.out hu ?_)
    |(with_reducible refine lDr b4 hi.out hu ?_))
   refine(hS _).mono ?_
   rintro r w5 ⟨rfl,hb5⟩
   have W5:=hid (W4.out.trans (hb5.mono W4.out.size))
   by_cases hsd:s<d
   ·have e1:ans= -1:=by rw[← hA.out,if_pos (by omega)]
    subst e1
    go_wp2
    go_ret
    exact⟨rfl,W5.out⟩
   ·have e1:ans=1:=by rw[← hA.out,if_neg (by omega)]
    subst e1
    go_wp2
    go_ret
    exact⟨rfl,W5.out⟩
  |false=>
   obtain⟨k1,k2,k3,k4,k5,k6,k7⟩:=Ze0 h1 hl
   cases e with
   |zero=>
    rw[ZcN hz (by rw[hx];exact hl)]at hA
    obtain rfl:d=256:=by omega
    subst hA
    go_enter Tryz.func74,Tryz.ntmps74
    go_wp2_with (first
     |(with_reducible refine Zac rfl 124 rfl zNdC Zbh ?_)
     |(with_reducible refine lDr hR.out hiN.out hun ?_)
     |((with_reducible refine stW 9 21 _ 124 zNdC ?_ ?_ ?_ ?_ ?_);exact hz9.out;exact hiS.out;exact hzs.out;exact hone.out;intro w4 hg4 hb4 hs4;simp only[Vx2]at hg4 hb4;have X4:=hid (ZhC (by simp) hb4);have N4:=BoxN.heap hg4;have y1:=N4.leaf;rw[hl]at y1;have y2:=N4.l;have y3:=N4.r;have T4:=hb0.out.bel X4.out;have b4:=Zab X4.out hk0.out;have y4:=T4.ns;have y5:=T4.rt;have W4:=hid (W0.trans (X4.out.mono W0.size));clear hg4 hb4 hs4))
    go_ret
    exact⟨rfl,W4.out⟩
   |succ f=>
    rw[Zhn hz (by rw[hx];exact hl),hx]at hA
    have hfd:255-f=d:=by omega
    have hd2:d<256:=by omega
    rw[hfd]at hA
    have hge:decide ((256:Int)≤(d:Int))=false:=Vy1 (by omega)
    have hwd:IntKind.i64.wrap ((d:Int)+1)=d+1:=by rw[IntKind.wrap_i64];omega
    have hT:=fun W=>Yce b d hd2 _ rfl W
    have iL:=fun W=>ih f rfl ns[j].l b W k1 (by omega)
    have iR:=fun W=>ih f rfl ns[j].r (turnD b d) W k3 (by omega)
    have rL:=@ZnD ns f ns[j].l b
    have rR:=@ZnD ns f ns[j].r (turnD b d)
    have lt2:=hid (Zaz (turnD b d))
    have Yb0:=Zay (turnD b d).1
    have z1:(((turnD b d).1.map bv).toArray).size=32:=by simp[(turnD b d).2]
    generalize rgt ns f ns[j].l b=ra at *
    generalize rgt ns f ns[j].r (turnD b d)=rb at *
    generalize (turnD b d).1.map bv=dt at *
    clear hans ih
    replace iL:=hid iL
    replace iR:=hid iR
    replace hA:=hid hA
    go_enter Tryz.func74,Tryz.ntmps74
    go_wp2_with (first
     |(with_reducible refine Zac rfl 124 rfl zNdC Zbh ?_)
     |(with_reducible refine lDr hR.out hiN.out hun ?_)
     |((with_reducible refine stW 9 21 _ 124 zNdC ?_ ?_ ?_ ?_ ?_);exact hz9.out;exact hiS.out;exact hzs.out;exact hone.out;intro w4 hg4 hb4 hs4;simp only[Vx2]at hg4 hb4;have X4:=hid (ZhC (by simp) hb4);have N4:=BoxN.heap hg4;have y1:=N4.leaf;rw[hl]at y1;have y2:=N4.l;have y3:=N4.r;have T4:=hb0.out.bel X4.out;have b4:=Zab X4.out hk0.out;have y4:=T4.ns;have y5:=T4.rt;have W4:=hid (W0.trans (X4.out.mono W0.size));clear hg4 hb4 hs4)
     |(with_reducible refine lDr b4 hi.out hu ?_))
    refine(hT _).mono ?_
    rintro r w5 ⟨rfl,hb5⟩
    have W5:=hid (W4.out.trans (hb5.mono W4.out.size))
    have N5:=N4.bel hb5
    have T5:=T4.bel hb5
    have b5:=Zab hb5 b4
    have r5:=(hr0.out.bel X4.out).bel hb5
    have e5:=hid (Vx0 w5 (.cells z32 26))
    have hiT:=hid (show (Tryz.prog.info? 24).map (·.size)=some ([Value.slice (some ⟨q,o,none⟩) ns.length c,.int .i64 root]).length from Zah)
    clear N4 T4 b4 y1 y2 y3 y4 y5 hb5 hT X4 W4 hz9 hb0 hk0 hr0 hR
    go_wp2_with (first
     |(with_reducible refine Zac rfl 26 rfl z32 Zam ?_)
     |((with_reducible refine stW 10 36 _ 26 z32 ?_ ?_ ?_ ?_ ?_);exact e5.out;(rw[z1];exact Zai);(rw[z1];exact z32_size);exact Yb0;intro w6 hg6 hb6 hs6;have X6:=hid (ZhC rfl hb6);have N6:=N5.bel X6.out;have T6:=T5.bel X6.out;have b6:=Zab X6.out b5;have r6:=hid (r5.bel X6.out);have d6:=Zae hg6;have y2:=N6.l;have y3:=N6.r;have W6:=hid (W5.out.trans (X6.out.mono W5.out.size));clear hg6 hb6 hs6)
     |(with_reducible refine lDr T6.all hiT.out hut ?_)
     |(with_reducible refine lDr b6 hi.out hu ?_))
    refine(iL.out _ r6.out).mono ?_
    rintro r w7 ⟨rfl,hb7⟩
    have N7:=N6.bel hb7
    have T7:=T6.bel hb7
    have d7:=Zab hb7 d6
    have r7:=hid (r6.out.bel hb7)
    have W7:=hid (W6.out.trans (hb7.mono W6.out.size))
    have y7:=N7.r
    clear N5 T5 b5 r5 N6 T6 b6 d6 y2 y3 hb7 X6 W5 W6 iL e5
    by_cases hra:ra<0
    ·have e1:ans= -1:=by rw[← hA.out,if_pos hra]
     subst e1
     go_wp2
     go_ret
     exact⟨rfl,W7.out⟩
    go_wp2_with (first
     |(with_reducible refine lDr T7.all hiT.out hut ?_)
     |(with_reducible refine lDr d7 lt2.out hu ?_))
    refine(iR.out _ r7.out).mono ?_
    rintro r w8 ⟨rfl,hb8⟩
    have W8:=hid (W7.out.trans (hb8.mono W7.out.size))
    by_cases hrb:rb<0
    ·have e1:ans= -1:=by rw[← hA.out,if_neg (by omega),if_pos (.inl hrb)]
     subst e1
     go_wp2
     go_ret
     exact⟨rfl,W8.out⟩
    have hrbf:decide (rb<0)=false:=Vy1 hrb
    have hww:IntKind.i64.wrap (ra+rb)=ra+rb:=by rw[IntKind.wrap_i64];omega
    by_cases hab:ra+rb<2
    ·have e1:ans= -1:=by rw[← hA.out,if_neg (by omega),if_pos (.inr hab)]
     subst e1
     go_wp2
     go_ret
     exact⟨rfl,W8.out⟩
    ·have e1:ans=2:=by rw[← hA.out,if_neg (by omega),if_neg (by omega)]
     subst e1
     go_wp2
     go_ret
     exact⟨rfl,W8.out⟩
theorem Zoh(F:Nat→Prop)(A:Option Addr)(c:Nat)(ns:List Nd)(root:Int)(ho:Ones ns)(hc:ns.length≤9223372036854775807):∀(e d:Nat) (n:Int) (b:Dg) (w:World),e+d=256→0≤n→n≤ns.length→Row F w A ns→
  Calls Tryz.prog 74 #[.agg #[.slice A ns.length c,.int .i64 root],.int .i64 n,.int .i64 (d:Int),.agg (b.1.map bv).toArray] w fun r w'=>r=.returned (.int .i64 (rgt ns e n b))∧Below w.heap.size w w'
 |0,d,n,b,w,hd,h0,hn,hr=>ZmB F A c ns root ho hc 0 d n b w hd h0 hn hr fun f hf=>by omega
 |e+1,d,n,b,w,hd,h0,hn,hr=>ZmB F A c ns root ho hc (e+1) d n b w hd h0 hn hr fun f hf n b w h0 hn hr=>by
  obtain rfl:e=f:=by omega
  have:=Zoh F A c ns root ho hc e (d+1) n b w (by omega) h0 hn hr
  exact this
theorem ZxW(F:Nat→Prop)(A:Option Addr)(c:Nat)(ns:List Nd)(root:Int)(w:World)(hr:Row F w A ns)(hc:ns.length≤9223372036854775807):
  Calls Tryz.prog 24 #[.agg #[.slice A ns.length c,.int .i64 root]] w fun e w'=>e=.returned (.bool (mayT ⟨ns,root⟩))∧Below w.heap.size w w':=by
 obtain⟨ans,ha⟩:∃ans,mayT ⟨ns,root⟩=ans:=⟨_,rfl⟩
 have hM:mayT ⟨ns,root⟩=decide (ns.length≤262144∧0≤root∧root≤ns.length∧Ones ns∧0≤rgt ns 256 root z0):=rfl
 rw[ha]at hM ⊢
 clear ha
 have no:¬(ns.length≤262144∧0≤root∧root≤ns.length∧Ones ns∧0≤rgt ns 256 root z0)→false=ans:=fun h=>by rw[hM,Vy1 h]
 have yes:ns.length≤262144→0≤root→root≤ns.length→Ones ns→decide (0≤rgt ns 256 root z0)=ans:=fun h1 h2 h3 h4=>by rw[hM];simp[h1,h2,h3,h4]
 replace no:=hid no
 replace yes:=hid yes
 clear hM
 have T0:=BoxT.new w A ns.length c root 24
 have W0:=Zad w (.cells #[.slice A ns.length c,.int .i64 root] 24)
 have hr0:=hr.bel W0
 have y0:=T0.ns
 have y1:=T0.rt
 have hut:=Tryz.underlying24
 have hun:=Tryz.underlying124
 have hiT:=hid (show (Tryz.prog.info? 24).map (·.size)=some ([Value.slice A ns.length c,.int .i64 root]).length from Zah)
 have hz:=hid Zes
 by_cases h1:262144<ns.length
 ·replace no:=hid (no.out (by omega))
  go_enter Tryz.func24,Tryz.ntmps24
  go_wp2
  go_ret
  exact⟨Zcs no.out,W0⟩
 by_cases h2:root<0
 ·replace no:=hid (no.out (by omega))
  go_enter Tryz.func24,Tryz.ntmps24
  go_wp2
  go_ret
  exact⟨Zcs no.out,W0⟩
 by_cases h3:(ns.length:Int)<root
 ·replace no:=hid (no.out (by omega))
  go_enter Tryz.func24,Tryz.ntmps24
  go_wp2
  go_ret
  exact⟨Zcs no.out,W0⟩
 have q1:decide ((262144:Int)<(ns.length:Int))=false:=Vy1 (by omega)
 have q2:decide (root<0)=false:=Vy1 (by omega)
 have q3:decide ((ns.length:Int)<root)=false:=Vy1 (by omega)
 go_enter Tryz.func24,Tryz.ntmps24
 go_wp2
 generalize w.alloc (.cells #[.slice A ns.length c,.int .i64 root] 24)=w0 at *
 go_loopw [3] (fun i wr=>∃k:Nat,k≤ns.length∧i=.int .i64 k∧(∀ i (h:i<ns.length),i<k→oneN ns[i] i=true)∧Below w0.heap.size w0 wr) (fun i _=>ns.length-(intOf i).toNat)
 case atStart=>exact⟨0,Nat.zero_le _,rfl,fun i _ hi=>absurd hi (by omega),Below.refl _ _⟩
 case round=>
  obtain⟨k,hk,rfl,hrel,hbw⟩:=hrel
  have T1:=T0.bel hbw
  have y2:=T1.ns
  have y3:=T1.rt
  have hr1:=hr0.bel hbw
  by_cases hlt:k<ns.length
  ·obtain⟨q,o,hAe,A',c',hR,hv1,hv2,hv3,hI1,hI2⟩:=Zb7 hr1 hlt
   subst hAe
   have hiN:=hid (show (Tryz.prog.info? 124).map (·.size)=some (ndC ns[k] A' c').length by rw[ZaG];exact Zbd)
   have hO:=fun W=>Ycc F ns[k] A' c' k W (by unfold maxLen at hv2;omega) (by omega)
   have hnext:oneN ns[k] k=true→∀i (h:i<ns.length),i<k+1→oneN ns[i] i=true:=fun h i hi hi2=>by
    rcases Nat.lt_or_ge i k with h3|h3
    ·exact hrel i hi h3
    ·obtain rfl:i=k:=by omega
     exact h
   have hbad:oneN ns[k] k=false→false=ans:=fun h=>no.out fun q=>by have:=q.2.2.2.1 k hlt;rw[h]at this;cases this
   generalize oneN ns[k] k=ok at *
   generalize ndC ns[k] A' c'=cs at *
   replace hnext:=hid hnext
   replace hbad:=hid hbad
   replace hrel:=trivial
   replace hR:=hid hR
   go_wp2_with ((with_reducible refine lDr hR.out hiN.out hun ?_))
   refine(hO _).mono ?_
   rintro e w2 ⟨rfl,hb2⟩
   have W2:=hid (hbw.trans (hb2.mono hbw.size))
   cases ok
   ·go_wp2
    go_ret
    exact⟨Zcs (hbad.out (by trivial)),W0.trans (W2.out.mono W0.size)⟩
   ·go_wp2
    go_roundw
    case rel=>exact⟨k+1,by omega,by go_num,hnext.out (by trivial),W2.out⟩
    case measure=>simp[intOf];omega
  ·obtain rfl:k=ns.length:=by omega
   have ho:Ones ns:=fun i hi=>hrel i hi hi
   have hR:=fun W hW=>Zoh F A c ns root ho hc 256 0 root z0 W rfl (by omega) (by omega) hW
   have hy:=yes.out (by omega) (by omega) (by omega) ho
   generalize rgt ns 256 root z0=rv at *
   generalize z0.1.map bv=dz at *
   replace hR:=hid hR
   replace hr1:=hid hr1
   replace hrel:=trivial
   go_wp2_with (first
    |(with_reducible refine lDr T1.all hiT.out hut ?_)
    |((with_reducible refine Zaf rfl 26 _ rfl dz.toArray [] ?_ ?_ ?_);exact hz.out;rfl))
   refine(hR.out _ hr1.out).mono ?_
   rintro e w2 ⟨rfl,hb2⟩
   go_wp2
   go_ret
   exact⟨Zcs (by first|rfl|exact hy),W0.trans ((hbw.trans (hb2.mono hbw.size)).mono W0.size)⟩
theorem ZcC(F:Nat→Prop)(A:Option Addr)(c:Nat)(ns:List Nd)(root:Int)(m:Bool)(w:World)(hr:Row F w A ns)(hc:ns.length≤9223372036854775807)(hm:mayT ⟨ns,root⟩=m):
  Calls Tryz.prog 24 #[.agg #[.slice A ns.length c,.int .i64 root]] w fun e w'=>e=.returned (.bool m)∧Below w.heap.size w w':=by
 subst hm
 exact ZxW F A c ns root w hr hc
theorem Ygc(w:World)(A:Option Addr)(n c:Nat)(root:Int):
  BoxT ((w.alloc (.cells #[.slice A n c,.int .i64 root] 24)).alloc (.cells zTrC 24)) w.heap.size A n c root∧
  ((w.alloc (.cells #[.slice A n c,.int .i64 root] 24)).alloc (.cells zTrC 24)).heap[w.heap.size+1]? =some (.cells zTrC 24)∧
  Below w.heap.size w ((w.alloc (.cells #[.slice A n c,.int .i64 root] 24)).alloc (.cells zTrC 24))∧
  ((w.alloc (.cells #[.slice A n c,.int .i64 root] 24)).alloc (.cells zTrC 24)).heap.size=w.heap.size+2:=by
 have h2:=Vx0 (w.alloc (.cells #[.slice A n c,.int .i64 root] 24)) (.cells zTrC 24)
 rw[Vx2]at h2
 exact⟨(BoxT.new w A n c root _).bel (Zad _ _),h2,Zag (Zad _ _) (Zad _ _),by simp⟩
theorem Zdb(F:Nat→Prop)(A:Option Addr)(c:Nat)(ns:List Nd)(root:Int)(w:World)(hr:Row F w A ns)(hc:ns.length≤1000000)(hv:∀x∈ns,x.v.length≤1000000):
  Calls Tryz.prog 18 #[.agg #[.slice A ns.length c,.int .i64 root]] w fun e w'=>∃A' c',e=.returned (.agg #[.slice A' ns.length c',.int .i64 root])∧OwnR 124 w' w.heap.size A' c' ns∧Below w.heap.size w w':=by
 obtain⟨T0,h1,W0,hsz⟩:=Ygc w A ns.length c root
 have hr0:=(hr.mono (G:=fun b=>b<w.heap.size) fun b _ h=>h).bel W0
 have hun:=Tryz.underlying124
 have hut:=Tryz.underlying24
 have y0:=T0.rt
 have hbu:=hid (YcB root)
 replace h1:=hid h1
 replace hsz:=hid hsz
 replace hr0:=hid hr0
 replace T0:=hid T0
 replace hv:=hid hv
 go_enter Tryz.func18,Tryz.ntmps18
 go_wp2_with (first
  |(with_reducible refine Zac rfl 24 rfl zTrC Zas ?_)
  |((with_reducible refine Zaf rfl 24 _ rfl #[Value.slice none 0 0,.int .i64 root] [(1,.int .i64 root)] ?_ ?_ ?_);exact hbu.out;rfl)
  |((with_reducible refine stW 3 8 _ 24 zTrC ?_ ?_ ?_ ?_ ?_);(first|exact Vx0 _ _|(have e:=Vx0 ((w.alloc (.cells #[.slice A ns.length c,.int .i64 root] 24)).alloc (.cells zTrC 24)) (.cells zTrC 24);simp only[Vx2]at e;exact e));exact Zah;rfl;exact Zfu none 0 0 root;intro w1 hg1 hb1 hs1;try simp only[Vx2]at hg1 hb1 hs1;have X1:=hid (ZhC (by simp) hb1)))
 generalize (w.alloc (.cells #[.slice A ns.length c,.int .i64 root] 24)).alloc (.cells zTrC 24)=w0 at *
 have W1:=hid (W0.trans (X1.out.mono W0.size))
 have T1:=T0.out.bel X1.out
 have r1:=hid (hr0.out.bel X1.out)
 have z1:=hid ((X1.out.block _ (block_lt h1.out)).trans h1.out)
 have s1:w1.heap.size=w.heap.size+3:=hs1
 clear hb1 X1 h1 hr0 T0 hs1 hsz W0 y0
 replace s1:=hid s1
 go_loopw [4] (fun i wr=>∃(j:Nat) (A6:Option Addr) (c6:Nat),j≤ns.length∧i=.int .i64 j∧wr.heap[w.heap.size+1+1]? =some (.cells #[.slice A6 (ns.take j).length c6,.int .i64 root] 24 (0,0))∧OwnR 124 wr w1.heap.size A6 c6 (ns.take j)∧Below (w.heap.size+1+1) w1 wr) (fun i _=>ns.length-(intOf i).toNat)
 case atStart=>exact⟨0,none,0,Nat.zero_le _,rfl,hg1,OwnR.nil _ _,Below.refl _ _⟩
 case round=>
  obtain⟨j,A6,c6,hj,rfl,hgr,hown,hbw⟩:=hrel
  have T2:=BoxT.of (Zak T1.all (fun _=>hbw.block _ (by omega)))
  have r2:=r1.out.kept (fun b hb _=>hbw.block b (by omega)) hbw.size
  have y2:=T2.ns
  have hxl:(ns.take j).length=j:=by rw[List.length_take];omega
  by_cases hlt:j<ns.length
  ·have E:=hid (Vy5 hlt)
   have hv1:=hv.out _ (List.getElem_mem hlt)
   obtain⟨q,o,hAe,A',c',hR,hv2,hv3,hv4,hI1,hI2⟩:=Zb7 r2 hlt
   subst hAe
   have hiN:=fun A2 c2=>hid (show (Tryz.prog.info? 124).map (·.size)=some (ndC ns[j] A2 c2).length by rw[ZaG];exact Zbd)
   have hiS:=fun A2 c2=>hid (show (Tryz.prog.info? 124).map (·.size)=some (ndC ns[j] A2 c2).toArray.size by rw[Vx7,ZaG];exact Zbd)
   have hzs:=fun A2 c2=>hid (show zNdC.size=(ndC ns[j] A2 c2).toArray.size by rw[ZbY,Vx7,ZaG])
   have hone:=fun A2 c2=>hid (ZcZ ns[j] A2 c2)
   have hset:=fun A2 c2=>ZzY ns[j] A' A2 c' c2
   have hlN:=fun A2 c2=>hid (show (ndC ns[j] A2 c2).length=Enc.size Nd from ZaG ns[j] A2 c2)
   have hbk:=hid hown.blk
   have hz9:=hid (Vx0 wr (.cells zNdC 124))
   have hrd:=hid hv4.rd
   have hrn:=fun (W:World) (A2:Option Addr) (c2 B:Nat) (h:Own 5 W B A2 c2 ns[j].v)=>Zxf ns[j] h hI1 hI2
   have hTw:=fun W (hW:Rd W A' ns[j].v)=>Zbe A' ns[j].v.length c' ns[j].v W hW rfl (by omega)
   have hBN:=fun (W:World) (g:Nat) (tt:TypeId) (h:W.heap[g]? =some (.cells (ndC ns[j] A' c').toArray tt (0,0)))=>BoxN.heap h
   have hsw:=hid hbw.size
   generalize hy:ns.take (j+1)=y at *
   generalize hx0:ns.take j=x0 at *
   generalize hxx:ns[j]=x at *
   replace hy:=hid hy
   replace hgr:=hid hgr
   replace hown:=hid hown
   replace hbw:=hid hbw
   replace hR:=hid hR
   replace hTw:=hid hTw
   replace hBN:=hid hBN
   replace hset:=hid hset
   replace hrn:=hid hrn
   replace hxl:=hid hxl
   clear hx0 hxx hv4 hv2 hv3 r2 T2 hI1 hI2
   go_wp2_with (first
    |(with_reducible refine Zac rfl 124 rfl zNdC Zbh ?_)
    |(with_reducible refine lDr hR.out (hiN A' c').out hun ?_)
    |((with_reducible refine stW 5 20 _ 124 zNdC ?_ ?_ ?_ ?_ ?_);exact hz9.out;exact(hiS A' c').out;exact(hzs A' c').out;exact(hone A' c').out;intro w4 hg4 hb4 hs4;have X4:=hid (ZhC rfl hb4);have N4:=hBN.out _ _ _ hg4;have y4:=N4.val;have G4:=hid hg4;clear hg4 hb4 hs4))
   refine(hTw.out _ (hrd.out.bel X4.out)).mono ?_
   rintro e w5 ⟨A5,c5,rfl,ho5,hb5⟩
   have g5:=(hb5.block _ (block_lt G4.out)).trans G4.out
   have lt4:=hid (block_lt G4.out)
   have f5:=Zap g5 33
   have k5:=(hb5.cell (Vx5 _ _ y4)).trans y4
   have g6:=ZaD g5 33 (.slice A5 x.v.length c5)
   rw[hset.out]at g6
   have G6:=hid (Zae g6)
   have Wa:=hid (X4.out.trans (hb5.mono X4.out.size))
   have B6:=hid (Wa.out.setCell (p:=⟨wr.heap.size,33,none⟩) (Vx8 _) (.slice A5 x.v.length c5))
   have own6:=hid (hown.out.bel B6.out)
   have o6:Own 5 (w5.setCell ⟨wr.heap.size,33,none⟩ (.slice A5 x.v.length c5)) w4.heap.size A5 c5 x.v:=ownsRow_setCell_below ho5 lt4.out _
   have gr6:=(B6.out.block _ (block_lt hgr.out)).trans hgr.out
   have cg6:=(Zaq gr6 0)
   have s6:=hid (show w1.heap.size≤w5.heap.size from Vx1 hsw.out Wa.out.size)
   replace o6:=hid o6
   have Gr6:=hid gr6
   have ltg:=hid (block_lt hgr.out)
   clear y4 N4 g5 g6 G4 ho5 hb5 gr6 hown hset hBN hTw hrd hR
   simp only[List.getElem?_toArray,List.getElem?_cons_zero]at cg6
   go_wp2_with (first
    |(with_reducible refine lDr G6.out (hiN A5 c5).out hun ?_)
    |((with_reducible refine ZaC slotNd (by decide) rfl (.tmp 27) rfl (ndC x A5 c5) ?_ (hlN A5 c5).out ?_);rfl)
    |(at_builtin;refine ZbG slotNd rfl (.tmp 26) (.tmp 28) rfl w1.heap.size w1.heap.size A6 _ x0.length 1 c6 1 x0 [x] (fun b=>∃a,A5=some a∧b=a.block) rfl rfl rfl rfl (own6.out.alloc _) (ZaE (hrn.out _ A5 c5 _ o6.out)) (fun b hb=>by obtain⟨a,ha,rfl⟩:=hb;exact⟨Vx1 hsw.out (Vx1 (Nat.le_of_lt lt4.out) (o6.out.blk a ha).1),(o6.out.soft a ha).2.kept ((Zad _ _).block _ (o6.out.soft a ha).2.lt),fun a6 h6 e6=>by have h7:=(hbk.out a6 h6).2;have h8:=(o6.out.blk a ha).1;have h9:=lt4.out;omega⟩) (by have:=hxl.out;simp only[List.length_singleton];omega) (Vx1 hsw.out (Vx1 B6.out.size (Zad _ _).size)) ?_;intro A8 c8 w8 ho8 hb8;have gr8:=(hb8.block (w.heap.size+1+1) (by have:=s1.out;omega)).trans (((Zad _ _).block _ (block_lt Gr6.out)).trans Gr6.out);have fg8:=Zap gr8 0;have cg8:=Zaq gr8 0;simp only[List.getElem?_toArray,List.getElem?_cons_zero]at cg8;have own8:=hid ho8;have W8:=hid (hbw.out.trans (((B6.out.mono (Nat.le_of_lt ltg.out)).trans ((Zad _ (.cells (ndC x A5 c5).toArray 124)).mono (Vx1 (Nat.le_of_lt ltg.out) B6.out.size))).trans (hb8.mono (by have:=s1.out;omega))));have Gr8:=hid gr8;clear gr8 ho8 hb8))
   go_roundw
   case rel=>
    refine⟨j+1,A8,c8,by omega,by go_num,?_,?_,W8.out.setCell (p:=⟨w.heap.size+1+1,0,none⟩) (Vx8 _) _⟩
    ·have h9:=ZaD Gr8.out 0 (Value.slice A8 (x0.length+1) c8)
     rw[hy.out,E.out,Vx3]
     exact h9
    ·rw[hy.out,E.out]
     exact OwnQ.keptG (g:=w.heap.size+1+1) own8.out (fun b hl hne=>Vy3 _ _ _ _ hne) (by have:=s1.out;omega) (by have:=s1.out;omega)
   case measure=>simp[intOf];omega
  ·obtain rfl:j=ns.length:=by omega
   rw[List.take_length]at hgr hown
   have G8:=hid (Zae (l:=[Value.slice A6 ns.length c6,.int .i64 root]) hgr)
   have z8:=hid ((hbw.block (w.heap.size+1) (by omega)).trans z1.out)
   have hi8:=hid (show (Tryz.prog.info? 24).map (·.size)=some ([Value.slice A6 ns.length c6,.int .i64 root]).length from Zah)
   have W8:=hid (W1.out.trans (hbw.mono (by omega)))
   have own8:=hid hown
   clear hgr hown hxl
   go_wp2_with (first
    |(with_reducible refine lDr G8.out hi8.out hut ?_)
    |((with_reducible refine stW 2 31 (w.heap.size+1) 24 zTrC ?_ ?_ ?_ ?_ ?_);exact z8.out;exact Zah;rfl;exact Zfu A6 ns.length c6 root;intro w9 hg9 hb9 hs9))
   exact Vy0 (results_cell_row Tryz.results18 _ _ (w.heap.size+1) 24 _ (0,0) _ rfl hg9 hut rfl Zah) rfl ⟨A6,c6,rfl,OwnR.base (OwnQ.keptG own8.out (fun b hl hne=>hb9.block b hl (fun e=>hne (by injection e))) (by have:=s1.out;omega) (by have:=s1.out;omega)) W1.out.size,W8.out.grown hb9 W8.out.size (fun g e=>by injection e with e;omega)⟩
theorem ZqQ(F:Nat→Prop)(A:Option Addr)(c:Nat)(ns:List Nd)(root:Int)(ho:Ones ns)(hc:ns.length≤1000000)(e:Nat)(n:Int)(b:Dg)(w:World)(he:e≤256)(hzr:Zr (256-e) b)(h0:0≤n)(hn:n≤ns.length)(hrg:0≤rgt ns e n b)(hr:Row F w A ns)
  (ih:∀f,e=f+1→∀(n:Int) (b:Dg) (w:World),Zr (256-f) b→0≤n→n≤ns.length→0≤rgt ns f n b→Row F w A ns→
   Calls Tryz.prog 75 #[.agg #[.slice A ns.length c,.int .i64 root],.int .i64 n] w fun r w'=>∃A' c',r=.returned (.slice A' (forP ns f n).length c')∧OwnR 84 w' w.heap.size A' c' (forP ns f n)∧Below w.heap.size w w'):
  Calls Tryz.prog 75 #[.agg #[.slice A ns.length c,.int .i64 root],.int .i64 n] w fun r w'=>∃A' c',r=.returned (.slice A' (forP ns e n).length c')∧OwnR 84 w' w.heap.size A' c' (forP ns e n)∧Below w.heap.size w w':=by
 have hb0:=BoxT.new w A ns.length c root 24
 have W0:=Zad w (.cells #[.slice A ns.length c,.int .i64 root] 24)
 have hu:=Tryz.underlying26
 have hun:=Tryz.underlying124
 have hut:=Tryz.underlying24
 by_cases hz:n=0
 ·subst hz
  rw[ZaU]
  go_enter Tryz.func75,Tryz.ntmps75
  go_wp2
  go_ret
  exact⟨none,0,rfl,OwnR.nil _ _,W0⟩
 ·obtain⟨j,hj,rfl,hx,h1⟩:=Zc6 ho (by omega) hn
  have hr0:=hr.bel W0
  obtain⟨q,o,rfl,A',c',hR,hv1,hv2,hv3,hI1,hI2⟩:=Zb7 hr0 hj
  have hw:IntKind.i64.wrap ((j:Int)+1-1)=j:=by rw[IntKind.wrap_i64];omega
  have hne:((j:Int)+1==0)=false:=beq_eq_false_iff_ne.2 hz
  have hiN:=hid (show (Tryz.prog.info? 124).map (·.size)=some (ndC ns[j] A' c').length by rw[ZaG];exact Zbd)
  have hiS:=hid (show (Tryz.prog.info? 124).map (·.size)=some (ndC ns[j] A' c').toArray.size by rw[Vx7,ZaG];exact Zbd)
  have hzs:=hid (show zNdC.size=(ndC ns[j] A' c').toArray.size by rw[ZbY,Vx7,ZaG])
  have hone:=hid (ZcZ ns[j] A' c')
  have hz9:=hid (Vx0 (w.alloc (.cells #[.slice (some ⟨q,o,none⟩) ns.length c,.int .i64 root] 24)) (.cells zNdC 124))
  have v0:=hid hv3.rd
  replace hR:=hid hR
  replace hr0:=hid hr0
  have hbT:=hb0.ns
  replace hb0:=hid hb0
  cases hl:ns[j].leaf with
  |true=>
   rw[ZaT hz (by rw[hx];exact hl),hx]
   have hvb:=(Zgu h1 hl).1
   have hvl:ns[j].v.length≤64:=by unfold valB at hvb;simp at hvb;omega
   have hik:=hid (Zaz ns[j].k)
   have hlp:=fun x=>Zbq ns[j].k x
   replace hlp:=hid hlp
   go_enter Tryz.func75,Tryz.ntmps75
   go_wp2_with (first
    |(with_reducible refine Zac rfl 124 rfl zNdC Zbh ?_)
    |(with_reducible refine lDr hR.out hiN.out hun ?_)
    |((with_reducible refine stW 5 13 _ 124 zNdC ?_ ?_ ?_ ?_ ?_);(first|exact hz9.out|(have e:=hz9.out;simp only[Vx2]at e;exact e));exact hiS.out;exact hzs.out;exact hone.out;intro w4 hg4 hb4 hs4;try simp only[Vx2]at hg4 hb4;have X4:=hid (ZhC (by simp) hb4);have N4:=BoxN.heap hg4;have y1:=N4.leaf;rw[hl]at y1;have y2:=N4.l;have y3:=N4.r;have y6:=N4.val;have T4:=hb0.out.bel X4.out;have y4:=T4.ns;have W4:=hid (W0.trans (X4.out.mono W0.size));clear hg4 hb4 hs4))
   have v4:=hid (v0.out.bel X4.out)
   have k4:=N4.key
   refine rgB fun hHeld=>?_
   refine' tkP 0 rfl ?_
   refine' tkM 1 rfl (fun _ h=>Zab h k4) hu hik.out ?_
   refine' tkP 2 rfl ?_
   refine' tkC 3 rfl y6 ?_
   simp only[sQ]
   refine rdH 4 rfl fun K hK=>?_
   go_simp
   have hH7:=hid (Vx1 W4.out.size hHeld.size)
   refine(Zbe A' ns[j].v.length c' ns[j].v _ (v4.out.bel hHeld) rfl (by omega)).mono ?_
   rintro e7 w7 ⟨A5,c5,rfl,ho5,hB⟩
   go_wp2_with fail
   refine kB hK hHeld hB fun hHeld=>?_
   clear hK K
   try simp only[sQ]
   refine' tkH 5 rfl (Yb1 (by rfl) _ _ rfl _ _ (ZbK ns[j].k (.slice A5 ns[j].v.length c5) rfl) rfl) ?_
   simp only[sQ]
   refine rdH 6 rfl fun K hK=>?_
   have hHw:=hid hHeld.size
   refine ZbE slotPr (by decide) rfl (.tmp 21) rfl _ rfl (hlp.out _) ?_
   refine hK.out _ _ (hHeld.trans ((Zad _ _).mono hHeld.size)) fun hHeld=>?_
   clear hK K
   try simp only[sQ]
   refine' tkP 7 rfl ?_
   simp only[sQ]
   refine dnN ?_
   go_wp2
   go_ret
   refine⟨_,_,rfl,(OwnR.one (Zbb ho5) (fun b hb=>?_) (Vx1 W4.out.size hHw.out)),W4.out.trans (hHeld.mono W4.out.size)⟩
   obtain⟨a,ha,rfl⟩:=hb
   exact⟨Vx1 hH7.out (ho5.soft a ha).1,(ho5.soft a ha).2⟩
  |false=>
   obtain⟨f,hf,r1,r2,_,_⟩:=Za2 hz (by rw[hx];exact hl) hrg
   subst hf
   rw[ZbV hz (by rw[hx];exact hl),hx]
   rw[hx]at r1 r2
   obtain⟨k1,k2,k3,k4,k5,k6,k7⟩:=Ze0 h1 hl
   have hd1:256-f=256-(f+1)+1:=by omega
   have hd2:255-f=256-(f+1):=by omega
   have z1:Zr (256-f) b:=by rw[hd1];exact Zeb hzr
   have z2:Zr (256-f) (turnD b (255-f)):=by rw[hd1,hd2];exact Zec hzr (by omega)
   have lenL:=ZgN (by omega) z1 r1
   have lenR:=ZgN (by omega) z2 r2
   have iL:=fun W hW=>ih f rfl ns[j].l b W z1 k1 (by omega) r1 hW
   have iR:=fun W hW=>ih f rfl ns[j].r _ W z2 k3 (by omega) r2 hW
   have hiT:=hid (show (Tryz.prog.info? 24).map (·.size)=some ([Value.slice (some ⟨q,o,none⟩) ns.length c,.int .i64 root]).length from Zah)
   generalize forP ns f ns[j].l=xl at *
   generalize forP ns f ns[j].r=xr at *
   have hlen:=hid (show (xl.length+xr.length) * (56+1)≤140737488355328 by omega)
   replace iL:=hid iL
   replace iR:=hid iR
   clear ih r1 r2 z1 z2 hzr hrg lenL lenR
   go_enter Tryz.func75,Tryz.ntmps75
   go_wp2_with (first
    |(with_reducible refine Zac rfl 124 rfl zNdC Zbh ?_)
    |(with_reducible refine lDr hR.out hiN.out hun ?_)
    |((with_reducible refine stW 5 13 _ 124 zNdC ?_ ?_ ?_ ?_ ?_);(first|exact hz9.out|(have e:=hz9.out;simp only[Vx2]at e;exact e));exact hiS.out;exact hzs.out;exact hone.out;intro w4 hg4 hb4 hs4;try simp only[Vx2]at hg4 hb4;have X4:=hid (ZhC (by simp) hb4);have N4:=BoxN.heap hg4;have y1:=N4.leaf;rw[hl]at y1;have y2:=N4.l;have y3:=N4.r;have y6:=N4.val;have T4:=hb0.out.bel X4.out;have y4:=T4.ns;have W4:=hid (W0.trans (X4.out.mono W0.size));clear hg4 hb4 hs4))
   have r4:=hid (hr0.out.bel X4.out)
   refine rgB fun hHeld=>?_
   refine' tkM 0 rfl (fun _ h=>Zab h T4.all) hut hiT.out ?_
   refine' tkP 1 rfl ?_
   refine' tkC 2 rfl y2 ?_
   refine' tkM 4 rfl (fun _ h=>Zab h T4.all) hut hiT.out ?_
   simp only[sQ]
   refine' tkP 5 rfl ?_
   refine' tkC 6 rfl y3 ?_
   simp only[sQ]
   refine rdH 3 rfl fun K hK=>?_
   go_simp
   refine(iL.out _ (r4.out.bel hHeld)).mono ?_
   rintro e7 w7 ⟨A5,c5,rfl,ho5,hB⟩
   go_wp2_with fail
   refine kB hK hHeld hB fun hHeld=>?_
   clear hK K
   try simp only[sQ]
   refine rdH 7 rfl fun K hK=>?_
   go_simp
   have hs7:=hHeld.size
   refine(iR.out _ (r4.out.bel hHeld)).mono ?_
   rintro e8 w8 ⟨A6,c6,rfl,ho6,hB⟩
   have own5:OwnR 84 w8 w4.heap.size A5 c5 xl:=OwnR.base (ho5.bel hB) (Vx8 _)
   go_wp2_with fail
   refine kB hK hHeld hB fun hHeld=>?_
   clear hK K
   try simp only[sQ]
   refine rdH 8 rfl fun K hK=>?_
   obtain⟨F2,p1,p2⟩:=ho6
   refine Zgc slotPr rfl (.tmp 26) (.tmp 30) rfl w4.heap.size w4.heap.size A5 A6 xl.length xr.length c5 c6 xl xr F2 rfl rfl rfl rfl own5 p1.src (fun b hb=>⟨Vx1 hs7 (p2 b hb).1,(p2 b hb).2,fun a ha e=>by have h5:=(ho5.blk a ha).2;have h6:=(p2 b hb).1;omega⟩) hlen.out hHeld.size ?_
   intro A9 c9 w9 ho9 hB9
   refine hK.out _ _ (hHeld.trans hB9) fun hHeld=>?_
   clear hK K
   try simp only[sQ]
   refine' tkP 9 rfl ?_
   simp only[sQ]
   refine dnN ?_
   go_wp2
   go_ret
   exact⟨A9,c9,by first|rfl|(rw[Vx3];rfl)|simp,OwnR.base ho9 W4.out.size,W4.out.trans (hHeld.mono W4.out.size)⟩
theorem Zo7(F:Nat→Prop)(A:Option Addr)(c:Nat)(ns:List Nd)(root:Int)(ho:Ones ns)(hc:ns.length≤1000000):∀(e:Nat) (n:Int) (b:Dg) (w:World),e≤256→Zr (256-e) b→0≤n→n≤ns.length→0≤rgt ns e n b→Row F w A ns→
  Calls Tryz.prog 75 #[.agg #[.slice A ns.length c,.int .i64 root],.int .i64 n] w fun r w'=>∃A' c',r=.returned (.slice A' (forP ns e n).length c')∧OwnR 84 w' w.heap.size A' c' (forP ns e n)∧Below w.heap.size w w'
 |0,n,b,w,he,hz,h0,hn,hg,hr=>ZqQ F A c ns root ho hc 0 n b w he hz h0 hn hg hr fun f hf=>by omega
 |e+1,n,b,w,he,hz,h0,hn,hg,hr=>ZqQ F A c ns root ho hc (e+1) n b w he hz h0 hn hg hr fun f hf n b w hz h0 hn hg hr=>by
  obtain rfl:e=f:=by omega
  exact Zo7 F A c ns root ho hc e n b w (by omega) hz h0 hn hg hr
theorem ZbT(F:Nat→Prop)(A:Option Addr)(c:Nat)(ns:List Nd)(root:Int)(w:World)(hr:Row F w A ns)(hc:ns.length≤1000000)(hm:mayT ⟨ns,root⟩=true):
  Calls Tryz.prog 26 #[.agg #[.slice A ns.length c,.int .i64 root]] w fun e w'=>∃A' c',e=.returned (.slice A' (allT ⟨ns,root⟩).length c')∧OwnR 84 w' w.heap.size A' c' (allT ⟨ns,root⟩)∧Below w.heap.size w w':=by
 obtain⟨-,m1,m2,ho,m3⟩:=ZaX.1 hm
 dsimp only at m1 m2 ho m3
 have T0:=BoxT.new w A ns.length c root 24
 have W0:=Zad w (.cells #[.slice A ns.length c,.int .i64 root] 24)
 have hF:=hid (Zo7 F A c ns root ho hc 256 root z0 _ (Vx8 _) Zfk m1 m2 m3 (hr.bel W0))
 have hut:=Tryz.underlying24
 have hiT:=hid (show (Tryz.prog.info? 24).map (·.size)=some ([Value.slice A ns.length c,.int .i64 root]).length from Zah)
 have y1:=T0.rt
 unfold allT
 dsimp only
 generalize forP ns 256 root=L at *
 go_enter Tryz.func26,Tryz.ntmps26
 go_wp2_with ((with_reducible refine lDr T0.all hiT.out hut ?_))
 refine hF.out.mono ?_
 rintro e w2 ⟨A2,c2,rfl,ho2,hb⟩
 go_wp2
 go_ret
 exact⟨A2,c2,rfl,OwnR.base ho2 W0.size,W0.trans (hb.mono W0.size)⟩
end Go.Proofs.YtomhoehlgagiiaaGreatDoor
