import Derived.Test.YtimaoonpgilekaaDoorMem
set_option maxRecDepth 100000
set_option linter.all false
namespace Go.Proofs.YtimaoonpgilekaaDoor
open Go.RowKit
def kb(l:List UInt8)(i:Nat):Nat:=(l.getD (i / 8) 0).toNat / 2 ^ (7-i % 8) % 2
theorem Zeu(l:List UInt8)(i:Nat):kb l i<2:=Nat.mod_lt _ (by omega)
def shFrom(a b:List UInt8):Nat→Nat→Nat
 |0,n=>n
 |f+1,n=>if kb a n=kb b n then shFrom a b f (n+1) else n
def shared(a b:List UInt8):Nat:=shFrom a b 256 0
theorem Zjm(a b:List UInt8):∀f n:Nat,n≤shFrom a b f n∧shFrom a b f n≤n+f∧(∀ i,n≤i→i<shFrom a b f n→kb a i=kb b i)∧(shFrom a b f n<n+f→kb a (shFrom a b f n)≠kb b (shFrom a b f n)):=by
 intro f
 induction f with
 |zero=>intro n;exact⟨Vx8 _,Vx8 _,fun i h1 h2=>by simp only[shFrom]at h2;omega,fun h=>by simp only[shFrom]at h;omega⟩
 |succ f ih=>
  intro n
  unfold shFrom
  by_cases h:kb a n=kb b n
  ·rw[if_pos h]
   obtain⟨h1,h2,h3,h4⟩:=ih (n+1)
   refine⟨by omega,by omega,fun i hi1 hi2=>?_,fun hlt=>h4 (by omega)⟩
   by_cases he:i=n
   ·rw[he];exact h
   ·exact h3 i (by omega) hi2
  ·rw[if_neg h]
   exact⟨Vx8 _,by omega,fun i h1 h2=>by omega,fun _=>h⟩
theorem Zey(a b:List UInt8):shared a b≤256:=by have:=(Zjm a b 256 0).2.1;unfold shared;omega
theorem Zb5{a b:List UInt8}{i:Nat}(h:i<shared a b):kb a i=kb b i:=(Zjm a b 256 0).2.2.1 i (Nat.zero_le _) h
theorem ZdX{a b:List UInt8}(h:shared a b<256):kb a (shared a b)≠kb b (shared a b):=(Zjm a b 256 0).2.2.2 (by unfold shared at h;omega)
theorem ZdL{a b:List UInt8}{n:Nat}(hn:n≤256)(h1:∀i,i<n→kb a i=kb b i)(h2:n<256→kb a n≠kb b n):shared a b=n:=by
 have hl:=Zey a b
 rcases Nat.lt_trichotomy (shared a b) n with h|h|h
 ·exact absurd (h1 _ h) (ZdX (by omega))
 ·exact h
 ·exact absurd (Zb5 h) (h2 (by omega))
theorem YcF{x y:UInt8}(h:∀p,p<8→x.toNat / 2 ^ (7-p) % 2=y.toNat / 2 ^ (7-p) % 2):x=y:=by
 have h0:=h 0 (by omega);have h1:=h 1 (by omega);have h2:=h 2 (by omega);have h3:=h 3 (by omega)
 have h4:=h 4 (by omega);have h5:=h 5 (by omega);have h6:=h 6 (by omega);have h7:=h 7 (by omega)
 have hx:=x.toNat_lt
 have hy:=y.toNat_lt
 simp only[Nat.reduceSub,Nat.reducePow]at h0 h1 h2 h3 h4 h5 h6 h7 hx hy
 apply UInt8.toNat_inj.1
 omega
theorem ZkS{a b:List UInt8}(ha:a.length=32)(hb:b.length=32)(h:∀i,i<256→kb a i=kb b i):a=b:=by
 apply List.ext_getElem (by omega)
 intro m h1 h2
 apply YcF
 intro p hp
 have h3:=h (8 * m+p) (by omega)
 unfold kb at h3
 rw[show (8 * m+p) / 8=m by omega,show (8 * m+p) % 8=p by omega]at h3
 simpa [List.getD,h1,h2] using h3
theorem Zle{a b:List UInt8}(ha:a.length=32)(hb:b.length=32):shared a b=256↔a=b:=by
 constructor
 ·intro h
  exact ZkS ha hb fun i hi=>Zb5 (by omega)
 ·rintro rfl
  exact ZdL (Vx8 _) (fun _ _=>rfl) (fun h=>by omega)
def ahead(a b:List UInt8):Bool:=decide (shared a b<256∧kb a (shared a b)<kb b (shared a b))
theorem Ze8{a b:List UInt8}:ahead a b=true↔∃n,n<256∧(∀ i,i<n→kb a i=kb b i)∧kb a n<kb b n:=by
 unfold ahead
 rw[decide_eq_true_eq]
 constructor
 ·intro ⟨h1,h2⟩
  exact⟨_,h1,fun i hi=>Zb5 hi,h2⟩
 ·intro ⟨n,h1,h2,h3⟩
  have e:shared a b=n:=ZdL (by omega) h2 (fun _=>by omega)
  rw[e]
  exact⟨h1,h3⟩
theorem Zee(a:List UInt8):ahead a a=false:=by
 unfold ahead
 rw[decide_eq_false_iff_not]
 omega
theorem Zg6{a b:List UInt8}(h:ahead a b=true):ahead b a=false:=by
 obtain⟨n,h1,h2,h3⟩:=Ze8.1 h
 have e:shared b a=n:=ZdL (by omega) (fun i hi=>(h2 i hi).symm) (fun _=>by omega)
 unfold ahead
 rw[decide_eq_false_iff_not,e]
 omega
theorem Zup{a b:List UInt8}(ha:a.length=32)(hb:b.length=32)(h:a≠b):ahead a b=true∨ahead b a=true:=by
 have h1:shared a b<256:=by
  rcases Nat.lt_or_ge (shared a b) 256 with h1|h1
  ·exact h1
  ·exact absurd ((Zle ha hb).1 (by have:=Zey a b;omega)) h
 have h2:=ZdX h1
 rcases Nat.lt_or_gt_of_ne h2 with h3|h3
 ·exact .inl (Ze8.2 ⟨_,h1,fun i hi=>Zb5 hi,h3⟩)
 ·exact .inr (Ze8.2 ⟨_,h1,fun i hi=>(Zb5 hi).symm,h3⟩)
theorem Zg8{a b c:List UInt8}(h:ahead a b=true)(k:ahead b c=true):ahead a c=true:=by
 obtain⟨n,h1,h2,h3⟩:=Ze8.1 h
 obtain⟨m,k1,k2,k3⟩:=Ze8.1 k
 rw[Ze8]
 have la:=Zeu a n
 have lb:=Zeu b n
 have lb2:=Zeu b m
 have lc:=Zeu c m
 rcases Nat.lt_trichotomy n m with hh|hh|hh
 ·exact⟨n,h1,fun i hi=>(h2 i hi).trans (k2 i (by omega)),by rw[← k2 n hh];exact h3⟩
 ·subst hh;omega
 ·exact⟨m,k1,fun i hi=>(h2 i (by omega)).trans (k2 i hi),by rw[h2 m hh];exact k3⟩
def tbyte(c:UInt8)(p:Nat):UInt8:=if c.toNat / 2 ^ (7-p) % 2=1 then UInt8.ofNat (c.toNat-2 ^ (7-p)) else UInt8.ofNat (c.toNat+2 ^ (7-p))
def turn(l:List UInt8)(i:Nat):List UInt8:=l.set (i / 8) (tbyte (l.getD (i / 8) 0) (i % 8))
theorem Zgd(l:List UInt8)(i:Nat):(turn l i).length=l.length:=by simp[turn]
theorem Zxv:∀c:Fin 256,∀p q:Fin 8,(tbyte (UInt8.ofNat c.val) p.val).toNat / 2 ^ (7-q.val) % 2=if q=p then 1-c.val / 2 ^ (7-p.val) % 2 else c.val / 2 ^ (7-q.val) % 2:=by decide +kernel
theorem Ybz(c:UInt8)(p q:Nat)(hp:p<8)(hq:q<8):(tbyte c p).toNat / 2 ^ (7-q) % 2=if q=p then 1-c.toNat / 2 ^ (7-p) % 2 else c.toNat / 2 ^ (7-q) % 2:=by
 have h:=Zxv ⟨c.toNat,c.toNat_lt⟩ ⟨p,hp⟩ ⟨q,hq⟩
 simp only[UInt8.ofNat_toNat,Fin.mk.injEq]at h
 exact h
theorem ZfD(l:List UInt8)(i j:Nat)(hl:l.length=32)(hi:i<256)(hj:j<256):kb (turn l i) j=if j=i then 1-kb l i else kb l j:=by
 unfold kb turn
 by_cases h:i / 8=j / 8
 ·have e:(l.set (i / 8) (tbyte (l.getD (i / 8) 0) (i % 8))).getD (j / 8) 0=tbyte (l.getD (i / 8) 0) (i % 8):=by
   rw[List.getD_eq_getElem?_getD,List.getElem?_set,if_pos h,if_pos (by omega)];rfl
  rw[e,Ybz _ _ _ (Nat.mod_lt _ (by omega)) (Nat.mod_lt _ (by omega)),←h]
  by_cases h2:j % 8=i % 8
  ·rw[if_pos h2,if_pos (by omega)]
  ·rw[if_neg h2,if_neg (by intro h3;rw[h3]at h2;exact h2 rfl)]
 ·have e:(l.set (i / 8) (tbyte (l.getD (i / 8) 0) (i % 8))).getD (j / 8) 0=l.getD (j / 8) 0:=by
   rw[List.getD_eq_getElem?_getD,List.getElem?_set,if_neg h,←List.getD_eq_getElem?_getD]
  rw[e,if_neg (by intro h3;rw[h3]at h;exact h rfl)]
def valB(v:List UInt8):Bool:=decide (1≤v.length∧v.length≤64)
def chain:List Pr→Bool
 |[]=>true
 |[p]=>valB p.v
 |p::q::r=>valB p.v&&ahead p.k.1 q.k.1&&chain (q::r)
def mayP(ps:List Pr):Bool:=decide (ps.length≤512)&&chain ps
abbrev Srt (ps:List Pr):Prop:=ps.Pairwise fun p q=>ahead p.k.1 q.k.1=true
theorem ZgL:∀ps:List Pr,chain ps=true→Srt ps∧∀p∈ps,valB p.v=true
 |[],_=>⟨List.Pairwise.nil,by simp⟩
 |[p],h=>⟨by simp,by simpa [chain] using h⟩
 |p::q::r,h=>by
  simp only[chain,Bool.and_eq_true]at h
  obtain⟨h1,h2⟩:=ZgL (q::r) h.2
  refine⟨List.Pairwise.cons ?_ h1,?_⟩
  ·intro x hx
   rcases List.mem_cons.1 hx with rfl|hx
   ·exact h.1.2
   ·exact Zg8 h.1.2 ((List.pairwise_cons.1 h1).1 x hx)
  ·intro x hx
   rcases List.mem_cons.1 hx with rfl|hx
   ·exact h.1.1
   ·exact h2 x hx
theorem Zsq:∀ps:List Pr,Srt ps→(∀ p∈ps,valB p.v=true)→chain ps=true
 |[],_,_=>rfl
 |[p],_,h=>by simpa [chain] using h
 |p::q::r,h1,h2=>by
  simp only[chain,Bool.and_eq_true]
  have h3:=List.pairwise_cons.1 h1
  exact⟨⟨h2 p (by simp),h3.1 q (by simp)⟩,Zsq (q::r) h3.2 fun x hx=>h2 x (by simp[hx])⟩
theorem ZjJ{ps:List Pr}:chain ps=true↔Srt ps∧∀p∈ps,valB p.v=true:=⟨ZgL ps,fun h=>Zsq ps h.1 h.2⟩
theorem Ye4{a b:Dg}(h:a.1=b.1):a=b:=Subtype.ext h
theorem Zg7{a b:Dg}(h:ahead a.1 b.1=true):a≠b:=by
 rintro rfl
 rw[Zee]at h
 cases h
theorem Zye(a b:Dg):ahead a.1 b.1=true∨a=b∨ahead b.1 a.1=true:=by
 by_cases h:a=b
 ·exact .inr (.inl h)
 ·rcases Zup a.2 b.2 (fun e=>h (Subtype.ext e)) with h|h
  ·exact .inl h
  ·exact .inr (.inr h)
def hasP(ps:List Pr)(k:Dg):Bool:=ps.any fun p=>decide (p.k=k)
def cnt(ps:List Pr)(k:Dg):Nat:=(ps.takeWhile fun p=>ahead p.k.1 k.1).length
def getV(ps:List Pr)(k:Dg):List UInt8:=((ps.find? fun p=>decide (p.k=k)).map (·.v)).getD []
def withoutP(ps:List Pr)(k:Dg):List Pr:=ps.filter fun p=>decide (p.k≠k)
def withP(ps:List Pr)(k:Dg)(v:List UInt8):List Pr:=
 (withoutP ps k).take (cnt (withoutP ps k) k)++⟨k,v⟩::(withoutP ps k).drop (cnt (withoutP ps k) k)
theorem cnt_le(ps:List Pr)(k:Dg):cnt ps k≤ps.length:=(List.takeWhile_sublist _).length_le
theorem ZjK(p:Pr)(ps:List Pr)(k:Dg):cnt (p::ps) k=if ahead p.k.1 k.1=true then cnt ps k+1 else 0:=by
 unfold cnt
 rw[List.takeWhile_cons]
 split<;>simp
theorem Zin{ps:List Pr}(k:Dg):∀p∈ps.take (cnt ps k),ahead p.k.1 k.1=true:=by
 induction ps with
 |nil=>simp
 |cons q ps ih=>
  rw[ZjK]
  split
  ·rename_i h
   intro p hp
   rw[List.take_succ_cons]at hp
   rcases List.mem_cons.1 hp with rfl|hp
   ·exact h
   ·exact ih p hp
  ·simp
theorem Zl4{ps:List Pr}(h:Srt ps)(k:Dg):∀p∈ps.drop (cnt ps k),ahead p.k.1 k.1=false:=by
 induction ps with
 |nil=>simp
 |cons q ps ih=>
  have h2:=List.pairwise_cons.1 h
  rw[ZjK]
  split
  ·rw[List.drop_succ_cons]
   exact ih h2.2
  ·rename_i hq
   intro p hp
   rw[List.drop_zero]at hp
   rcases List.mem_cons.1 hp with rfl|hp
   ·simpa using hq
   ·rcases hpk:ahead p.k.1 k.1 with _|_
    ·rfl
    ·exact absurd (Zg8 (h2.1 p hp) hpk) hq
theorem ZbC{ps:List Pr}{k:Dg}:hasP ps k=true↔∃p∈ps,p.k=k:=by simp[hasP]
theorem ZhU{ps:List Pr}{k:Dg}:hasP ps k=false↔∀p∈ps,p.k≠k:=by simp[hasP]
theorem ZlA{ps:List Pr}(h:Srt ps)(k:Dg):hasP ps k=true↔∃hl:cnt ps k<ps.length,ps[cnt ps k].k=k:=by
 rw[ZbC]
 constructor
 ·rintro ⟨p,hp,rfl⟩
  have hp2:p∈ps.take (cnt ps p.k)++ps.drop (cnt ps p.k):=by rw[List.take_append_drop];exact hp
  rcases List.mem_append.1 hp2 with h1|h1
  ·have:=Zin p.k p h1
   rw[Zee]at this;cases this
  ·have hl:cnt ps p.k<ps.length:=by
    rcases Nat.lt_or_ge (cnt ps p.k) ps.length with h3|h3
    ·exact h3
    ·rw[List.drop_of_length_le h3]at h1;simp at h1
   refine⟨hl,?_⟩
   rw[List.drop_eq_getElem_cons hl]at h1
   rcases List.mem_cons.1 h1 with h2|h2
   ·rw[← h2]
   ·have hs:Srt (ps.drop (cnt ps p.k)):=h.sublist (List.drop_sublist _ _)
    rw[List.drop_eq_getElem_cons hl]at hs
    have h3:=(List.pairwise_cons.1 hs).1 p h2
    have h4:=Zl4 h p.k ps[cnt ps p.k] (by rw[List.drop_eq_getElem_cons hl];exact List.mem_cons_self)
    rw[h3]at h4;cases h4
 ·rintro ⟨hl,hk⟩
  exact⟨_,List.getElem_mem hl,hk⟩
theorem Zzo{ps:List Pr}(h:Srt ps){k:Dg}(hl:cnt ps k<ps.length)(hk:ps[cnt ps k].k=k):getV ps k=ps[cnt ps k].v:=by
 have:ps.find? (fun p=>decide (p.k=k))=some ps[cnt ps k]:=by
  rw[List.find?_eq_some_iff_append]
  refine⟨by simpa using hk,ps.take (cnt ps k),ps.drop (cnt ps k+1),?_,?_⟩
  ·rw[← List.drop_eq_getElem_cons hl,List.take_append_drop]
  ·intro p hp
   have:=Zg7 (Zin k p hp)
   simpa using this
 unfold getV
 rw[this]
 rfl
theorem Zm2{ps:List Pr}{k:Dg}(h:hasP ps k=false):getV ps k=[]:=by
 rw[ZhU]at h
 unfold getV
 rw[List.find?_eq_none.2 (by simpa using h)]
 rfl
theorem Zeo{ps:List Pr}{k:Dg}(h:hasP ps k=false):withoutP ps k=ps:=by
 rw[ZhU]at h
 unfold withoutP
 rw[List.filter_eq_self]
 simpa using h
theorem ZgX{ps:List Pr}(h:Srt ps){k:Dg}(hl:cnt ps k<ps.length)(hk:ps[cnt ps k].k=k):withoutP ps k=ps.take (cnt ps k)++ps.drop (cnt ps k+1):=by
 have e:ps=ps.take (cnt ps k)++ps[cnt ps k]::ps.drop (cnt ps k+1):=by rw[← List.drop_eq_getElem_cons hl,List.take_append_drop]
 have hs:Srt (ps.drop (cnt ps k)):=h.sublist (List.drop_sublist _ _)
 rw[List.drop_eq_getElem_cons hl]at hs
 have h3:=(List.pairwise_cons.1 hs).1
 unfold withoutP
 conv=>lhs;rw[e]
 rw[List.filter_append,List.filter_cons]
 rw[if_neg (by simpa using hk)]
 congr 1
 ·rw[List.filter_eq_self]
  intro p hp
  simpa using Zg7 (Zin k p hp)
 ·rw[List.filter_eq_self]
  intro p hp
  have h4:=h3 p hp
  rw[hk]at h4
  have:=Zg7 h4
  simpa using fun e=>this e.symm
theorem ZeT{ps:List Pr}(h:Srt ps)(k:Dg):Srt (withoutP ps k):=h.sublist List.filter_sublist
theorem Zc8{ps:List Pr}(h:Srt ps)(k:Dg)(v:List UInt8):Srt (withP ps k v):=by
 have h1:=ZeT h k
 unfold withP
 have h2:=Zin (ps:=withoutP ps k) k
 have h3:=Zl4 h1 k
 have h4:∀p∈(withoutP ps k).drop (cnt (withoutP ps k) k),ahead k.1 p.k.1=true:=by
  intro p hp
  have hne:p.k≠k:=by
   have:=List.mem_of_mem_drop hp
   simpa [withoutP] using (List.mem_filter.1 this).2
  rcases Zye k p.k with h5|h5|h5
  ·exact h5
  ·exact absurd h5.symm hne
  ·rw[h3 p hp]at h5;cases h5
 generalize cnt (withoutP ps k) k=n at *
 rw[Srt,List.pairwise_append]
 refine⟨h1.sublist (List.take_sublist _ _),List.Pairwise.cons h4 (h1.sublist (List.drop_sublist _ _)),?_⟩
 intro p hp q hq
 rcases List.mem_cons.1 hq with rfl|hq
 ·exact h2 p hp
 ·exact Zg8 (h2 p hp) (h4 q hq)
theorem Zct{ps:List Pr}{k:Dg}{v:List UInt8}{p:Pr}:p∈withP ps k v↔p=⟨k,v⟩∨(p∈ps∧p.k≠k):=by
 have e:p∈withoutP ps k↔p∈ps∧p.k≠k:=by simp[withoutP]
 rw[← e]
 unfold withP
 conv=>rhs;rw[← List.take_append_drop (cnt (withoutP ps k) k) (withoutP ps k)]
 simp only[List.mem_append,List.mem_cons]
 constructor
 ·rintro (h|h|h)
  ·exact .inr (.inl h)
  ·exact .inl h
  ·exact .inr (.inr h)
 ·rintro (h|h|h)
  ·exact .inr (.inl h)
  ·exact .inl h
  ·exact .inr (.inr h)
theorem Zb3(ps:List Pr)(k:Dg)(v:List UInt8):(withP ps k v).length=(withoutP ps k).length+1:=by
 unfold withP
 rw[Vx3,List.length_cons,List.length_take,List.length_drop]
 have:=cnt_le (withoutP ps k) k
 omega
theorem ZbP(ps:List Pr)(k:Dg):(withoutP ps k).length≤ps.length:=List.length_filter_le _ _
theorem Ze3{ps:List Pr}(h:Srt ps){k:Dg}(hh:hasP ps k=true):(withoutP ps k).length+1=ps.length:=by
 obtain⟨hl,hk⟩:=(ZlA h k).1 hh
 rw[ZgX h hl hk,Vx3,List.length_take,List.length_drop]
 omega
theorem Zli:∀{ps qs:List Pr},Srt ps→Srt qs→(∀ p,p∈ps↔p∈qs)→ps=qs
 |[],[],_,_,_=>rfl
 |[],q::qs,_,_,h=>absurd ((h q).2 (by simp)) (by simp)
 |p::ps,[],_,_,h=>absurd ((h p).1 (by simp)) (by simp)
 |p::ps,q::qs,h1,h2,h=>by
  have a1:=List.pairwise_cons.1 h1
  have a2:=List.pairwise_cons.1 h2
  have e:p=q:=by
   rcases List.mem_cons.1 ((h p).1 (by simp)) with e|e
   ·exact e
   ·rcases List.mem_cons.1 ((h q).2 (by simp)) with e2|e2
    ·exact e2.symm
    ·have:=Zg6 (a2.1 p e)
     rw[a1.1 q e2]at this;cases this
  subst e
  congr 1
  refine Zli a1.2 a2.2 fun x=>?_
  have hx:=h x
  simp only[List.mem_cons]at hx
  constructor
  ·intro hm
   rcases hx.1 (.inr hm) with rfl|h3
   ·exact absurd rfl (Zg7 (a1.1 x hm))
   ·exact h3
  ·intro hm
   rcases hx.2 (.inr hm) with rfl|h3
   ·exact absurd rfl (Zg7 (a2.1 x hm))
   ·exact h3
theorem Zfd{ps:List Pr}{k o:Dg}{v:List UInt8}:hasP (withP ps k v) o=(decide (k=o)||hasP ps o):=by
 rw[Bool.eq_iff_iff,Bool.or_eq_true,decide_eq_true_eq,ZbC,ZbC]
 constructor
 ·rintro ⟨p,hp,rfl⟩
  rcases Zct.1 hp with rfl|⟨h1,_⟩
  ·exact .inl rfl
  ·exact .inr ⟨p,h1,rfl⟩
 ·intro h
  by_cases hk:k=o
  ·subst hk
   exact⟨⟨k,v⟩,Zct.2 (.inl rfl),rfl⟩
  ·rcases h with h|⟨p,hp,rfl⟩
   ·exact absurd h hk
   ·exact⟨p,Zct.2 (.inr ⟨hp,fun e=>hk e.symm⟩),rfl⟩
theorem ZdZ{ps:List Pr}(h:Srt ps){p:Pr}(hp:p∈ps):getV ps p.k=p.v:=by
 obtain⟨hl,hk⟩:=(ZlA h p.k).1 (ZbC.2 ⟨p,hp,rfl⟩)
 rw[Zzo h hl hk]
 have e:ps[cnt ps p.k]=p:=by
  have hpw:=h
  obtain⟨i,hi,e⟩:=List.getElem_of_mem hp
  rcases Nat.lt_trichotomy i (cnt ps p.k) with h1|h1|h1
  ·have:=List.pairwise_iff_getElem.1 hpw i _ hi hl h1
   rw[e,hk,Zee]at this;cases this
  ·subst h1;exact e
  ·have:=List.pairwise_iff_getElem.1 hpw _ i hl hi h1
   rw[e,hk,Zee]at this;cases this
 rw[e]
theorem ZgC{ps:List Pr}(h:Srt ps)(k:Dg)(v:List UInt8):getV (withP ps k v) k=v:=ZdZ (Zc8 h k v) (p:=⟨k,v⟩) (Zct.2 (.inl rfl))
theorem ZhS{ps:List Pr}(h:Srt ps){k o:Dg}(v:List UInt8)(hne:k≠o):getV (withP ps k v) o=getV ps o:=by
 rcases hh:hasP ps o with _|_
 ·rw[Zm2 hh,Zm2]
  rw[Zfd,hh,Vy1 hne];rfl
 ·obtain⟨p,hp,rfl⟩:=ZbC.1 hh
  rw[ZdZ h hp,ZdZ (Zc8 h k v) (Zct.2 (.inr ⟨hp,fun e=>hne e.symm⟩))]
def mGetB(ps:List Pr)(k:Dg):Bool:=mayP ps&&hasP ps k
def mGetL(ps:List Pr)(k:Dg):List UInt8:=if mGetB ps k=true then getV ps k else []
def mPutE(ps:List Pr)(k:Dg)(v:List UInt8):Int:=if (mayP ps&&valB v)=true then (if 512<(withP ps k v).length then 9 else 0) else 8
def mPutL(ps:List Pr)(k:Dg)(v:List UInt8):List Pr:=if mPutE ps k v=0 then withP ps k v else []
def mDropE(ps:List Pr)(k:Dg):Int:=if mayP ps=true then (if hasP ps k=true then 0 else 6) else 8
def mDropL(ps:List Pr)(k:Dg):List Pr:=if mDropE ps k=0 then withoutP ps k else []
theorem ZgE{ps:List Pr}:mayP ps=true↔ps.length≤512∧Srt ps∧∀p∈ps,valB p.v=true:=by
 unfold mayP
 rw[Bool.and_eq_true,decide_eq_true_eq,ZjJ]
def partB(l:List UInt8):List UInt8:=be 4 (l.length % 4294967296)++l
def tagB(k:UInt8)(ls:List (List UInt8)):List UInt8:=k::(ls.map partB).flatten
theorem ZnX(k:UInt8)(ls:List (List UInt8))(j:Nat)(h:j<ls.length):tagB k (ls.take (j+1))=(tagB k (ls.take j)++be 4 (ls[j].length % 4294967296))++ls[j]:=by
 unfold tagB partB
 rw[Vy5 h,List.map_append,List.flatten_append,List.map_cons,List.map_nil,List.flatten_cons,List.flatten_nil,List.append_nil]
 simp[List.append_assoc]
theorem ZlL(k:UInt8)(ls:List (List UInt8))(j:Nat):(tagB k (ls.take j)).length≤(tagB k ls).length:=by
 have h:tagB k ls=tagB k (ls.take j)++((ls.drop j).map partB).flatten:=by
  have e:ls.map partB=(ls.take j).map partB++(ls.drop j).map partB:=by rw[← List.map_append,List.take_append_drop]
  unfold tagB
  rw[e,List.flatten_append,List.cons_append]
 rw[h,Vx3]
 omega
def stepE(r:List UInt8):Int:=if r.length<4 then 10 else if 4096<num (r.take 4) then 4 else if r.length-4<num (r.take 4) then 10 else 0
def stepP(r:List UInt8):List UInt8:=(r.drop 4).take (num (r.take 4))
def stepR(r:List UInt8):List UInt8:=r.drop (4+num (r.take 4))
def pgE:Nat→List UInt8→Int
 |0,_=>0
 |f+1,r=>if r=[] then 0 else if stepE r=0 then pgE f (stepR r) else stepE r
def pgL:Nat→List UInt8→List (List UInt8)
 |0,_=>[]
 |f+1,r=>if r=[] then [] else stepP r::pgL f (stepR r)
theorem Zki(r:List UInt8)(h:r≠[]):(stepR r).length<r.length:=by
 have:0<r.length:=List.length_pos_iff.2 h
 unfold stepR
 rw[List.length_drop]
 omega
theorem Yd0(r:List UInt8):∀f:Nat,r.length≤f→pgE f r=pgE r.length r:=by
 suffices ∀n:Nat,∀r:List UInt8,r.length≤n→∀f:Nat,r.length≤f→pgE f r=pgE n r by
  intro f hf
  exact this r.length r (Vx8 _) f hf
 intro n
 induction n with
 |zero=>
  intro r hr f _
  obtain rfl:r=[]:=List.eq_nil_of_length_eq_zero (by omega)
  cases f<;>simp[pgE]
 |succ n ih=>
  intro r hr f hf
  rcases f with _|f
  ·obtain rfl:r=[]:=List.eq_nil_of_length_eq_zero (by omega)
   simp[pgE]
  ·by_cases h0:r=[]
   ·subst h0;simp[pgE]
   ·have h1:=Zki r h0
    simp only[pgE,if_neg h0]
    split
    ·exact ih (stepR r) (by omega) f (by omega)
    ·rfl
theorem Yd1(r:List UInt8):∀f:Nat,r.length≤f→pgL f r=pgL r.length r:=by
 suffices ∀n:Nat,∀r:List UInt8,r.length≤n→∀f:Nat,r.length≤f→pgL f r=pgL n r by
  intro f hf
  exact this r.length r (Vx8 _) f hf
 intro n
 induction n with
 |zero=>
  intro r hr f _
  obtain rfl:r=[]:=List.eq_nil_of_length_eq_zero (by omega)
  cases f<;>simp[pgL]
 |succ n ih=>
  intro r hr f hf
  rcases f with _|f
  ·obtain rfl:r=[]:=List.eq_nil_of_length_eq_zero (by omega)
   simp[pgL]
  ·by_cases h0:r=[]
   ·subst h0;simp[pgL]
   ·have h1:=Zki r h0
    simp only[pgL,if_neg h0]
    rw[ih (stepR r) (by omega) f (by omega)]
def rE(r:List UInt8):Int:=pgE r.length r
def rL(r:List UInt8):List (List UInt8):=pgL r.length r
theorem YiZ:rE []=0:=rfl
theorem Yfo:rL []=[]:=rfl
theorem Znx(r:List UInt8)(h:r≠[]):rE r=if stepE r=0 then rE (stepR r) else stepE r:=by
 have h1:=Zki r h
 obtain⟨n,hn⟩:∃n,r.length=n+1:=⟨r.length-1,by omega⟩
 unfold rE
 rw[hn,pgE,if_neg h,Yd0 (stepR r) n (by omega)]
theorem ZpV(r:List UInt8)(h:r≠[]):rL r=stepP r::rL (stepR r):=by
 have h1:=Zki r h
 obtain⟨n,hn⟩:∃n,r.length=n+1:=⟨r.length-1,by omega⟩
 unfold rL
 rw[hn,pgL,if_neg h,Yd1 (stepR r) n (by omega)]
def tagE(b:List UInt8):Int:=if b=[] then 10 else rE (b.drop 1)
def tagK(b:List UInt8):UInt8:=if tagE b=0 then b.getD 0 0 else 0
def tagL(b:List UInt8):List (List UInt8):=if tagE b=0 then rL (b.drop 1) else []
def uv(x:UInt32):Value:=.int .u32 (x.toNat:Int)
def rotr(x:UInt32)(n:Nat):UInt32:=UInt32.ofNat (x.toNat / 2 ^ n ||| x.toNat * 2 ^ (32-n) % 4294967296)
def shr(x:UInt32)(n:Nat):UInt32:=UInt32.ofNat (x.toNat / 2 ^ n)
theorem Zsa(x:UInt32)(n:Nat):bits .or .u32 ((x.toNat:Int) / 2 ^ n) ((x.toNat:Int) * 2 ^ (32-n) % 4294967296)=((rotr x n).toNat:Int):=by
 have hx:=x.toNat_lt
 have e1:(x.toNat:Int) / 2 ^ n=((x.toNat / 2 ^ n:Nat):Int):=by simp
 have e2:(x.toNat:Int) * 2 ^ (32-n) % 4294967296=((x.toNat * 2 ^ (32-n) % 4294967296:Nat):Int):=by simp
 have h1:x.toNat / 2 ^ n<4294967296:=Nat.lt_of_le_of_lt (Nat.div_le_self _ _) hx
 have h2:x.toNat * 2 ^ (32-n) % 4294967296<4294967296:=Nat.mod_lt _ (by decide)
 rw[e1,e2,u32_or_nat _ _ h1 h2]
 unfold rotr
 rw[UInt32.toNat_ofNat_of_lt' (Nat.or_lt_two_pow (n:=32) h1 h2)]
theorem Zp7(x:UInt32)(n:Nat):(x.toNat:Int) / 2 ^ n=((shr x n).toNat:Int):=by
 have hx:=x.toNat_lt
 have h1:x.toNat / 2 ^ n<4294967296:=Nat.lt_of_le_of_lt (Nat.div_le_self _ _) hx
 unfold shr
 rw[UInt32.toNat_ofNat_of_lt' h1]
 simp
def ad(x y:UInt32):UInt32:=x+y
def xo(x y:UInt32):UInt32:=x ^^^ y
def an(x y:UInt32):UInt32:=x &&& y
def oo(x y:UInt32):UInt32:=x ||| y
def no(x:UInt32):UInt32:= ~~~x
theorem Zfl(x y:UInt32):((x.toNat:Int)+(y.toNat:Int)) % 4294967296=((ad x y).toNat:Int):=by
 rw[ad,UInt32.toNat_add];simp
theorem Zks(x y:UInt32):bits .xor .u32 (x.toNat:Int) (y.toNat:Int)=((xo x y).toNat:Int):=by
 rw[xo,u32_xor_nat _ _ x.toNat_lt y.toNat_lt,UInt32.toNat_xor]
theorem Zuq(x y:UInt32):bits .and .u32 (x.toNat:Int) (y.toNat:Int)=((an x y).toNat:Int):=by
 rw[an,u32_and_nat _ _ x.toNat_lt y.toNat_lt,UInt32.toNat_and]
theorem YgX(x:UInt32):(4294967295:Int)-(x.toNat:Int)=((no x).toNat:Int):=by
 have hx:=x.toNat_lt
 rw[no,UInt32.toNat_not]
 have:UInt32.size=4294967296:=rfl
 omega
theorem YdA(x:UInt32):(x.toNat:Int) % 4294967296=(x.toNat:Int):=by
 have hx:=x.toNat_lt
 omega
def rT(e f g h k w:UInt32):UInt32:=ad (ad (ad (ad h (xo (xo (rotr e 6) (rotr e 11)) (rotr e 25))) (xo (an e f) (an (no e) g))) k) w
def rU(a b c:UInt32):UInt32:=ad (xo (xo (rotr a 2) (rotr a 13)) (rotr a 22)) (xo (xo (an a b) (an a c)) (an b c))
structure S8 where
 a:UInt32
 b:UInt32
 c:UInt32
 d:UInt32
 e:UInt32
 f:UInt32
 g:UInt32
 h:UInt32
def S8.vals(s:S8):Array Value:=#[uv s.a,uv s.b,uv s.c,uv s.d,uv s.e,uv s.f,uv s.g,uv s.h]
def S8.round(s:S8)(k w:UInt32):S8:=⟨ad (rT s.e s.f s.g s.h k w) (rU s.a s.b s.c),s.a,s.b,s.c,ad s.d (rT s.e s.f s.g s.h k w),s.e,s.f,s.g⟩
def Kw:List UInt32:=[0x428a2f98,0x71374491,0xb5c0fbcf,0xe9b5dba5,0x3956c25b,0x59f111f1,0x923f82a4,0xab1c5ed5,0xd807aa98,0x12835b01,0x243185be,0x550c7dc3,0x72be5d74,0x80deb1fe,0x9bdc06a7,0xc19bf174,0xe49b69c1,0xefbe4786,0x0fc19dc6,0x240ca1cc,0x2de92c6f,0x4a7484aa,0x5cb0a9dc,0x76f988da,0x983e5152,0xa831c66d,0xb00327c8,0xbf597fc7,0xc6e00bf3,0xd5a79147,0x06ca6351,0x14292967,0x27b70a85,0x2e1b2138,0x4d2c6dfc,0x53380d13,0x650a7354,0x766a0abb,0x81c2c92e,0x92722c85,0xa2bfe8a1,0xa81a664b,0xc24b8b70,0xc76c51a3,0xd192e819,0xd6990624,0xf40e3585,0x106aa070,0x19a4c116,0x1e376c08,0x2748774c,0x34b0bcb5,0x391c0cb3,0x4ed8aa4a,0x5b9cca4f,0x682e6ff3,0x748f82ee,0x78a5636f,0x84c87814,0x8cc70208,0x90befffa,0xa4506ceb,0xbef9a3f7,0xc67178f2]
def S0:S8:=⟨0x6a09e667,0xbb67ae85,0x3c6ef372,0xa54ff53a,0x510e527f,0x9b05688c,0x1f83d9ab,0x5be0cd19⟩
def wvs(l:List UInt32):Array Value:=(l.map uv).toArray
theorem Zcv(l:List UInt32):(wvs l).size=l.length:=by simp[wvs]
theorem Zjt(l:List UInt32):(wvs l).all (·.oneCell')=true:=by
 rw[Array.all_eq_true_iff_forall_mem]
 intro v hv
 simp only[wvs,List.mem_toArray,List.mem_map]at hv
 obtain⟨x,_,rfl⟩:=hv
 rfl
def m256(x:UInt32):UInt32:=256 * x
def adb(x:UInt32)(b:UInt8):UInt32:=x+UInt32.ofNat b.toNat
theorem ZuV(x:UInt32):(256 * (x.toNat:Int)) % 4294967296=((m256 x).toNat:Int):=by
 rw[m256,UInt32.toNat_mul];simp
theorem Zyd(x:UInt32)(b:UInt8):((x.toNat:Int)+(b.toNat:Int)) % 4294967296=((adb x b).toNat:Int):=by
 have hb:=b.toNat_lt
 rw[adb,UInt32.toNat_add,UInt32.toNat_ofNat_of_lt' (show b.toNat<UInt32.size by have:UInt32.size=4294967296:=rfl;omega)]
 simp
def w32(l:List UInt8):UInt32:=l.foldl (fun a x=>adb (m256 a) x) 0
theorem ZvO(l:List UInt8)(x:UInt8):w32 (l++[x])=adb (m256 (w32 l)) x:=by simp[w32]
def s0(x:UInt32):UInt32:=xo (xo (rotr x 7) (rotr x 18)) (shr x 3)
def s1(x:UInt32):UInt32:=xo (xo (rotr x 17) (rotr x 19)) (shr x 10)
def sch1(b:List UInt8):Nat→List UInt32
 |0=>List.replicate 64 0
 |t+1=>(sch1 b t).set t (w32 ((b.drop (4 * t)).take 4))
def sch2(b:List UInt8):Nat→List UInt32
 |0=>sch1 b 16
 |i+1=>(sch2 b i).set (i+16) (ad (ad (ad ((sch2 b i).getD i 0) (s0 ((sch2 b i).getD (i+1) 0))) ((sch2 b i).getD (i+9) 0)) (s1 ((sch2 b i).getD (i+14) 0)))
def sched(b:List UInt8):List UInt32:=sch2 b 48
theorem Zmd(b:List UInt8)(t:Nat):(sch1 b t).length=64:=by
 induction t with
 |zero=>simp[sch1]
 |succ t ih=>simp[sch1,ih]
theorem Zd0(b:List UInt8)(t:Nat):(sch2 b t).length=64:=by
 induction t with
 |zero=>simp[sch2,Zmd]
 |succ t ih=>simp[sch2,ih]
theorem Ya4(b:List UInt8)(t j:Nat)(hj:t≤j)(h64:j<64):(sch1 b t)[j]? =some 0:=by
 induction t with
 |zero=>rw[sch1,List.getElem?_replicate,if_pos h64]
 |succ t ih=>
  rw[sch1,List.getElem?_set_ne (by omega)]
  exact ih (by omega)
theorem Zsh(b:List UInt8)(t:Nat)(h:t<64):(sch1 b t).set t 0=sch1 b t:=by
 apply List.ext_getElem?
 intro j
 rw[List.getElem?_set]
 split
 ·rename_i e
  subst e
  rw[Ya4 b t t (Vx8 _) h]
  simp[Zmd,h]
 ·rfl
def padP(l:List UInt8)(j:Nat):List UInt8:=l++128::List.replicate j 0
def padZ(n:Nat):Nat:=(120-(n+1) % 64) % 64
def padded(l:List UInt8):List UInt8:=padP l (padZ l.length)++be 8 (8 * l.length)
theorem Zew(l:List UInt8)(j:Nat):(padP l j).length=l.length+1+j:=by simp[padP];omega
theorem ZrT(l:List UInt8):l++[128]=padP l 0:=by simp[padP]
theorem ZrR(l:List UInt8)(j:Nat):padP l j++[0]=padP l (j+1):=by simp[padP,List.replicate_succ']
theorem ZrS(l:List UInt8)(j:Nat)(h:j<padZ l.length):(((padP l j).length:Int) % 64 !=56)=true:=by
 rw[bne_iff_ne,Zew]
 unfold padZ at h
 omega
theorem ZrQ(l:List UInt8):(((padP l (padZ l.length)).length:Int) % 64 !=56)=false:=by
 rw[bne_eq_false_iff_eq,Zew]
 unfold padZ
 omega
theorem ZtR(n:Nat):padZ n<64:=Nat.mod_lt _ (by decide)
def S8.rounds(s:S8)(ws:List UInt32):Nat→S8
 |0=>s
 |t+1=>(s.rounds ws t).round (Kw.getD t 0) (ws.getD t 0)
def S8.plus(s v:S8):S8:=⟨ad s.a v.a,ad s.b v.b,ad s.c v.c,ad s.d v.d,ad s.e v.e,ad s.f v.f,ad s.g v.g,ad s.h v.h⟩
def stN(p:List UInt8):Nat→S8
 |0=>S0
 |i+1=>(stN p i).plus ((stN p i).rounds (sched ((p.drop (64 * i)).take 64)) 64)
def S8.list(s:S8):List UInt32:=[s.a,s.b,s.c,s.d,s.e,s.f,s.g,s.h]
theorem S8.vals_list(s:S8):s.vals=wvs s.list:=rfl
def S8.bytes(s:S8):List UInt8:=(s.list.map fun x=>be 4 x.toNat).flatten
def sha256(l:List UInt8):List UInt8:=(stN (padded l) ((padded l).length / 64)).bytes
theorem Zw6(l:List UInt8):(padded l).length % 64=0:=by
 simp only[padded,Vx3,Zew,Zav]
 unfold padZ
 omega
theorem Yao(l:List UInt8):(padded l).length≤l.length+73:=by
 have:=ZtR l.length
 simp only[padded,Vx3,Zew,Zav]
 omega
theorem Zqr:Kw.length=64:=by decide
theorem ZdJ(l:List UInt32)(i:Nat)(h:i<l.length):l[i]=l.getD i 0:=by
 rw[List.getD_eq_getElem?_getD,Vx9 h];rfl
def plusTo(x y:List UInt32)(i:Nat):List UInt32:=(List.zipWith ad x y).take i++x.drop i
theorem Znu(x y:List UInt32):plusTo x y 0=x:=by simp[plusTo]
theorem ZoU(x y:List UInt32)(i:Nat)(h:x.length=y.length)(hi:i<x.length):(plusTo x y i)[i]? =some (x.getD i 0):=by
 unfold plusTo
 rw[List.getElem?_append_right (by simp;omega)]
 have e:i-((List.zipWith ad x y).take i).length=0:=by simp;omega
 rw[e,List.getElem?_drop,Nat.add_zero,←ZdJ x i hi,Vx9 hi]
theorem Znt(x y:List UInt32)(i:Nat)(h:x.length=y.length)(hi:i<x.length):(plusTo x y i).set i (ad (x.getD i 0) (y.getD i 0))=plusTo x y (i+1):=by
 unfold plusTo
 have e:((List.zipWith ad x y).take i).length=i:=by simp;omega
 rw[List.set_append_right _ _ (by omega),e,Nat.sub_self]
 rw[List.drop_eq_getElem_cons hi,List.set_cons_zero,Vy5 (by simp;omega)]
 rw[← ZdJ x i hi,←ZdJ y i (by omega)]
 simp
theorem S8.plus_list(s v:S8):(s.plus v).list=plusTo s.list v.list 8:=rfl
theorem YfT(n j:Nat)(hj:j<4):(be 4 n)[j]? =some (UInt8.ofNat (n / 256 ^ (3-j) % 256)):=by
 rw[ZkG,ZkG,ZkG,ZkG]
 rcases (show j=0∨j=1∨j=2∨j=3 by omega) with rfl|rfl|rfl|rfl<;>rfl
theorem Yiu(xs:List UInt32):∀i j:Nat,j<4→i<xs.length→((xs.map fun x=>be 4 x.toNat).flatten)[4 * i+j]? =some (UInt8.ofNat ((xs.getD i 0).toNat / 256 ^ (3-j) % 256)):=by
 induction xs with
 |nil=>intro i j _ h;simp at h
 |cons x xs ih=>
  intro i j hj hi
  rw[List.map_cons,List.flatten_cons]
  rcases i with _|i
  ·rw[List.getElem?_append_left (by rw[Zav];omega),show 4 * 0+j=j by omega,YfT _ _ hj]
   rfl
  ·rw[List.getElem?_append_right (by rw[Zav];omega),Zav,show 4 * (i+1)+j-4=4 * i+j by omega,ih i j hj (by simpa using hi)]
   rfl
theorem S8.bytes_len(s:S8):s.bytes.length=32:=by
 simp[S8.bytes,S8.list,Zav]
def upTo(l:List UInt8)(n:Nat):List UInt8:=l.take n++List.replicate (32-n) 0
theorem Zmh(l:List UInt8)(n:Nat)(h:l.length=32)(hn:n≤32):(upTo l n).length=32:=by simp[upTo];omega
theorem ZnN(l:List UInt8):upTo l 0=List.replicate 32 0:=by simp[upTo]
theorem Zmg(l:List UInt8)(h:l.length=32):upTo l 32=l:=by
 unfold upTo
 rw[List.take_of_length_le (by omega)]
 simp
theorem Zkp(l:List UInt8)(n:Nat)(h:l.length=32)(hn:n<32)(x:UInt8)(hx:l[n]? =some x):(upTo l n).set n x=upTo l (n+1):=by
 unfold upTo
 have e:(l.take n).length=n:=by simp;omega
 rw[List.set_append_right _ _ (by omega),e,Nat.sub_self,show 32-n=(32-(n+1))+1 by omega,List.replicate_succ,List.set_cons_zero,List.take_add_one,hx]
 simp
theorem Ybe(x:UInt32)(j:Nat)(hj:j<4):Value.int .u8 ((x.toNat:Int) / 2 ^ (24-8 * j) % 256)=bv (UInt8.ofNat (x.toNat / 256 ^ (3-j) % 256)):=by
 have e:(2:Int) ^ (24-8 * j)=((256 ^ (3-j):Nat):Int):=by
  rcases (show j=0∨j=1∨j=2∨j=3 by omega) with rfl|rfl|rfl|rfl<;>rfl
 rw[e]
 unfold bv
 congr 1
 simp
def oneP(d:Nat)(p:Pr):Bool:=decide (kb p.k.1 d=1)
def zeros(d:Nat)(ps:List Pr):List Pr:=ps.filter fun p=> !oneP d p
def ones(d:Nat)(ps:List Pr):List Pr:=ps.filter (oneP d)
def rootP:Nat→List Pr→Nat→List UInt8
 |n,ps,d=>match ps with
  |[]=>sha256 (tagB 0 [])
  |[p]=>sha256 (tagB 1 [p.k.1,p.v])
  |p::q::r=>match n with
   |0=>sha256 []
   |n+1=>sha256 (tagB 2 [rootP n (zeros d (p::q::r)) (d+1),rootP n (ones d (p::q::r)) (d+1)])
theorem Zf8(n d:Nat):rootP n [] d=sha256 (tagB 0 []):=by cases n<;>rfl
theorem Zf9(n d:Nat)(p:Pr):rootP n [p] d=sha256 (tagB 1 [p.k.1,p.v]):=by cases n<;>rfl
theorem Zla(n d:Nat){ps:List Pr}(h:2≤ps.length):rootP (n+1) ps d=sha256 (tagB 2 [rootP n (zeros d ps) (d+1),rootP n (ones d ps) (d+1)]):=by
 match ps,h with
 |p::q::r,_=>rfl
def Shr(d:Nat)(ps:List Pr):Prop:=∀p∈ps,∀q∈ps,∀i,i<d→kb p.k.1 i=kb q.k.1 i
end Go.Proofs.YtimaoonpgilekaaDoor
