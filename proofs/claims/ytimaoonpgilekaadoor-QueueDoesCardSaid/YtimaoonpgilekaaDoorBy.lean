import Derived.WalkKit
import Derived.Laws.OwnMore
import Derived.Laws.AppendOwn
import Derived.Deep.Draws
import Derived.Deep.RegionLaw
import Derived.Laws.BytesArg
import Derived.Laws.BitsAllLaws
import Derived.Laws.Bits64
import Derived.OpenShut
namespace Go.Proofs.YtimaoonpgilekaaDoor
open Go.RowKit
theorem Vx0(w:World)(o:Obj):(w.alloc o).heap[w.heap.size]? =some o:=_root_.Go.heap_alloc_new w o
theorem Vx1{n m k:Nat}(h:n≤m)(h2:m≤k):n≤k:=_root_.Nat.le_trans h h2
theorem Vx2(w:World)(o:Obj):(w.alloc o).heap.size=w.heap.size+1:=_root_.Go.World.size_alloc w o
theorem Vx3{α:Type _}{as bs:List α}:(as++bs).length=as.length+bs.length:=_root_.List.length_append
theorem Vx4{n m k:Nat}(h:n<m)(h2:m≤k):n<k:=_root_.Nat.lt_of_lt_of_le h h2
theorem Vx5(w:World)(a:Addr){u:Value}(h:w.cell? a=some u):a.block<w.heap.size:=_root_.Go.World.block_lt_of_cell? w a h
theorem Vx6{α:Type _}{β:Type _}{as:List α}(f:α→β):(List.map f as).length=as.length:=_root_.List.length_map f
theorem Vx7{α:Type _}{as:List α}:as.toArray.size=as.length:=_root_.List.size_toArray
theorem Vx8(n:Nat):n≤n:=_root_.Nat.le_refl n
theorem Vx9{α:Type _}{l:List α}{i:Nat}(h:i<l.length):l[i]? =some l[i]:=_root_.List.getElem?_eq_getElem h
theorem Vy0{P:Program}{fn:Func}{R:Ending→World→Prop}{a:Act}{w:World}{v:Value}(h:Sem.run P (results fn a.tmps) w=Result.ok v w)(hd:a.defers=[])(hR:R (Ending.returned v) w):_root_.Go.bodyPost P fn R Exit.ret a w:=_root_.Go.bodyPost_ret h hd hR
theorem Vy1{p:Prop}[inst:Decidable p](h:¬p):decide p=false:=_root_.decide_eq_false h
theorem Vy2{p:Prop}[inst:Decidable p](h:p):decide p=true:=_root_.decide_eq_true h
theorem Vy3(w:World)(a:Addr)(u:Value)(k:Nat)(h:k≠a.block):(w.setCell a u).heap[k]? =w.heap[k]? :=_root_.Go.RowKit.Below.heap_setCell w a u k h
theorem Vy4{α:Type _}{a b:α}:a∈[b]↔a=b:=_root_.List.mem_singleton
theorem Vy5{α:Type _}{l:List α}{i:Nat}(h:i<l.length):l.take (i+1)=l.take i++[l[i]]:=_root_.List.take_succ_eq_append_getElem h
theorem sQ:(∀ (a:Act) (d:Tmp) (v:Value),a.put (some d) v={ a with tmps:=a.tmps.setIfInBounds d v })∧(∀ (a:Act) (v:Value),a.put none v=a)∧(∀ {α:Type} (l:List α) (i:Nat) (a:α),l.toArray.setIfInBounds i a=(l.set i a).toArray)∧(∀ {α:Type} {a:α} {as:List α} {b:α},(a::as).set 0 b=b::as)∧(∀ {α:Type} {a:α} {as:List α} {i:Nat} {b:α},(a::as).set (i+1) b=a::as.set i b)∧
  (∀ {α:Type} {xs:List α} {i:Nat} (h:i<xs.toArray.size),xs.toArray[i]=xs[i]'(by simpa using h))∧(∀ {α:Type} (a:α) (as:List α) (i:Nat) (h:i+1<(a::as).length),(a::as)[i+1]=as[i]'(Nat.lt_of_succ_lt_succ h))∧(∀ {α:Type} {a:α} {as:List α} (h:0<(a::as).length),(a::as)[0]=a):=
 ⟨fun _ _ _=>rfl,fun _ _=>rfl,fun l i a=>List.setIfInBounds_toArray l i a,rfl,rfl,fun _=>rfl,fun _ _ _ _=>rfl,fun _=>rfl⟩
theorem hid{p:Prop}(h:p):Hid p:=h
theorem Zag{a b c:World}(h:Below a.heap.size a b)(k:Below b.heap.size b c):Below a.heap.size a c:=h.trans (k.mono h.size)
theorem Zad(w:World)(o:Obj):Below w.heap.size w (w.alloc o):=(Below.refl _ _).alloc (Vx8 _) o
theorem below_drewN{B:Nat}{a w:World}(h:Below B a w)(n:Nat):Below B a (w.drewN n):=⟨h.os,h.tape,h.output,h.size,h.block⟩
def be:Nat→Nat→List UInt8
 |0,_=>[]
 |k+1,n=>be k (n / 256)++[UInt8.ofNat (n % 256)]
def num(l:List UInt8):Nat:=l.foldl (fun a b=>a * 256+b.toNat) 0
theorem Zav(k n:Nat):(be k n).length=k:=by
 induction k generalizing n with
 |zero=>rfl
 |succ k ih=>simp[be,ih]
theorem ZkG(k n:Nat):be (k+1) n=UInt8.ofNat (n / 256 ^ k % 256)::be k n:=by
 induction k generalizing n with
 |zero=>simp[be]
 |succ k ih=>
  rw[be,ih (n / 256)]
  rw[Nat.div_div_eq_div_mul,←Nat.pow_succ']
  rfl
theorem Zma(l:List UInt8)(b:UInt8):num (l++[b])=num l * 256+b.toNat:=by simp[num]
theorem Zhy(l:List UInt8):num l<256 ^ l.length:=by
 rw[← List.reverse_reverse l]
 generalize l.reverse=r
 induction r with
 |nil=>decide
 |cons b r ih=>
  simp only[List.reverse_cons,Zma,Vx3,List.length_reverse,List.length_cons,List.length_nil]at ih ⊢
  have:=b.toNat_lt
  rw[Nat.pow_succ];omega
theorem Zj1(k n:Nat):num (be k n)=n % 256 ^ k:=by
 induction k generalizing n with
 |zero=>simp[be,num,Nat.mod_one]
 |succ k ih=>
  rw[be,Zma,ih]
  have:(UInt8.ofNat (n % 256)).toNat=n % 256:=by simp
  rw[this,Nat.pow_succ',Nat.mod_mul];omega
def dcells(n size i:Nat):List UInt8:=List.replicate (size-i) 0++be i n
theorem ZkK(n size i:Nat)(h:i≤size):(dcells n size i).length=size:=by simp[dcells,Zav];omega
theorem Zje(n size:Nat):dcells n size 0=List.replicate size 0:=by simp[dcells,be]
theorem ZkJ(n size:Nat):dcells n size size=be size n:=by simp[dcells]
theorem Zjd(n size i:Nat)(h:i<size):(dcells n size i).set (size-1-i) (UInt8.ofNat (n / 256 ^ i % 256))=dcells n size (i+1):=by
 unfold dcells
 rw[ZkG]
 rw[List.set_append_left _ _ (by simp;omega)]
 obtain⟨k,rfl⟩:∃k,size=i+1+k:=⟨size-(i+1),by omega⟩
 rw[show i+1+k-i=k+1 by omega,show i+1+k-1-i=k by omega,show i+1+k-(i+1)=k by omega]
 rw[List.replicate_succ',List.set_append_right _ _ (by simp)]
 simp
def putE(n:Nat)(s:Int):Int:=if 1≤s∧s≤8 then (if n<256 ^ s.toNat then 0 else 4) else 2
def putB(n:Nat)(s:Int):List UInt8:=if putE n s=0 then be s.toNat n else []
def bv(b:UInt8):Value:=.int .u8 (b.toNat:Int)
theorem Zbn(l:List UInt8):∀u∈l.map bv,u.oneCell'=true:=by
 intro u hu
 obtain⟨b,_,rfl⟩:=List.mem_map.1 hu
 rfl
def Rd(w:World)(A:Option Addr)(l:List UInt8):Prop:=
 0<l.length→∃b o,A=some ⟨b,o,none⟩∧∀j x,l[j]? =some x→w.cell? ⟨b,o+j,none⟩=some (bv x)
theorem Rd.nil(w:World)(A:Option Addr):Rd w A []:=fun h=>absurd h (by simp)
theorem Rd.keep{w w':World}{A:Option Addr}{l:List UInt8}(h:Rd w A l)(hk:∀p:Addr,p.block<w.heap.size→w'.cell? p=w.cell? p):Rd w' A l:=by
 intro hn
 obtain⟨b,o,rfl,hc⟩:=h hn
 refine⟨b,o,rfl,fun j x hx=>?_⟩
 have hcx:=hc j x hx
 rw[hk _ (Vx5 _ _ hcx)]
 exact hcx
theorem Rd.below{w w':World}{A:Option Addr}{l:List UInt8}{B:Nat}(h:Rd w A l)(hb:Below B w w')(hB:w.heap.size≤B):Rd w' A l:=
 h.keep fun _ hp=>hb.cell (by omega)
theorem Rd.bel{w w':World}{A:Option Addr}{l:List UInt8}(h:Rd w A l)(hb:Below w.heap.size w w'):Rd w' A l:=h.below hb (Vx8 _)
theorem Rd.alloc{w:World}{A:Option Addr}{l:List UInt8}(h:Rd w A l)(o:Obj):Rd (w.alloc o) A l:=h.keep fun p hp=>World.cell?_alloc_lt w o p hp
theorem Rd.drewN{w:World}{A:Option Addr}{l:List UInt8}(h:Rd w A l)(k:Nat):Rd (w.drewN k) A l:=h
theorem Rd.drew{w:World}{A:Option Addr}{l:List UInt8}(h:Rd w A l):Rd w.drew A l:=h
theorem Rd.cut{w:World}{A:Option Addr}{l:List UInt8}(h:Rd w A l)(k m:Nat)(cap:Nat)(hk:k≤m)(hm:m≤l.length)(hc:m≤cap):
  Rd w (if cap=k then A else A.map (·.add k)) ((l.drop k).take (m-k)):=by
 intro hn
 simp only[List.length_take,List.length_drop]at hn
 obtain⟨b,o,rfl,hcell⟩:=h (by omega)
 rw[if_neg (by omega)]
 refine⟨b,o+k,?_,fun j x hx=>?_⟩
 ·simp only[Option.map_some]
  congr 1
  unfold Addr.add
  split<;>simp_all
 ·rw[Nat.add_assoc]
  apply hcell
  rw[List.getElem?_take]at hx
  split at hx
  ·rw[List.getElem?_drop]at hx;exact hx
  ·cases hx
theorem Rd.take{w:World}{A:Option Addr}{l:List UInt8}(h:Rd w A l)(k:Nat):Rd w A (l.take k):=by
 intro hn
 simp only[List.length_take]at hn
 obtain⟨b,o,rfl,hcell⟩:=h (by omega)
 refine⟨b,o,rfl,fun j x hx=>hcell j x ?_⟩
 rw[List.getElem?_take]at hx
 split at hx
 ·exact hx
 ·cases hx
theorem Rd.news{w:World}{a:Addr}{l:List UInt8}(h:Rd w (some a) l):∀j u,(l.map bv)[j]? =some u→w.cell? (a.add j)=some u:=by
 intro j u hu
 simp only[List.getElem?_map,Option.map_eq_some_iff]at hu
 obtain⟨x,hx,rfl⟩:=hu
 obtain⟨b,o,ha,hc⟩:=h (by have:=(List.getElem?_eq_some_iff.1 hx).1;omega)
 injection ha with ha
 subst ha
 rw[Addr.add_lit]
 exact hc j x hx
theorem Rd.src{w:World}{A:Option Addr}{l:List UInt8}(h:Rd w A l):0<(l.map bv).length→∃ad,A=some ad∧∀j u,(l.map bv)[j]? =some u→w.cell? (ad.add j)=some u:=by
 intro hn
 obtain⟨b,o,rfl,hc⟩:=h (by simpa using hn)
 exact⟨_,rfl,Rd.news h⟩
def Own(E:TypeId)(w:World)(B:Nat)(A:Option Addr)(c:Nat)(l:List UInt8):Prop:=
 w.ownsRow B E 1 (.slice A l.length c) l.length (l.map bv)
section
variable{E:TypeId}{w w':World}{B B':Nat}{A:Option Addr}{c:Nat}{l:List UInt8}
theorem Own.nil(w:World)(B:Nat):Own E w B none 0 []:=World.ownsRow_nil w B E 1
theorem Own.rd(h:Own E w B A c l):Rd w A l:=by
 intro hn
 rcases h.2 with ⟨hv,h0⟩|⟨g,cap,cur,hv,hb,hg,hnc,hcm,hsz,ht⟩
 ·omega
 ·injection hv with hA _ _
  subst hA
  refine⟨g,0,rfl,fun j x hx=>?_⟩
  rw[cell_of_row w g _ cur E (0,0) hg,Nat.zero_add]
  have:(l.map bv)[j]? =some (bv x):=by simp[hx]
  rw[← ht,List.getElem?_take]at this
  split at this
  ·simpa using this
  ·cases this
theorem Own.cap(h:Own E w B A c l):l.length≤c∧c≤maxLen:=by
 rcases h.2 with ⟨hv,h0⟩|⟨g,cap,cur,hv,hb,hg,hnc,hcm,hsz,ht⟩
 ·injection hv with _ _ hc
  subst hc
  exact⟨by omega,by simp[maxLen]⟩
 ·injection hv with _ _ hc
  subst hc
  exact⟨hnc,hcm⟩
theorem Own.below{B0:Nat}(h:Own E w B A c l)(hb:Below B0 w w')(hB:w.heap.size≤B0):Own E w' B A c l:=by
 refine⟨h.1,?_⟩
 rcases h.2 with hn|⟨g,cap,cur,hv,hbg,hg,r⟩
 ·exact .inl hn
 ·exact .inr ⟨g,cap,cur,hv,hbg,(hb.block g (Vx4 (Array.getElem?_eq_some_iff.1 hg).1 hB)).trans hg,r⟩
theorem Own.bel(h:Own E w B A c l)(hb:Below w.heap.size w w'):Own E w' B A c l:=h.below hb (Vx8 _)
theorem Own.base(h:Own E w B A c l)(hB:B'≤B):Own E w B' A c l:=by
 refine⟨h.1,?_⟩
 rcases h.2 with hn|⟨g,cap,cur,hv,hbg,r⟩
 ·exact .inl hn
 ·exact .inr ⟨g,cap,cur,hv,Vx1 hB hbg,r⟩
theorem Own.form(h:Own E w B A c l)(hn:0<l.length):∃g cur,A=some ⟨g,0,none⟩∧B≤g∧w.heap[g]? =some (.cells cur E (0,0))∧cur.size=c∧cur.toList.take l.length=l.map bv:=by
 rcases h.2 with ⟨_,h0⟩|⟨g,cap,cur,hv,hb,hg,hnc,hcm,hsz,ht⟩
 ·omega
 ·injection hv with hA _ hc
  subst hA hc
  exact⟨g,cur,rfl,hb,hg,by simpa using hsz,by simpa using ht⟩
theorem Own.kept{row:Option Nat}(h:Own E w B A c l)(hg:w.grownBy w' row)(hne:∀a,A=some a→some a.block≠row):Own E w' B A c l:=by
 refine⟨h.1,?_⟩
 rcases h.2 with hn|⟨g,cap,cur,hv,hbg,hgg,r⟩
 ·exact .inl hn
 ·have hA:A=some ⟨g,0,none⟩:=by injection hv
  exact .inr ⟨g,cap,cur,hv,hbg,(hg.block g (Array.getElem?_eq_some_iff.1 hgg).1 (hne _ hA)).trans hgg,r⟩
theorem Own.blk(h:Own E w B A c l):∀a,A=some a→B≤a.block∧a.block<w.heap.size:=by
 intro a ha
 subst ha
 exact World.ownsRow.lt h _ rfl
theorem Own.only(h:Own E w B A c l)(hg:w.grownBy w' (A.map (·.block)))(hB:B≤w.heap.size):Below B w w':=
 (Below.refl B w).grown hg hB fun k hk=>by
  rcases A with _|a
  ·cases hk
  ·injection hk with hk
   subst hk
   exact(h.blk a rfl).1
theorem Own.of_block{g:Nat}(hg:w.heap[g]? =some (.cells (l.map bv).toArray E (0,0)))(hB:B≤g)(hm:l.length≤maxLen):Own E w B (some ⟨g,0,none⟩) l.length l:=
 ⟨by simp,.inr ⟨g,l.length,_,rfl,hB,hg,Vx8 _,hm,by simp,by simpa using List.take_of_length_le (by simp)⟩⟩
end
theorem Own.apart{A4 A2:Option Addr}{M:Nat}(h4:∀a,A4=some a→M≤a.block)(h2:∀a,A2=some a→a.block<M):∀a,A4=some a→some a.block≠A2.map (·.block):=by
 intro a ha he
 rcases A2 with _|b
 ·cases he
 ·have h1:=h4 a ha
  have h3:=h2 b rfl
  have he2:a.block=b.block:=Option.some.inj he
  omega
theorem Rd.lit(w:World)(t:TypeId)(l:List UInt8):Rd (w.alloc (.cells (l.map bv).toArray t)) (some ⟨w.heap.size,0,none⟩) l:=by
 intro hn
 refine⟨w.heap.size,0,rfl,fun j x hx=>?_⟩
 rw[cell_of_row _ w.heap.size (0+j) (l.map bv).toArray t (0,0) (Vx0 w _)]
 simp[hx]
theorem Rd.lit_(w:World)(t:TypeId)(l:List UInt8)(cs:Array Value)(g:Nat)(hg:w.heap.size=g)(h:cs=(l.map bv).toArray):Rd (w.alloc (.cells cs t)) (some ⟨g,0,none⟩) l:=by
 subst h hg
 exact Rd.lit w t l
theorem Own.alloc{E:TypeId}{w:World}{B:Nat}{A:Option Addr}{c:Nat}{l:List UInt8}(h:Own E w B A c l)(o:Obj):Own E (w.alloc o) B A c l:=h.bel (Zad w o)
theorem ZaD{w:World}{g:Nat}{cs:Array Value}{t:TypeId}(h:w.heap[g]? =some (.cells cs t (0,0)))(i:Nat)(u:Value):
  (w.setCell ⟨g,i,none⟩ u).heap[g]? =some (.cells (cs.setIfInBounds i u) t (0,0)):=by
 simp[World.setCell,Array.getElem?_modify,h]
theorem Zaq{w:World}{g:Nat}{cs:Array Value}{t:TypeId}(h:w.heap[g]? =some (.cells cs t (0,0)))(i:Nat):w.cell? ⟨g,i,none⟩=cs[i]? :=cell_of_row w g i cs t (0,0) h
theorem Zap{w:World}{g:Nat}{cs:Array Value}{t:TypeId}(h:w.heap[g]? =some (.cells cs t (0,0)))(i:Nat):w.frozen? ⟨g,i,none⟩=false:=by
 simp[World.frozen?,h]
theorem Zcy{w:World}{g:Nat}{l:List UInt8}{t:TypeId}(h:w.heap[g]? =some (.cells (l.map bv).toArray t (0,0)))(i:Nat)(hi:i<l.length):w.cell? ⟨g,i,none⟩=some (bv l[i]):=by
 rw[Zaq h];simp[hi]
theorem Zdd{w:World}{g:Nat}{l:List UInt8}{t:TypeId}(h:w.heap[g]? =some (.cells (l.map bv).toArray t (0,0)))(i:Nat)(x:UInt8):
  (w.setCell ⟨g,i,none⟩ (bv x)).heap[g]? =some (.cells ((l.set i x).map bv).toArray t (0,0)):=by
 rw[ZaD h]
 simp
theorem block_lt{w:World}{g:Nat}{o:Obj}(h:w.heap[g]? =some o):g<w.heap.size:=(Array.getElem?_eq_some_iff.1 h).1
structure U8s (P:Program) (S E:TypeId):Prop where
 under:P.underlying S=some (.slice E)
 info:(P.info? E).map (fun i=>(i.zero,i.size,i.bytes))=some (some (.int .u8 0),1,1)
section
variable{P:Program}{S E:TypeId}
theorem Yht(h:U8s P S E)(w:World)(ty:TypeId)(B:Nat)(A A2:Option Addr)(c c2:Nat)(xs ys:List UInt8)(ho:Own E w B A c xs)(hr:Rd w A2 ys)
  (hlen:xs.length+ys.length≤140737488355328) (hB:B≤w.heap.size):
  ∃A' c' w',(Builtin.append_ #[S,S] ty #[.slice A xs.length c,.slice A2 ys.length c2]).run P w=.ok (.slice A' (xs++ys).length c') w'∧Own E w' B A' c' (xs++ys)∧Below B w w':=by
 obtain⟨i0,hi0,hz0,hz1,hz2⟩:=info_parts h.info
 rcases A2 with _|ad
 ·have hy:ys=[]:=by
   rcases Nat.eq_zero_or_pos ys.length with h0|h0
   ·exact List.eq_nil_of_length_eq_zero h0
   ·obtain⟨b,o,hA,_⟩:=hr h0
    cases hA
  subst hy
  refine⟨A,c,w,?_,by simpa using ho,Below.refl _ _⟩
  rcases ho.2 with ⟨hv,h0⟩|⟨g,cap,cur,hv,_,_,hnc,_⟩
  ·injection hv with h1 h2 h3
   subst h1 h3
   have hx:xs=[]:=List.eq_nil_of_length_eq_zero h0
   subst hx
   simp[Builtin.append_,run_underlying h.under,sizeOf,typeInfo,hi0,Builtin.lenOf,Builtin.firstCells]
  ·injection hv with h1 _ h3
   subst h1 h3
   simp[Builtin.append_,run_underlying h.under,sizeOf,typeInfo,hi0,Builtin.lenOf,Builtin.firstCells,hnc,storeCells]
 ·obtain⟨v',w',hrun,hown,hg,_⟩:=run_append_own (P:=P) w B S ty E i0 (.int .u8 0) 1 1 h.under hi0 hz0 hz1 hz2 rfl (by omega) _ xs.length (xs.map bv) ho ad ys.length c2 (ys.map bv)
   (by simp) hr.news (Zbn _) (by unfold maxLen;omega) (by omega) hB
  have hb:Below B w w':=(Below.refl B w).grown hg hB (fun k hk=>(World.ownsRow.lt ho k hk).1)
  have hlen2:(xs++ys).length=xs.length+ys.length:=by simp
  have hmap:(xs++ys).map bv=xs.map bv++ys.map bv:=by simp
  rcases hown.2 with ⟨hv,h0⟩|⟨g,cap,cur,hv,r⟩
  ·subst hv
   refine⟨none,0,w',?_,?_,hb⟩
   ·rw[hrun,hlen2,h0]
   ·unfold Own
    rw[hlen2,hmap,h0]
    rw[h0]at hown
    exact hown
  ·subst hv
   refine⟨some ⟨g,0,none⟩,cap,w',?_,?_,hb⟩
   ·rw[hrun,hlen2]
   ·unfold Own
    rw[hlen2,hmap]
    exact hown
theorem ZvP(h:U8s P S E){w:World}{o:Oper}{a:Act}{K:Act→World→Prop}{Q:Exit→Act→World→Prop}(s x:Operand)
  (hop:o.op=.call { callee:=.builtin .append,args:=#[s,x],argTypes:=#[S,S] })
  (B:Nat) (A A2:Option Addr) (n m c c2:Nat) (xs ys:List UInt8) (hs:a.eval s=.slice A n c) (hx:a.eval x=.slice A2 m c2) (hn:n=xs.length) (hm:m=ys.length)
  (ho:Own E w B A c xs) (hr:Rd w A2 ys) (hlen:xs.length+ys.length≤140737488355328) (hB:B≤w.heap.size)
  (hK:∀A' c' w',Own E w' B A' c' (xs++ys)→Below B w w'→K (a.put o.dst (.slice A' (xs++ys).length c')) w'):o.wp P a w K Q:=by
 subst hn hm
 obtain⟨A',c',w',hrun,h1,h2⟩:=Yht h w o.type B A A2 c c2 xs ys ho hr hlen hB
 unfold Oper.wp execOp
 simp only[hop,resolve,invoke,builtin,Sem.run_bind,Sem.run_pure,Result.andThen_ok,List.map_toArray,List.map_cons,List.map_nil,hs,hx,hrun]
 exact hK A' c' w' h1 h2
theorem ZaO(h:U8s P S E){w:World}{ops:Array Oper}{rest:List Oper}{o:Oper}{a:Act}{Q:Exit→Act→World→Prop}(hg:Region.wanted o (yielded ops a.tmps)=true)(s x:Operand)
  (hop:o.op=.call { callee:=.builtin .append,args:=#[s,x],argTypes:=#[S,S] })
  (B:Nat) (A A2:Option Addr) (n m c c2:Nat) (xs ys:List UInt8) (hs:a.eval s=.slice A n c) (hx:a.eval x=.slice A2 m c2) (hn:n=xs.length) (hm:m=ys.length)
  (ho:Own E w B A c xs) (hr:Rd w A2 ys) (hlen:xs.length+ys.length≤140737488355328) (hB:B≤w.heap.size)
  (hK:∀A' c' w',Own E w' B A' c' (xs++ys)→Below B w w'→wpList P ops Q rest (a.put o.dst (.slice A' (xs++ys).length c')) w'):wpList P ops Q (o::rest) a w:=
 wpList_step fun _ hK2=>by
  rw[if_pos hg]
  exact ZvP h s x hop B A A2 n m c c2 xs ys hs hx hn hm ho hr hlen hB fun A' c' w' h1 h2=>hK2 _ _ (hK A' c' w' h1 h2)
end
section
variable{P:Program}{S E:TypeId}
end
def Rds(w:World)(A:Option Addr)(ls:List (List UInt8)):Prop:=
 0<ls.length→∃b o,A=some ⟨b,o,none⟩∧∀j l,ls[j]? =some l→∃A' c',w.cell? ⟨b,o+j,none⟩=some (.slice A' l.length c')∧Rd w A' l∧l.length≤c'∧c'≤maxLen
theorem Rds.bel{w w':World}{A:Option Addr}{ls:List (List UInt8)}(h:Rds w A ls)(hb:Below w.heap.size w w'):Rds w' A ls:=by
 intro hn
 obtain⟨b,o,rfl,hc⟩:=h hn
 refine⟨b,o,rfl,fun j l hl=>?_⟩
 obtain⟨A',c',h1,h2,h3⟩:=hc j l hl
 exact⟨A',c',(hb.cell (Vx5 _ _ h1)).trans h1,h2.bel hb,h3⟩
theorem Rds.alloc{w:World}{A:Option Addr}{ls:List (List UInt8)}(h:Rds w A ls)(o:Obj):Rds (w.alloc o) A ls:=h.bel (Zad w o)
theorem ZiO(ls:List (List UInt8))(j:Nat)(h:j<ls.length):(ls.take (j+1)).flatten=(ls.take j).flatten++ls[j]:=by
 rw[Vy5 h,List.flatten_append,List.flatten_cons,List.flatten_nil,List.append_nil]
theorem Zgq(ls:List (List UInt8))(j:Nat):((ls.take j).flatten).length≤ls.flatten.length:=by
 have h:ls.flatten=(ls.take j).flatten++(ls.drop j).flatten:=by rw[← List.flatten_append,List.take_append_drop]
 rw[h,Vx3];omega
end Go.Proofs.YtimaoonpgilekaaDoor
