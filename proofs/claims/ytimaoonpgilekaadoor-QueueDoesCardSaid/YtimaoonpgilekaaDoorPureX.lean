import Derived.Test.YtimaoonpgilekaaDoorPlain
set_option maxRecDepth 100000
set_option linter.all false
namespace Go.Proofs.YtimaoonpgilekaaDoor
open Go.RowKit
structure Ac where
 n:Nat
 b:Nat
 deriving DecidableEq
def ac0:Ac:=⟨0,0⟩
def Ac.ok(a:Ac):Prop:=a.n<18446744073709551616∧a.b<18446744073709551616
theorem Zuo{a c:Ac}(h1:a.n=c.n)(h2:a.b=c.b):a=c:=by cases a;cases c;simp_all
def acB(a:Ac):List UInt8:=be 8 a.n++be 8 a.b
def acE(l:List UInt8):Int:=if l.length<16 then 10 else if 16<l.length then 11 else if num (l.take 8)=0∧num (l.drop 8)=0 then 8 else 0
def acOf(l:List UInt8):Ac:=if acE l=0 then ⟨num (l.take 8),num (l.drop 8)⟩ else ac0
theorem ZiN:ac0.ok:=⟨by decide,by decide⟩
theorem Zph{l:List UInt8}(h:acE l=0):l.length=16:=by
 unfold acE at h
 split at h
 ·cases h
 ·split at h
  ·cases h
  ·omega
theorem ZkZ{l:List UInt8}(h:l.length=8):num l<18446744073709551616:=by
 have:=Zhy l
 rw[h]at this
 exact this
theorem Zky(l:List UInt8):(acOf l).ok:=by
 unfold acOf
 split
 ·rename_i h
  have hl:=Zph h
  exact⟨ZkZ (by rw[List.length_take,hl];rfl),ZkZ (by rw[List.length_drop,hl])⟩
 ·exact ZiN
theorem Zkx(a:Ac):(acB a).length=16:=by unfold acB;rw[Vx3,Zav,Zav]
theorem Zq8{a:Ac}(h:a.ok):num ((acB a).take 8)=a.n∧num ((acB a).drop 8)=a.b:=by
 unfold acB
 rw[List.take_left' (Zav 8 a.n),List.drop_left' (Zav 8 a.n),Zj1,Zj1]
 exact⟨Nat.mod_eq_of_lt h.1,Nat.mod_eq_of_lt h.2⟩
theorem YfM{a:Ac}(h:a.ok):acE (acB a)=if a=ac0 then 8 else 0:=by
 obtain⟨h1,h2⟩:=Zq8 h
 unfold acE
 rw[Zkx,if_neg (by decide),if_neg (by decide),h1,h2]
 by_cases hz:a=ac0
 ·rw[if_pos hz,if_pos ⟨congrArg (·.n) hz,congrArg (·.b) hz⟩]
 ·rw[if_neg hz,if_neg fun q=>hz (Zuo q.1 q.2)]
theorem Zyb{a:Ac}(h:a.ok):acOf (acB a)=a:=by
 obtain⟨h1,h2⟩:=Zq8 h
 unfold acOf
 rw[YfM h,h1,h2]
 by_cases hz:a=ac0
 ·rw[if_pos hz,hz];rfl
 ·rw[if_neg hz];rfl
theorem Zi5{l:List UInt8}(h:acE l≠0):acOf l=ac0:=by unfold acOf;rw[if_neg h]
def heldP(ps:List Pr):Bool:=ps.all fun p=>decide (acE p.v=0)
theorem Zc5{ps:List Pr}:heldP ps=true↔∀p∈ps,acE p.v=0:=by simp[heldP]
def inA(ps:List Pr)(k:Dg):Ac:=acOf (getV ps k)
def setP(ps:List Pr)(k:Dg)(a:Ac):List Pr:=if a=ac0 then withoutP ps k else withP ps k (acB a)
theorem ZhV(ps:List Pr)(k:Dg):(inA ps k).ok:=Zky _
theorem Ztn(a:Ac):valB (acB a)=true:=by unfold valB;rw[Zkx];rfl
theorem ZuN{ps:List Pr}{k:Dg}{a:Ac}(h:heldP ps=true)(ha:a.ok):heldP (setP ps k a)=true:=by
 rw[Zc5]at h ⊢
 intro p hp
 unfold setP at hp
 split at hp
 ·exact h p (List.filter_sublist.subset hp)
 ·rename_i hz
  rcases Zct.1 hp with rfl|⟨hp,_⟩
  ·show acE (acB a)=0
   rw[YfM ha,if_neg hz]
  ·exact h p hp
theorem ZeX{ps:List Pr}{k:Dg}(h:hasP ps k=false):inA ps k=ac0:=by
 unfold inA
 rw[Zm2 h]
 exact Zi5 (by decide)
theorem ZgQ(ps:List Pr)(k:Dg):hasP (withoutP ps k) k=false:=by
 rw[ZhU]
 intro p hp
 have:=(List.mem_filter.1 hp).2
 simpa using this
theorem ZjT{ps:List Pr}{k o:Dg}(hne:k≠o):hasP (withoutP ps k) o=hasP ps o:=by
 rw[Bool.eq_iff_iff,ZbC,ZbC]
 constructor
 ·rintro ⟨p,hp,rfl⟩
  exact⟨p,List.filter_sublist.subset hp,rfl⟩
 ·rintro ⟨p,hp,rfl⟩
  exact⟨p,List.mem_filter.2 ⟨hp,by simpa using fun q=>hne q.symm⟩,rfl⟩
theorem ZjQ{ps:List Pr}(hs:Srt ps){k o:Dg}(hne:k≠o):getV (withoutP ps k) o=getV ps o:=by
 by_cases hh:hasP ps o=true
 ·obtain⟨p,hp,rfl⟩:=ZbC.1 hh
  rw[ZdZ hs hp]
  exact ZdZ (ZeT hs k) (List.mem_filter.2 ⟨hp,by simpa using fun q=>hne q.symm⟩)
 ·have hh:=Bool.eq_false_iff.2 hh
  rw[Zm2 hh,Zm2 (by rw[ZjT hne];exact hh)]
theorem ZeN{ps:List Pr}(hs:Srt ps)(k:Dg){a:Ac}(ha:a.ok):inA (setP ps k a) k=a:=by
 unfold setP
 split
 ·rename_i hz
  rw[hz]
  exact ZeX (ZgQ ps k)
 ·unfold inA
  rw[ZgC hs]
  exact Zyb ha
theorem ZcY{ps:List Pr}(hs:Srt ps){k o:Dg}(a:Ac)(hne:k≠o):inA (setP ps k a) o=inA ps o:=by
 unfold setP inA
 split
 ·rw[ZjQ hs hne]
 ·rw[ZhS hs _ hne]
structure Tx where
 p:Dg
 t:Dg
 n:Nat
 a:Nat
 f:Nat
 s:Dg
 deriving DecidableEq
def Tx.ok(x:Tx):Prop:=x.n<18446744073709551616∧x.a<18446744073709551616∧x.f<18446744073709551616
def bodyX(x:Tx):List UInt8:=x.p.1++x.t.1++be 8 x.n++be 8 x.a++be 8 x.f
def signD(x:Tx):Dg:=⟨sha256 (tagB 4 [bodyX x]),S8.bytes_len _⟩
def signX(x:Tx):Tx:={ x with s:=signD x }
def fromX(x:Tx):Dg:=⟨sha256 (tagB 3 [x.p.1]),S8.bytes_len _⟩
def zX:Tx:=⟨⟨List.replicate 32 0,rfl⟩,⟨List.replicate 32 0,rfl⟩,0,0,0,⟨List.replicate 32 0,rfl⟩⟩
theorem Zci(x:Tx):(bodyX x).length=88:=by
 unfold bodyX
 simp only[Vx3,Zav,x.p.2,x.t.2]
structure Dp where
 n:Nat
 t:Dg
 a:Nat
 deriving DecidableEq
def Dp.ok(x:Dp):Prop:=x.n<18446744073709551616∧x.a<18446744073709551616
structure Rc where
 k:UInt8
 i:Dg
 c:Int
 deriving DecidableEq
structure Hd where
 h:Int
 p:Dg
 s:Dg
 r:Dg
 m:Int
 deriving DecidableEq
def mayH(x:Hd):Bool:=decide (0≤x.h∧x.h≤1073741824∧0≤x.m∧x.m≤256)
def hdB(x:Hd):List UInt8:=be 8 x.h.toNat++x.p.1++x.s.1++x.r.1++be 4 x.m.toNat
def nameD(x:Hd):Dg:=⟨sha256 (tagB 6 [hdB x]),S8.bytes_len _⟩
def follows(x y:Hd):Bool:=mayH x&&(mayH y&&(decide (x.h=y.h+1)&&decide (x.p=nameD y)))
def St(ps:List Pr):Prop:=Srt ps∧heldP ps=true
theorem Ybd{ps:List Pr}(h:Srt ps)(k:Dg)(a:Ac):Srt (setP ps k a):=by
 unfold setP
 split
 ·exact ZeT h k
 ·exact Zc8 h k _
theorem St.set{ps:List Pr}(h:St ps)(k:Dg){a:Ac}(ha:a.ok):St (setP ps k a):=⟨Ybd h.1 k a,ZuN h.2 ha⟩
def moreB(ps:List Pr)(k:Dg)(n:Nat):Bool:=decide ((inA ps k).b+n<18446744073709551616)
def moreL(ps:List Pr)(k:Dg)(n:Nat):List Pr:=setP ps k ⟨(inA ps k).n,(inA ps k).b+n⟩
theorem ZpF{ps:List Pr}{k:Dg}{n:Nat}(h:moreB ps k n=true):(⟨(inA ps k).n,(inA ps k).b+n⟩:Ac).ok:=⟨(ZhV ps k).1,of_decide_eq_true h⟩
theorem ZhZ{ps:List Pr}(hs:St ps){k:Dg}{n:Nat}(h:moreB ps k n=true):St (moreL ps k n):=hs.set k (ZpF h)
theorem Zek{ps:List Pr}(hs:St ps){k o:Dg}(n:Nat)(hne:k≠o):inA (moreL ps k n) o=inA ps o:=ZcY hs.1 _ hne
theorem Zj0{ps:List Pr}(hs:St ps){k:Dg}{n:Nat}(h:moreB ps k n=true):inA (moreL ps k n) k=⟨(inA ps k).n,(inA ps k).b+n⟩:=ZeN hs.1 k (ZpF h)
def bareL(ps:List Pr)(x:Tx):List Pr:=setP ps (fromX x) ⟨(inA ps (fromX x)).n+1,(inA ps (fromX x)).b⟩
def lessL(ps:List Pr)(x:Tx):List Pr:=setP (bareL ps x) (fromX x) ⟨(inA ps (fromX x)).n+1,(inA ps (fromX x)).b-(x.a+x.f)⟩
def poorB(ps:List Pr)(x:Tx):Bool:=decide ((inA ps (fromX x)).b<x.a+x.f)
def overB(ps:List Pr)(x:Tx)(box:Dg):Bool:= !(moreB (lessL ps x) x.t x.a&&moreB (moreL (lessL ps x) x.t x.a) box x.f)
def paidC(ps:List Pr)(x:Tx)(box:Dg):Int:=if poorB ps x=true then 150 else if overB ps x box=true then 151 else 0
def paidL(ps:List Pr)(x:Tx)(box:Dg):List Pr:=if paidC ps x box=0 then moreL (moreL (lessL ps x) x.t x.a) box x.f else bareL ps x
def nextB(ps:List Pr)(x:Tx):Bool:=decide (x.n=(inA ps (fromX x)).n)&&decide (x.n<18446744073709551615)
section
variable{ps:List Pr}{x:Tx}{box:Dg}
theorem Zni(hn:nextB ps x=true):(inA ps (fromX x)).n+1<18446744073709551616:=by
 unfold nextB at hn
 simp only[Bool.and_eq_true,decide_eq_true_eq]at hn
 omega
theorem ZmL(hn:nextB ps x=true):(⟨(inA ps (fromX x)).n+1,(inA ps (fromX x)).b⟩:Ac).ok:=⟨Zni hn,(ZhV _ _).2⟩
theorem ZkT(hn:nextB ps x=true):(⟨(inA ps (fromX x)).n+1,(inA ps (fromX x)).b-(x.a+x.f)⟩:Ac).ok:=⟨Zni hn,Nat.lt_of_le_of_lt (Nat.sub_le _ _) (ZhV _ _).2⟩
theorem Zjb(hs:St ps)(hn:nextB ps x=true):St (bareL ps x):=hs.set _ (ZmL hn)
theorem ZgD(hs:St ps)(hn:nextB ps x=true):St (lessL ps x):=(Zjb hs hn).set _ (ZkT hn)
theorem bare_self(hs:St ps)(hn:nextB ps x=true):inA (bareL ps x) (fromX x)=⟨(inA ps (fromX x)).n+1,(inA ps (fromX x)).b⟩:=ZeN hs.1 _ (ZmL hn)
end
def giveC(ps:List Pr)(d:Dg)(n:Nat):Int:=if moreB ps d n=true then 0 else 151
end Go.Proofs.YtimaoonpgilekaaDoor
