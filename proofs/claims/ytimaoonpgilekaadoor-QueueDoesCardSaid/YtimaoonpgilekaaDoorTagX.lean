import Derived.OwnWalk
import Derived.Test.YtimaoonpgilekaaDoorShaX
set_option maxRecDepth 100000
set_option linter.all false
set_option maxHeartbeats 1600000
namespace Go.Proofs.YtimaoonpgilekaaDoor
open Go.RowKit
theorem Yex(n k:Nat):Value.int .u8 ((n:Int) / 2 ^ (8 * k) % 256)=bv (UInt8.ofNat (n / 256 ^ k % 256)):=by
 have e:(2:Int) ^ (8 * k)=((256 ^ k:Nat):Int):=by
  rw[Int.pow_mul];simp
 have e2:((n:Int) / 2 ^ (8 * k) % 256)=((n / 256 ^ k % 256:Nat):Int):=by rw[e];simp
 rw[e2]
 unfold bv
 congr 1
 simp
theorem Zor(n:Nat)(size:Nat)(w:World)(h1:1≤size)(h8:size≤8)(hn:n<18446744073709551616):
  Calls Tryd.prog 67 #[.int .u64 (n:Int),.int .i64 (size:Int)] w fun e w'=>∃A c,e=.returned (.slice A size c)∧Own 5 w' w.heap.size A c (be size n)∧Below w.heap.size w w':=by
 obtain⟨i0,hi0,hz0,hz1,hz2⟩:=info_parts Zfs
 go_enter Tryd.func67,Tryd.ntmps67
 go_wp2_with (at_make;refine wpList_make_full _ rfl _ _ 68 rfl w.heap.size 5 i0 (.int .u8 0) 1 Tryd.underlying68 hi0 hz0 hz1 _ _ _ _ size rfl rfl rfl rfl (by rw[hz2];omega) (by unfold maxLen;omega) (Vx8 _) ?_;intro w1 hown1 hgrow1)
 go_loopw [10] (fun i wr=>∃k:Nat,k≤size∧i=.int .i64 k∧Below w.heap.size w wr∧wr.heap[w.heap.size]? =some (.cells ((dcells n size k).map bv).toArray 5 (0,0))) (fun i _=>size-(intOf i).toNat)
 case atStart=>
  refine⟨0,Nat.zero_le _,rfl,(Below.refl _ _).grown hgrow1 (Vx8 _) (by simp),?_⟩
  rw[Zje]
  exact Zbr hown1
 case round=>
  obtain⟨k,hk,rfl,hb,hg⟩:=hrel
  by_cases hlt:k<size
  ·have hc:=Zcy hg (size-1-k) (by rw[ZkK _ _ _ hk];omega)
   have hf:=Zap hg (size-1-k)
   go_wp2
   go_roundw
   case rel=>
    refine⟨k+1,by omega,by go_num,hb.setCell (Vx8 _) _,?_⟩
    rw[Yex,←Zjd _ _ _ hlt]
    exact Zdd hg _ _
   case measure=>simp[intOf];omega
  ·obtain rfl:k=size:=by omega
   rw[ZkJ]at hg
   go_wp2
   go_ret
   have ho:=Own.of_block (B:=w.heap.size) hg (Vx8 _) (by rw[Zav];unfold maxLen;omega)
   rw[Zav]at ho
   exact⟨_,_,rfl,ho,hb⟩
theorem Zit(k:Int)(w:World)(h1:1≤k)(h8:k≤8):
  Calls Tryd.prog 66 #[.int .i64 k] w fun e w'=>e=.returned (.bool true)∧w=w':=by
 go_enter Tryd.func66,Tryd.ntmps66
 go_wp2
 go_ret
 exact⟨rfl,rfl⟩
theorem Zrz(k:Int)(w:World)(h:k<1∨8<k):
  Calls Tryd.prog 66 #[.int .i64 k] w fun e w'=>e=.returned (.bool false)∧w=w':=by
 rcases h with h|h
 ·go_enter Tryd.func66,Tryd.ntmps66
  go_wp2
  go_ret
  exact⟨rfl,rfl⟩
 ·have h1:1≤k:=by omega
  have hd:decide (k≤8)=false:=by rw[decide_eq_false_iff_not];omega
  go_enter Tryd.func66,Tryd.ntmps66
  go_wp2
  go_ret
  exact⟨rfl,rfl⟩
theorem Yey(n k:Nat)(h8:k≤8)(h:n<256 ^ k):((n:Int) / 2 ^ (8 * k) !=0)=false:=by
 have e:(2:Int) ^ (8 * k)=((256 ^ k:Nat):Int):=by rw[Int.pow_mul];simp
 rw[e,bne_eq_false_iff_eq]
 have h2:n / 256 ^ k=0:=Nat.div_eq_of_lt h
 rw[← Int.natCast_ediv,h2]
 rfl
theorem Yhv(n k:Nat)(h:¬n<256 ^ k):((n:Int) / 2 ^ (8 * k) !=0)=true:=by
 have e:(2:Int) ^ (8 * k)=((256 ^ k:Nat):Int):=by rw[Int.pow_mul];simp
 rw[e]
 have h2:0<n / 256 ^ k:=Nat.div_pos (by omega) (Nat.pow_pos (by omega))
 rw[bne_iff_ne,←Int.natCast_ediv]
 omega
theorem Zo6(n:Nat)(s:Int)(w:World)(hn:n<18446744073709551616):
  Calls Tryd.prog 60 #[.int .u64 (n:Int),.int .i64 s] w fun e w'=>∃A c,e=.returned (.tuple #[.slice A (putB n s).length c,.int .i64 (putE n s)])∧Own 5 w' w.heap.size A c (putB n s)∧Below w.heap.size w w':=by
 by_cases hs:1≤s∧s≤8
 ·obtain⟨k,rfl⟩:=Int.eq_ofNat_of_zero_le (show 0≤s by omega)
  by_cases hk:n<256 ^ k
  ·have e1:putE n k=0:=by simp only[putE];rw[if_pos hs,if_pos (by simpa using hk)]
   have e2:putB n k=be k n:=by simp[putB,e1]
   rw[e1,e2,Zav]
   obtain⟨h1,h8⟩:=hs
   have ht:=Yey n k (by omega) hk
   clear e1 e2 hk
   go_enter Tryd.func60,Tryd.ntmps60
   go_wp2_with (first|(go_at_call 66;refine(Zit _ _ (by omega) (by omega)).mono ?_;rintro e w' ⟨rfl,rfl⟩)|(go_at_call 67;refine(Zor _ _ _ (by omega) (by omega) hn).mono ?_;rintro e w1 ⟨A,c,rfl,ho,hb⟩))
   go_ret2
   exact⟨_,_,rfl,ho,hb⟩
  ·have e1:putE n k=4:=by simp only[putE];rw[if_pos hs,if_neg (by simpa using hk)]
   have e2:putB n k=[]:=by simp[putB,e1]
   rw[e1,e2]
   obtain⟨h1,h8⟩:=hs
   have ht:=Yhv n k hk
   clear e1 e2 hk
   go_enter Tryd.func60,Tryd.ntmps60
   go_wp2_with (first|(go_at_call 66;refine(Zit _ _ (by omega) (by omega)).mono ?_;rintro e w' ⟨rfl,rfl⟩))
   go_ret2
   exact⟨_,_,rfl,Own.nil _ _,Below.refl _ _⟩
 ·have e1:putE n s=2:=by simp only[putE];rw[if_neg hs]
  have e2:putB n s=[]:=by simp[putB,e1]
  rw[e1,e2]
  have hs':s<1∨8<s:=by omega
  clear e1 e2 hs
  go_enter Tryd.func60,Tryd.ntmps60
  go_wp2_with (first|(go_at_call 66;refine(Zrz _ _ hs').mono ?_;rintro e w' ⟨rfl,rfl⟩))
  go_ret2
  exact⟨_,_,rfl,Own.nil _ _,Below.refl _ _⟩
theorem Zfr(n:Nat)(ni s:Int)(b:List UInt8)(e:Int)(w:World)(hni:ni=n)(hn:n<18446744073709551616)(hb:putB n s=b)(he:putE n s=e):
  Calls Tryd.prog 60 #[.int .u64 ni,.int .i64 s] w fun r w'=>∃A c,r=.returned (.tuple #[.slice A b.length c,.int .i64 e])∧Own 5 w' w.heap.size A c b∧Below w.heap.size w w':=by
 subst hni hb he
 exact Zo6 n s w hn
def slv(x:(Option Addr×Nat)×List UInt8):Value:=.slice x.1.1 x.2.length x.1.2
def OwnL(EL EB:TypeId)(w:World)(B:Nat)(A:Option Addr)(c:Nat)(ls:List (List UInt8)):Prop:=
 ∃vs:List (Option Addr×Nat),vs.length=ls.length∧w.ownsRow B EL 1 (.slice A ls.length c) ls.length ((vs.zip ls).map slv)∧
  ∀(j:Nat) (v:Option Addr×Nat) (l:List UInt8),vs[j]? =some v→ls[j]? =some l→Own EB w B v.1 v.2 l
section
variable{P:Program}{S EL EB:TypeId}{w w':World}{B:Nat}{A:Option Addr}{c:Nat}{ls:List (List UInt8)}
theorem OwnL.nil(w:World)(B:Nat):OwnL EL EB w B none 0 []:=⟨[],rfl,World.ownsRow_nil w B EL 1,fun j v l h=>by simp at h⟩
theorem OwnL.cap(h:OwnL EL EB w B A c ls):ls.length≤c∧c≤maxLen:=by
 obtain⟨vs,_,⟨_,h2⟩,_⟩:=h
 rcases h2 with ⟨hv,h0⟩|⟨g,cap,cur,hv,_,_,hnc,hcm,_⟩
 ·injection hv with h1 h2 h3
  subst h3
  exact⟨by omega,Nat.zero_le _⟩
 ·injection hv with h1 h2 h3
  subst h3
  exact⟨hnc,hcm⟩
theorem Zh2{A2:Option Addr}{c2 n:Nat}{l:List UInt8}{xs:List Value}(hne:EB≠EL)(h:w.ownsRow B EL 1 (.slice A n c) n xs)(h2:Own EB w B A2 c2 l):∀a,A2=some a→some a.block≠(Value.slice A n c).ownBlock:=by
 intro a ha he
 rcases h.2 with ⟨hv,_⟩|⟨g,cap,cur,hv,_,hg,_⟩
 ·rw[hv]at he;cases he
 ·injection hv with hA _ _
  subst hA
  have he2:a.block=g:=by simpa [Value.ownBlock] using he
  rcases h2.2 with ⟨hv2,_⟩|⟨g2,cap2,cur2,hv2,_,hg2,_⟩
  ·injection hv2 with hA2 _ _
   rw[ha]at hA2;cases hA2
  ·injection hv2 with hA2 _ _
   rw[ha]at hA2
   injection hA2 with hA2
   subst hA2
   have he3:g2=g:=he2
   subst he3
   rw[hg]at hg2
   injection hg2 with hg2
   injection hg2 with _ ht _
   exact hne ht.symm
theorem Znn{xs:List Value}{n:Nat}(h:w.ownsRow B EL 1 (.slice A n c) n xs)(hb:Below w.heap.size w w'):w'.ownsRow B EL 1 (.slice A n c) n xs:=by
 refine⟨h.1,?_⟩
 rcases h.2 with hn|⟨g,cap,cur,hv,hbg,hgg,r⟩
 ·exact .inl hn
 ·exact .inr ⟨g,cap,cur,hv,hbg,(hb.block g (Array.getElem?_eq_some_iff.1 hgg).1).trans hgg,r⟩
theorem OwnL.bel(h:OwnL EL EB w B A c ls)(hb:Below w.heap.size w w'):OwnL EL EB w' B A c ls:=by
 obtain⟨vs,h1,h2,h3⟩:=h
 exact⟨vs,h1,Znn h2 hb,fun j v l hv hl=>(h3 j v l hv hl).bel hb⟩
theorem OwnL.alloc(h:OwnL EL EB w B A c ls)(o:Obj):OwnL EL EB (w.alloc o) B A c ls:=h.bel (Zad w o)
theorem OwnL.rds(h:OwnL EL EB w B A c ls):Rds w A ls:=by
 obtain⟨vs,h1,⟨_,h2⟩,h3⟩:=h
 intro hn
 rcases h2 with ⟨hv,h0⟩|⟨g,cap,cur,hv,_,hg,hnc,_,hsz,ht⟩
 ·omega
 ·injection hv with hA _ _
  subst hA
  refine⟨g,0,rfl,fun j l hl=>?_⟩
  have hj:=(List.getElem?_eq_some_iff.1 hl).1
  have hvj:vs[j]? =some (vs[j]'(by omega)):=Vx9 (by omega)
  have ho:=h3 j _ l hvj hl
  refine⟨_,_,?_,ho.rd,ho.cap⟩
  rw[cell_of_row w g (0+j) cur EL (0,0) hg,Nat.zero_add]
  have h4:(cur.toList.take (ls.length * 1))[j]? =((vs.zip ls).map slv)[j]? :=by rw[ht]
  rw[List.getElem?_take,if_pos (by omega),List.getElem?_map]at h4
  have hz:(vs.zip ls)[j]? =some (vs[j]'(by omega),l):=by rw[List.getElem?_zip_eq_some];exact⟨hvj,hl⟩
  rw[hz]at h4
  simpa [slv] using h4
end
theorem ZwH{w w':World}{row:Option Nat}(hg:w.grownBy w' row)(p:Addr)(hp:p.block<w.heap.size)(hne:some p.block≠row):w'.cell? p=w.cell? p:=
 World.cell?_of_block (hg.block p.block hp hne)
structure Part (EB:TypeId) (w:World) (B:Nat) (v:Option Addr×Nat) (l:List UInt8):Prop where
 rd:Rd w v.1 l
 le:l.length≤v.2
 max:v.2≤maxLen
 at_:(∀ a,0<l.length→v.1=some a→a.block<B)∨Own EB w B v.1 v.2 l
section
variable{P:Program}{S EL EB:TypeId}{w w':World}{B:Nat}{A:Option Addr}{c:Nat}{ls:List (List UInt8)}{v:Option Addr×Nat}{l:List UInt8}
theorem Part.bel(h:Part EB w B v l)(hb:Below w.heap.size w w'):Part EB w' B v l:=
 ⟨h.rd.bel hb,h.le,h.max,h.at_.elim .inl fun o=>.inr (o.bel hb)⟩
theorem Part.own(h:Own EB w B v.1 v.2 l):Part EB w B v l:=⟨h.rd,h.cap.1,h.cap.2,.inr h⟩
theorem Part.old(h:Rd w v.1 l)(h1:l.length≤v.2)(h2:v.2≤maxLen)(hB:w.heap.size≤B):Part EB w B v l:=by
 refine⟨h,h1,h2,.inl fun a h0 ha=>?_⟩
 obtain⟨b,o,hA,hc⟩:=h h0
 rw[ha]at hA
 injection hA with hA
 subst hA
 have:=Vx5 _ _ (hc 0 _ (Vx9 h0))
 exact Vx4 this hB
theorem Part.kept{n:Nat}{xs:List Value}(hne:EB≠EL)(h:Part EB w B v l)(hr:w.ownsRow B EL 1 (.slice A n c) n xs)(hg:w.grownBy w' (Value.slice A n c).ownBlock):Part EB w' B v l:=by
 rcases h.at_ with h1|h1
 ·refine⟨?_,h.le,h.max,.inl h1⟩
  intro h0
  obtain⟨b,o,hA,hc⟩:=h.rd h0
  refine⟨b,o,hA,fun j x hx=>?_⟩
  have h2:=hc j x hx
  rw[ZwH hg _ (Vx5 _ _ h2) ?_]
  ·exact h2
  ·intro he
   have h3:=h1 _ h0 hA
   have h4:=World.ownsRow.lt hr b he.symm
   have h5:b<B:=h3
   omega
 ·exact Part.own (h1.kept hg (Zh2 hne hr h1))
def OwnS(EL EB:TypeId)(w:World)(B:Nat)(A:Option Addr)(c:Nat)(ls:List (List UInt8)):Prop:=
 ∃vs:List (Option Addr×Nat),vs.length=ls.length∧w.ownsRow B EL 1 (.slice A ls.length c) ls.length ((vs.zip ls).map slv)∧
  ∀(j:Nat) (v:Option Addr×Nat) (l:List UInt8),vs[j]? =some v→ls[j]? =some l→Part EB w B v l
theorem OwnS.bel(h:OwnS EL EB w B A c ls)(hb:Below w.heap.size w w'):OwnS EL EB w' B A c ls:=by
 obtain⟨vs,h1,h2,h3⟩:=h
 exact⟨vs,h1,Znn h2 hb,fun j v l hv hl=>(h3 j v l hv hl).bel hb⟩
theorem OwnS.alloc(h:OwnS EL EB w B A c ls)(o:Obj):OwnS EL EB (w.alloc o) B A c ls:=h.bel (Zad w o)
theorem OwnS.cap(h:OwnS EL EB w B A c ls):ls.length≤c∧c≤maxLen:=by
 obtain⟨vs,_,⟨_,h2⟩,_⟩:=h
 rcases h2 with ⟨hv,h0⟩|⟨g,cap,cur,hv,_,_,hnc,hcm,_⟩
 ·injection hv with h1 h2 h3
  subst h3
  exact⟨by omega,Nat.zero_le _⟩
 ·injection hv with h1 h2 h3
  subst h3
  exact⟨hnc,hcm⟩
theorem OwnS.rds(h:OwnS EL EB w B A c ls):Rds w A ls:=by
 obtain⟨vs,h1,⟨_,h2⟩,h3⟩:=h
 intro hn
 rcases h2 with ⟨hv,h0⟩|⟨g,cap,cur,hv,_,hg,hnc,_,hsz,ht⟩
 ·omega
 ·injection hv with hA _ _
  subst hA
  refine⟨g,0,rfl,fun j l hl=>?_⟩
  have hj:=(List.getElem?_eq_some_iff.1 hl).1
  have hvj:vs[j]? =some (vs[j]'(by omega)):=Vx9 (by omega)
  have ho:=h3 j _ l hvj hl
  refine⟨_,_,?_,ho.rd,ho.le,ho.max⟩
  rw[cell_of_row w g (0+j) cur EL (0,0) hg,Nat.zero_add]
  have h4:(cur.toList.take (ls.length * 1))[j]? =((vs.zip ls).map slv)[j]? :=by rw[ht]
  rw[List.getElem?_take,if_pos (by omega),List.getElem?_map]at h4
  have hz:(vs.zip ls)[j]? =some (vs[j]'(by omega),l):=by rw[List.getElem?_zip_eq_some];exact⟨hvj,hl⟩
  rw[hz]at h4
  simpa [slv] using h4
theorem Yer(hS:P.underlying S=some (.slice EL))(hi:(P.info? EL).map (fun i=>(i.zero,i.size,i.bytes))=some (some (.slice none 0 0),1,24))(hne:EB≠EL)(ty:TypeId)(ho:OwnS EL EB w B A c ls)
  (us:List (Option Addr×Nat)) (ms:List (List UInt8)) (hu:us.length=ms.length) (hp:∀(j:Nat) (v:Option Addr×Nat) (l:List UInt8),us[j]? =some v→ms[j]? =some l→Part EB w B v l)
  (cc:Nat) (hlen:ls.length+ms.length≤1000000000) (hB:B≤w.heap.size) (g:Nat) (hc:∀(j:Nat) (u:Value),((us.zip ms).map slv)[j]? =some u→w.cell? ⟨g,j,none⟩=some u):
  ∃A' c' w',(Builtin.append_ #[S,S] ty #[.slice A ls.length c,.slice (some ⟨g,0,none⟩) ms.length cc]).run P w=.ok (.slice A' (ls++ms).length c') w'∧OwnS EL EB w' B A' c' (ls++ms)∧Below B w w':=by
 obtain⟨i0,hi0,hz0,hz1,hz2⟩:=info_parts hi
 obtain⟨vs,h1,h2,h3⟩:=ho
 have hnl:((us.zip ms).map slv).length=ms.length * 1:=by simp[hu]
 obtain⟨v',w',hrun,hown,hg,hnil⟩:=run_append_own (P:=P) w B S ty EL i0 (.slice none 0 0) 1 24 hS hi0 hz0 hz1 hz2 rfl (by omega) _ ls.length _ h2 ⟨g,0,none⟩ ms.length cc ((us.zip ms).map slv)
  hnl (fun j u h=>by rw[Addr.add_lit,Nat.zero_add];exact hc j u h) (by intro u hu;obtain⟨p,_,rfl⟩:=List.mem_map.1 hu;rfl) (by unfold maxLen;omega) (by omega) hB
 have hb:Below B w w':=(Below.refl B w).grown hg hB (fun k hk=>(World.ownsRow.lt h2 k hk).1)
 have hlen2:(ls++ms).length=ls.length+ms.length:=by simp
 have hmap:((vs++us).zip (ls++ms)).map slv=(vs.zip ls).map slv++(us.zip ms).map slv:=by
  rw[List.zip_append h1,List.map_append]
 have hall:∀(j:Nat) (v:Option Addr×Nat) (m:List UInt8),(vs++us)[j]? =some v→(ls++ms)[j]? =some m→Part EB w' B v m:=by
  intro j v m hv hm
  rcases Nat.lt_or_ge j ls.length with hj|hj
  ·rw[List.getElem?_append_left (by omega)]at hv hm
   exact(h3 j v m hv hm).kept hne h2 hg
  ·rw[List.getElem?_append_right (by omega)]at hv hm
   rw[h1]at hv
   exact(hp _ v m hv hm).kept hne h2 hg
 rcases hown.2 with ⟨hv,h0⟩|⟨g',cap,cur,hv,r⟩
 ·subst hv
  have e1:ls=[]:=List.eq_nil_of_length_eq_zero (by omega)
  have e2:ms=[]:=List.eq_nil_of_length_eq_zero (by omega)
  subst e1 e2
  exact⟨none,0,w',hrun,⟨[],rfl,World.ownsRow_nil _ _ _ _,fun j v l h=>by simp at h⟩,hb⟩
 ·subst hv
  refine⟨some ⟨g',0,none⟩,cap,w',?_,⟨vs++us,by simp[h1,hu],?_,hall⟩,hb⟩
  ·rw[hrun,hlen2]
  ·rw[hlen2,hmap]
   exact hown
theorem ZnO(hS:P.underlying S=some (.slice EL))(hi:(P.info? EL).map (fun i=>(i.zero,i.size,i.bytes))=some (some (.slice none 0 0),1,24))(hne:EB≠EL)
  {ops:Array Oper} {rest:List Oper} {o:Oper} {a:Act} {Q:Exit→Act→World→Prop} (hg:Region.wanted o (yielded ops a.tmps)=true) (s x:Operand)
  (hop:o.op=.call { callee:=.builtin .append,args:=#[s,x],argTypes:=#[S,S] })
  (B:Nat) (A:Option Addr) (n m c cc g:Nat) (ls ms:List (List UInt8)) (us:List (Option Addr×Nat)) (hs:a.eval s=.slice A n c) (hx:a.eval x=.slice (some ⟨g,0,none⟩) m cc) (hn:n=ls.length) (hm:m=ms.length)
  (ho:OwnS EL EB w B A c ls) (hu:us.length=ms.length) (hp:∀(j:Nat) (v:Option Addr×Nat) (l:List UInt8),us[j]? =some v→ms[j]? =some l→Part EB w B v l)
  (hc:∀(j:Nat) (u:Value),((us.zip ms).map slv)[j]? =some u→w.cell? ⟨g,j,none⟩=some u) (hlen:ls.length+ms.length≤1000000000) (hB:B≤w.heap.size)
  (hK:∀A' c' w',OwnS EL EB w' B A' c' (ls++ms)→Below B w w'→wpList P ops Q rest (a.put o.dst (.slice A' (ls++ms).length c')) w'):wpList P ops Q (o::rest) a w:=
 wpList_step fun _ hK2=>by
  rw[if_pos hg]
  subst hn hm
  obtain⟨A',c',w',hrun,h1,h2⟩:=Yer hS hi hne o.type ho us ms hu hp cc hlen hB g hc
  unfold Oper.wp execOp
  simp only[hop,resolve,invoke,builtin,Sem.run_bind,Sem.run_pure,Result.andThen_ok,List.map_toArray,List.map_cons,List.map_nil,hs,hx,hrun]
  exact hK2 _ _ (hK A' c' w' h1 h2)
end
theorem Zfj:Tryd.prog.underlying 82=some (.slice 68):=Tryd.underlying82
theorem Zid:(Tryd.prog.info? 68).map (fun i=>(i.zero,i.size,i.bytes))=some (some (.slice none 0 0),1,24):=by kernel_rfl
theorem Zsz:(5:TypeId)≠68:=by decide
theorem count_any(A:Option Addr)(n c:Nat)(l:List UInt8)(w:World)(hn:n=l.length):
  Calls Tryd.prog 59 #[.slice A n c] w fun e w'=>∃A' c',e=.returned (.slice A' (be 4 (l.length % 4294967296)).length c')∧Own 5 w' w.heap.size A' c' (be 4 (l.length % 4294967296))∧Below w.heap.size w w':=by
 subst hn
 have e1:putE (l.length % 4294967296) 4=0:=by simp only[putE];rw[if_pos (by omega),if_pos (by show _<256 ^ 4;omega)]
 have e2:putB (l.length % 4294967296) 4=be 4 (l.length % 4294967296):=by simp[putB,e1]
 have e3:IntKind.u64.wrap (IntKind.u32.wrap (l.length:Int))=((l.length % 4294967296:Nat):Int):=by
  rw[IntKind.wrap_u64,IntKind.wrap_u32];omega
 go_enter Tryd.func59,Tryd.ntmps59
 go_wp2_with fail
 refine(Zfr (l.length % 4294967296) _ 4 _ 0 _ (by omega) (by omega) e2 e1).mono ?_
 rintro e w1 ⟨A1,c1,rfl,ho,hb⟩
 go_wp2
 go_ret
 exact⟨_,_,rfl,ho,hb⟩
def pcs(k:UInt8)(ls:List (List UInt8)):List (List UInt8):=[k]::(ls.map fun l=>[be 4 (l.length % 4294967296),l]).flatten
theorem Zk4(k:UInt8)(ls:List (List UInt8)):(pcs k ls).length=1+2 * ls.length:=by
 unfold pcs
 induction ls with
 |nil=>rfl
 |cons l ls ih=>simp only[List.map_cons,List.flatten_cons,List.length_cons,Vx3,List.length_nil]at ih ⊢;omega
theorem ZpS(k:UInt8)(ls:List (List UInt8))(j:Nat)(h:j<ls.length):pcs k (ls.take (j+1))=pcs k (ls.take j)++[be 4 (ls[j].length % 4294967296),ls[j]]:=by
 unfold pcs
 rw[Vy5 h,List.map_append,List.flatten_append]
 simp
theorem ZpR(k:UInt8)(ls:List (List UInt8)):(pcs k ls).flatten=tagB k ls:=by
 unfold pcs tagB partB
 simp only[List.flatten_cons,List.singleton_append,List.cons.injEq,true_and]
 induction ls with
 |nil=>rfl
 |cons l ls ih=>simp only[List.map_cons,List.flatten_cons,List.flatten_append,List.flatten_nil,List.append_nil,ih,List.append_assoc]
theorem Yj5{EB:TypeId}{w:World}{B:Nat}{v:Option Addr×Nat}{l:List UInt8}(h:Part EB w B v l):∀(j:Nat) (u:Option Addr×Nat) (m:List UInt8),[v][j]? =some u→[l][j]? =some m→Part EB w B u m:=by
 intro j u m hu hm
 rcases j with _|j
 ·simp at hu hm
  subst hu hm
  exact h
 ·simp at hm
theorem Yj6{EB:TypeId}{w:World}{B:Nat}{v v2:Option Addr×Nat}{l l2:List UInt8}(h:Part EB w B v l)(h2:Part EB w B v2 l2):∀(j:Nat) (u:Option Addr×Nat) (m:List UInt8),[v,v2][j]? =some u→[l,l2][j]? =some m→Part EB w B u m:=by
 intro j u m hu hm
 rcases j with _|_|j
 ·simp at hu hm
  subst hu hm
  exact h
 ·simp at hu hm
  subst hu hm
  exact h2
 ·simp at hm
theorem ZoT(k:UInt8)(A:Option Addr)(c n:Nat)(ls:List (List UInt8))(w:World)(hr:Rds w A ls)(hn:n=ls.length)(hc:ls.length≤1000000):
  Calls Tryd.prog 47 #[.int .u8 (k.toNat:Int),.slice A n c] w fun r w'=>∃A' c',r=.returned (.slice A' (pcs k ls).length c')∧OwnS 68 5 w' w.heap.size A' c' (pcs k ls)∧Below w.heap.size w w':=by
 subst hn
 obtain⟨i0,hi0,hz0,hz1,hz2⟩:=info_parts Zid
 go_enter Tryd.func47,Tryd.ntmps47
 have one:∀(g:Nat) (v:Value) (w:World),w.heap.size=g→∀(j:Nat) (u:Value),[v][j]? =some u→(w.alloc (.cells #[v] 68)).cell? ⟨g,j,none⟩=some u:=by
  intro g v w hg j u hu
  subst hg
  rw[cell_of_row _ _ _ _ _ _ (Vx0 w _)]
  simpa using hu
 have two:∀(g:Nat) (v1 v2:Value) (w:World),w.heap.size=g→∀(j:Nat) (u:Value),[v1,v2][j]? =some u→(w.alloc (.cells #[v1,v2] 68)).cell? ⟨g,j,none⟩=some u:=by
  intro g v1 v2 w hg j u hu
  subst hg
  rw[cell_of_row _ _ _ _ _ _ (Vx0 w _)]
  simpa using hu
 go_wp2_with (first
  |(at_make;refine wpList_make_own _ rfl _ _ 82 rfl w.heap.size 68 i0 (.slice none 0 0) 1 Zfj hi0 hz0 hz1 .i64 .i64 _ (1+2 * ls.length) rfl rfl (by omega) (by rw[hz2];omega) (by unfold maxLen;omega) (Vx8 _) ?_;intro w1 ho1 hg1;have O1:OwnS 68 5 w1 w.heap.size (some ⟨w.heap.size,0,none⟩) (1+2 * ls.length) []:=⟨[],rfl,ho1,fun j v l h=>by simp at h⟩;have W1:Below w.heap.size w w1:=(Below.refl _ w).grown hg1 (Vx8 _) (by intro k hk;cases hk);clear ho1 hg1)
  |(at_builtin;refine ZnO Zfj Zid Zsz rfl (.tmp 13) (.tmp 16) rfl w.heap.size _ 0 1 _ _ (w1.heap.size+1) [] [[k]] [(some ⟨w1.heap.size,0,none⟩,1)] rfl rfl rfl rfl ((O1.alloc _).alloc _) rfl (Yj5 ((Part.own (v:=(some ⟨w1.heap.size,0,none⟩,1)) (l:=[k]) (Own.of_block (Vx0 w1 _) W1.size (by simp[maxLen]))).bel (Zad _ _))) (one _ _ _ (by simp)) (by simp) (by have:=W1.size;simp;omega) ?_;intro A2 c2 w2 ho2 hb2))
 replace hb2:Below w.heap.size w w2:=W1.trans (((((Below.refl w.heap.size w1).alloc W1.size _).alloc (by have:=W1.size;simp;omega) _)).trans hb2)
 clear O1 W1
 go_loopw [5,20] (fun v i wr=>∃(j:Nat) (A':Option Addr) (c':Nat),j≤ls.length∧i=.int .i64 j∧v=.slice A' (pcs k (ls.take j)).length c'∧OwnS 68 5 wr w.heap.size A' c' (pcs k (ls.take j))∧Below w.heap.size w wr) (fun _ i _=>ls.length-(intOf i).toNat)
 case atStart=>exact⟨0,A2,c2,Nat.zero_le _,rfl,by rw[List.take_zero];rfl,by rw[List.take_zero];exact ho2,hb2⟩
 case round=>
  obtain⟨j,A',c',hj,rfl,rfl,ho,hb⟩:=hrel
  have hx:=Zk4 k (ls.take j)
  rw[List.length_take,Nat.min_eq_left hj]at hx
  by_cases hlt:j<ls.length
  ·obtain⟨b,o,rfl,hcc⟩:=hr (by omega)
   obtain⟨A3,c3,hcell0,hr0,hc3,hm3⟩:=hcc j _ (Vx9 hlt)
   have hP:Hid (Part 5 wr w.heap.size (A3,c3) ls[j]):=(Part.old hr0 hc3 hm3 (Vx8 _)).bel hb
   have hcell:=(hb.cell (p:=⟨b,o+j,none⟩) (Vx5 _ _ hcell0)).trans hcell0
   clear hcell0 hr0 hc3 hm3
   have E:=hid (ZpS k ls j hlt)
   generalize hy:pcs k (ls.take (j+1))=y at *
   replace hy:=hid hy
   generalize pcs k (ls.take j)=x at *
   generalize ls[j]=z at *
   clear hcc hr hb2 ho2
   have hbs:=hb.size
   replace hx:=hid hx
   go_wp2_with (first
    |(go_at_call 59;refine(count_any A3 z.length c3 z _ rfl).mono ?_;rintro e w3 ⟨A4,c4,rfl,ho4,hb4⟩;replace ho4:=hid ho4;generalize be 4 (z.length % 4294967296)=q at *)
    |(at_builtin;refine ZnO Zfj Zid Zsz rfl (.tmp 24) (.tmp 28) rfl w.heap.size A' x.length 2 c' _ w3.heap.size x [q,z] [(A4,c4),(A3,c3)] rfl rfl rfl rfl ((ho.bel hb4).alloc _) rfl (Yj6 (Part.own (v:=(A4,c4)) ((ho4.out.base hbs).alloc _)) ((hP.out.bel hb4).bel (Zad _ _))) (two _ _ _ _ rfl) (by have:=hx.out;simp;omega) (by have:=hb4.size;simp;omega) ?_;intro A5 c5 w5 ho5 hb5;rw[← E.out]at ho5 ⊢))
   go_roundw
   case rel=>rw[← hy.out]at ho5 ⊢;exact⟨j+1,A5,c5,by omega,by go_num,rfl,ho5,(hb.trans (hb4.mono hbs)).trans (((Below.refl _ w3).alloc (by have:=hb4.size;omega) _).trans hb5)⟩
   case measure=>simp[intOf];omega
  ·obtain rfl:j=ls.length:=by omega
   rw[List.take_length]at ho ⊢
   generalize hy:pcs k ls=x at *
   replace hy:=hid hy
   go_wp2
   go_ret
   rw[hy.out]
   exact⟨_,_,rfl,ho,hb⟩
theorem Zcx(k:UInt8)(A:Option Addr)(c n:Nat)(ls:List (List UInt8))(w:World)(hr:Rds w A ls)(hn:n=ls.length)(hc:ls.length≤400000)(hl:(tagB k ls).length≤100000)(hT:Tab w):
  Calls Tryd.prog 33 #[.int .u8 (k.toNat:Int),.slice A n c] w fun r w'=>r=.returned (.agg ((sha256 (tagB k ls)).map bv).toArray)∧Below w.heap.size w w':=by
 subst hn
 have hp:=Zk4 k ls
 have hf:=hid (ZpR k ls)
 have hw0:=hT.low
 obtain⟨dg,hdg⟩:∃dg,dg=sha256 (tagB k ls):=⟨_,rfl⟩
 rw[← hdg]
 have ld:dg.length=32:=by rw[hdg];exact S8.bytes_len _
 have z1:((dg.map bv).toArray).size=32:=by simp[ld]
 have o1:=Zay dg
 replace hdg:=hid hdg
 replace hT:=hid hT
 have hr1:=hr.alloc (.cells z32 23)
 go_enter Tryd.func33,Tryd.ntmps33
 go_wp2_with ((with_reducible refine Zac rfl 23 rfl z32 Zam ?_))
 refine(ZoT k A c ls.length ls _ hr1 rfl (by omega)).mono ?_
 rintro e w2 ⟨A1,c1,rfl,ho1,hb2⟩
 have R2:=hid ((hb2.block w.heap.size (by simp)).trans (Vx0 w (.cells z32 23)))
 have W2:=hid (Zag (Zad w _) hb2)
 have r1:=ho1.rds
 clear ho1 hb2
 generalize pcs k ls=x at *
 replace hp:=hid hp
 go_wp2_with fail
 refine(Zep A1 c1 x.length x _ r1 rfl (by have:=hp.out;omega) (by rw[hf.out];omega) (hT.out.bel W2.out hw0)).mono ?_
 rintro e w3 ⟨rfl,hb3⟩
 rw[hf.out,←hdg.out]
 have R3:=hid ((hb3.block _ (block_lt R2.out)).trans R2.out)
 have W3:=hid (Zag W2.out hb3)
 clear hb3
 go_wp2_with (((with_reducible refine stW 4 8 w.heap.size 23 z32 ?_ ?_ ?_ ?_ ?_);exact R3.out;(rw[z1];exact Zai);(rw[z1];exact z32_size);exact o1;intro w4 hg4 hb4 hs4))
 refine Vy0 (v:=.agg ((dg.map bv).toArray)) ?_ rfl ⟨rfl,?_⟩
 ·exact results_cell_row Tryd.results33 _ _ w.heap.size 23 _ (0,0) _ rfl hg4 Tryd.underlying23 rfl (by rw[z1];exact Zai)
 ·exact W3.out.grown hb4 W3.out.size (by simp)
end Go.Proofs.YtimaoonpgilekaaDoor
