import Derived.Test.YtomhoehlgagiiaaGreatDoorMem
import Derived.Laws.MakeOwn
import Derived.Test.YtomhoehlgagiiaaGreatDoorPuQ
import Derived.Test.YtomhoehlgagiiaaGreatDoorBits
import Derived.Test.YtomhoehlgagiiaaGreatDoorBkW
import Derived.Test.YtomhoehlgagiiaaGreatDoorBkY
set_option maxRecDepth 100000
set_option linter.all false
namespace Go.Proofs.YtomhoehlgagiiaaGreatDoor
section
open Go.RowKit
theorem Zsg{P:Program}{α:Type}[Enc α]{S E:TypeId}{z:Value}{bytes:Nat}(hS:Slot P α S E z bytes)(hsm:2 * Enc.size α≤16777216)(cs ds:List Value)(hcs:cs.length=Enc.size α)(hds:ds.length=Enc.size α)(v u:Value)(hv:v.cells=cs.toArray)(hu:u.cells=ds.toArray)(w:World):
  (Instr.buildSlice S 2 #[(0,v),(1,u)]).run P w=.ok (.slice (some ⟨w.heap.size,0,none⟩) 2 2) (w.alloc (.cells (cs++ds).toArray E)):=by
 obtain⟨i,hi,hz,hsz,hby⟩:=info_parts hS.info
 have hsv:v.cells.size=Enc.size α:=by rw[hv,List.size_toArray,hcs]
 have hsu:u.cells.size=Enc.size α:=by rw[hu,List.size_toArray,hds]
 have hpos:=hS.pos
 refine run_buildSlice w S E 2 #[(0,v),(1,u)] _ i z hS.under hi hz (by omega) (by omega) ?_
 rw[show (#[(0,v),(1,u)]:Array (Nat×Value)).toList=[(0,v),(1,u)] from rfl,ZaQ (off:=0) (by simp[hsv,hsz]) (by simp;omega),ZaQ (off:=Enc.size α) (by simp[hsu,hsz]) (by simp[lay,hv];omega)]
 rw[Instr.fill,hv,hu]
 congr 2
 simp only[lay,List.take_zero,List.nil_append]
 rw[List.take_append_of_le_length (by omega),List.take_of_length_le (by omega),List.drop_of_length_le (by simp;omega),List.append_nil]
theorem Zif{P:Program}{α:Type}[Enc α]{S E:TypeId}{z:Value}{bytes:Nat}(hS:Slot P α S E z bytes)(hsm:2 * Enc.size α≤16777216){w:World}{ops:Array Oper}{rest:List Oper}{o:Oper}{a:Act}{Q:Exit→Act→World→Prop}(hg:Region.wanted o (yielded ops a.tmps)=true)
  (x y:Operand) (hop:o.op=.buildSlice S 2 #[(0,x),(1,y)]) (cs ds:List Value) (hx:(a.eval x).cells=cs.toArray) (hy:(a.eval y).cells=ds.toArray) (hcs:cs.length=Enc.size α) (hds:ds.length=Enc.size α)
  (hK:wpList P ops Q rest (a.put o.dst (.slice (some ⟨w.heap.size,0,none⟩) 2 2)) (w.alloc (.cells (cs++ds).toArray E))):wpList P ops Q (o::rest) a w:=
 wpList_step fun _ hK2=>by
  rw[if_pos hg]
  unfold Oper.wp execOp
  simp only[hop,List.map_toArray,List.map_cons,List.map_nil,Sem.run_bind,Zsg hS hsm cs ds hcs hds _ _ hx hy w,Result.andThen_ok]
  exact hK2 _ _ hK
theorem Zsc{α:Type}[Enc α]{F:Nat→Prop}{w:World}{x y:α}{cs ds:List Value}{g:Nat}{E:TypeId}{fr:Nat×Nat}(hc:cs.length=Enc.size α)(h:Enc.rep F w x cs)(k:Enc.rep F w y ds)(hg:w.heap[g]? =some (.cells (cs++ds).toArray E fr)):Row (fun b=>F b∨b=g) w (some ⟨g,0,none⟩) [x,y]:=fun _=>
 ⟨g,0,rfl,.inr rfl,(Array.getElem?_eq_some_iff.1 hg).1,fun j e he=>by
  rcases j with _|_|j
  ·injection he with he
   subst he
   refine⟨cs,Enc.mono h fun b hb _=>.inl hb,fun i v hv=>?_⟩
   rw[cell_of_row w g _ _ E fr hg,Nat.zero_mul,Nat.add_zero,Nat.zero_add,List.getElem?_toArray,List.getElem?_append_left (List.getElem?_eq_some_iff.1 hv).1]
   exact hv
  ·injection he with he
   subst he
   refine⟨ds,Enc.mono k fun b hb _=>.inl hb,fun i v hv=>?_⟩
   rw[cell_of_row w g _ _ E fr hg,Nat.zero_add,Nat.one_mul,List.getElem?_toArray,List.getElem?_append_right (by omega),hc,Nat.add_sub_cancel_left]
   exact hv
  ·cases he⟩
end
section
open Go.RowKit
theorem YgQ{cs:List Value}{n j i:Nat}{v:Value}(hj:j<n)(hv:cs[i]? =some v):(madeCells cs.toArray (n * cs.length))[0+j * cs.length+i]? =some v:=by
 have hi:=(List.getElem?_eq_some_iff.1 hv).1
 have hk:j * cs.length+i<n * cs.length:=by
  have:(j+1) * cs.length≤n * cs.length:=Nat.mul_le_mul_right _ hj
  rw[Nat.succ_mul]at this
  omega
 have hm:(j * cs.length+i) % cs.length=i:=by rw[Nat.add_comm,Nat.add_mul_mod_self_right,Nat.mod_eq_of_lt hi]
 have hg:=(List.getElem?_eq_some_iff.1 hv).2
 simp[madeCells,hk,hm,hi,hg]
theorem Yel{α:Type}[Enc α]{w:World}{g n:Nat}{E:TypeId}{fr:Nat×Nat}{x:α}{cs:List Value}(hl:cs.length=Enc.size α)(hx:∀W,Enc.rep (fun _=>True) W x cs)(hg:w.heap[g]? =some (.cells (madeCells cs.toArray (n * cs.length)) E fr)):Row (fun _=>True) w (some ⟨g,0,none⟩) (List.replicate n x):=fun _=>
 ⟨g,0,rfl,trivial,(Array.getElem?_eq_some_iff.1 hg).1,fun j e he=>by
  have hj:j<n:=by
   have:=(List.getElem?_eq_some_iff.1 he).1
   simpa using this
  rw[List.getElem?_replicate,if_pos hj]at he
  injection he with he
  subst he
  refine⟨cs,hx w,fun i v hv=>?_⟩
  rw[cell_of_row w g _ _ E fr hg,←hl]
  exact YgQ hj hv⟩
theorem ZlN{P:Program}{α:Type}[Enc α]{S E:TypeId}{z:Value}{bytes:Nat}(hS:Slot P α S E z bytes){w:World}{ops:Array Oper}{rest:List Oper}{o:Oper}{a:Act}{Q:Exit→Act→World→Prop}(hg:Region.wanted o (yielded ops a.tmps)=true)
  (l c:Operand) (hop:o.op=.makeSlice S l c) (n:Nat) (hl:a.eval l=.int .i64 (n:Int)) (hc:a.eval c=.int .i64 (n:Int)) (hn:n≤1000) (hb:bytes≤1000000) (x:α) (cs:List Value) (hz:z.cells=cs.toArray) (hx:∀W,Enc.rep (fun _=>True) W x cs)
  (hK:∀g w',w.heap.size=g→Row (fun _=>True) w' (some ⟨g,0,none⟩) (List.replicate n x)→Below w.heap.size w w'→wpList P ops Q rest (a.put o.dst (.slice (some ⟨g,0,none⟩) n n)) w'):wpList P ops Q (o::rest) a w:=
 wpList_step fun _ hK2=>by
  rw[if_pos hg]
  obtain⟨i,hi,hz1,hsz,hby⟩:=info_parts hS.info
  have hcl:cs.length=Enc.size α:=Enc.len (hx w)
  have h:=run_make (P:=P) w S E i z hS.under hi hz1 .i64 .i64 (n:Int) (n:Int) (by omega) (Int.le_refl _) (by
   have:i.bytes * n≤1000000 * 1000:=Nat.mul_le_mul (by rw[hby];exact hb) hn
   have h2:((i.bytes * n:Nat):Int)≤281474976710656:=by omega
   rwa [Int.natCast_mul]at h2) (by omega)
  rw[hsz,hz,←hcl]at h
  simp only[Int.toNat_natCast]at h
  unfold Oper.wp execOp
  simp only[hop,hl,hc,h,Sem.run_bind,Result.andThen_ok]
  exact hK2 _ _ (hK _ _ rfl (Yel hcl hx (heap_alloc_new w _)) (Zad _ _))
end
section
open Go.RowKit
def kMe:Dg:=⟨sha256 (tagB 3 [z0.1]),S8.bytes_len _⟩
def payU(n a f:Nat):Tx:=⟨z0,dfst 1,n,a,f,z0⟩
def payX(n a f:Nat):Tx:=signX (payU n a f)
theorem ZzH{c:UInt8}(h:kMe=dfst c):(sha256 (tagB 3 [z0.1])).head? =some c:=congrArg (fun d:Dg=>d.1.head?) h
theorem kMe_1:kMe≠dfst 1:=fun h=>absurd (ZzH h) (by decide +kernel)
theorem kMe_2:kMe≠dfst 2:=fun h=>absurd (ZzH h) (by decide +kernel)
theorem d12:dfst 1≠dfst 2:=by decide +kernel
theorem ZdV(n a f:Nat):fromX (payX n a f)=kMe:=Subtype.ext (congrArg (fun l=>sha256 (tagB 3 [l])) (show (payX n a f).p.1=z0.1 from rfl))
theorem Yfs(x:Tx):(signX x).s=signD (signX x):=rfl
theorem ZrW(n a f:Nat):(payX n a f).s=signD (payX n a f):=Yfs (payU n a f)
theorem Zko:decide (zX.s=signD zX)=false:=by
 refine decide_eq_false fun h=>?_
 have h2:(sha256 (tagB 4 [bodyX zX])).head? =some 0:=(congrArg (fun d:Dg=>d.1.head?) h).symm
 exact absurd h2 (by decide +kernel)
def a10:Ac:=⟨0,10⟩
theorem Zya:a10.ok:=⟨by decide,by decide⟩
structure Ten (t:Tr):Prop where
 may:mayA t=true
 all:allT t=setP [] kMe a10
 len:t.ns.length≤257
section
variable{t o:Tr}(h:Ten t)
include h
theorem Ten.st:St (allT t):=(Zcm h.may).2
theorem Ten.me:inA (allT t) kMe=a10:=by rw[h.all];exact ZeN (ps:=[]) (by decide +kernel) kMe Zya
theorem Ten.other{k:Dg}(hk:kMe≠k):inA (allT t) k=ac0:=by
 rw[h.all,ZcY (ps:=[]) (by decide +kernel) _ hk]
 exact ZeX rfl
theorem Ten.next(a f:Nat):nextB (allT t) (payX 0 a f)=true:=by
 unfold nextB
 rw[ZdV,h.me]
 rfl
theorem Ten.pays(a f:Nat):payTE t (payX 0 a f)=0:=by
 unfold payTE
 rw[if_pos h.may,if_pos (decide_eq_true (ZrW 0 a f)),if_pos (h.next a f),if_neg (by rw[decide_eq_true_eq];have:=h.len;omega)]
theorem Ten.poor{a f:Nat}(haf:10<a+f)(box:Dg):payTC t (payX 0 a f) box=150:=by
 unfold payTC
 rw[if_pos (h.pays a f)]
 unfold paidC
 have hp:poorB (allT t) (payX 0 a f)=true:=by
  unfold poorB
  rw[ZdV,h.me]
  exact decide_eq_true haf
 rw[if_pos hp]
theorem Ten.bare{a f:Nat}(haf:10<a+f){box:Dg}(ho:PayOk t (payX 0 a f) box o):mayA o=true∧o.ns.length≤1800∧getA o kMe=⟨1,10⟩∧getA o (dfst 1)=ac0:=by
 obtain⟨o1,o2,o3,-⟩:=Zd7 (h.pays a f) ho
 have hc:=h.poor haf box
 unfold payTC at hc
 rw[if_pos (h.pays a f)]at hc
 have hl:paidL (allT t) (payX 0 a f) box=bareL (allT t) (payX 0 a f):=by unfold paidL;rw[if_neg (by rw[hc];decide)]
 refine⟨o1,by have:=h.len;omega,?_,?_⟩
 ·rw[Zdv o1,o2,hl,←ZdV 0 a f,bare_self h.st (h.next a f),ZdV,h.me]
  rfl
 ·rw[Zdv o1,o2,hl]
  unfold bareL
  rw[ZdV,ZcY h.st.1 _ kMe_1]
  exact h.other kMe_1
theorem Ten.less:inA (lessL (allT t) (payX 0 7 2)) kMe=⟨1,1⟩∧(∀ k,kMe≠k→inA (lessL (allT t) (payX 0 7 2)) k=ac0):=by
 have hb:=Zjb h.st (h.next 7 2)
 refine⟨?_,fun k hk=>?_⟩
 ·have e:=ZeN hb.1 kMe (ZkT (ps:=allT t) (h.next 7 2))
  rw[ZdV,h.me]at e
  unfold lessL
  rw[ZdV,h.me]
  exact e
 ·unfold lessL bareL
  rw[ZdV,ZcY (Ybd h.st.1 _ _) _ hk,ZcY h.st.1 _ hk]
  exact h.other hk
theorem Ten.more1:moreB (lessL (allT t) (payX 0 7 2)) (dfst 1) 7=true:=by
 unfold moreB
 rw[h.less.2 _ kMe_1]
 rfl
theorem Ten.more2:moreB (moreL (lessL (allT t) (payX 0 7 2)) (dfst 1) 7) (dfst 2) 2=true:=by
 unfold moreB
 rw[Zek (ZgD h.st (h.next 7 2)) 7 d12,h.less.2 _ kMe_2]
 rfl
theorem Ten.code:payTC t (payX 0 7 2) (dfst 2)=0:=by
 unfold payTC
 rw[if_pos (h.pays 7 2)]
 unfold paidC
 have hp:poorB (allT t) (payX 0 7 2)=false:=by
  unfold poorB
  rw[ZdV,h.me]
  rfl
 have hv:overB (allT t) (payX 0 7 2) (dfst 2)=false:=by
  unfold overB
  have e1:moreB (lessL (allT t) (payX 0 7 2)) (payX 0 7 2).t (payX 0 7 2).a=true:=h.more1
  have e2:moreB (moreL (lessL (allT t) (payX 0 7 2)) (payX 0 7 2).t (payX 0 7 2).a) (dfst 2) (payX 0 7 2).f=true:=h.more2
  rw[e1,e2]
  rfl
 rw[hp,hv,if_neg (by decide),if_neg (by decide)]
theorem Ten.paid(ho:PayOk t (payX 0 7 2) (dfst 2) o):mayA o=true∧o.ns.length≤1800∧getA o kMe=⟨1,1⟩∧getA o (dfst 1)=⟨0,7⟩∧getA o (dfst 2)=⟨0,2⟩:=by
 obtain⟨o1,o2,o3,-⟩:=Zd7 (h.pays 7 2) ho
 have hc:=h.code
 unfold payTC at hc
 rw[if_pos (h.pays 7 2)]at hc
 have hl:paidL (allT t) (payX 0 7 2) (dfst 2)=moreL (moreL (lessL (allT t) (payX 0 7 2)) (dfst 1) 7) (dfst 2) 2:=by unfold paidL;rw[if_pos hc];rfl
 have hs1:=ZgD h.st (h.next 7 2)
 have hs2:=ZhZ hs1 h.more1
 refine⟨o1,by have:=h.len;omega,?_,?_,?_⟩
 ·rw[Zdv o1,o2,hl,Zek hs2 2 kMe_2.symm,Zek hs1 7 kMe_1.symm]
  exact h.less.1
 ·rw[Zdv o1,o2,hl,Zek hs2 2 d12.symm,Zj0 hs1 h.more1,h.less.2 _ kMe_1]
  rfl
 ·rw[Zdv o1,o2,hl,Zj0 hs2 h.more2,Zek hs1 7 d12,h.less.2 _ kMe_2]
  rfl
theorem Ten.gives(d:Dp):giveTE t=0:=by
 unfold giveTE
 rw[if_pos h.may,if_neg (by have:=h.len;omega)]
theorem Ten.over(d:Dp)(h1:d.t=kMe)(h2:d.a=18446744073709551615):giveTC t d=151:=by
 unfold giveTC
 rw[if_pos (h.gives d)]
 unfold giveC moreB
 rw[h1,h.me,h2,if_neg (by decide)]
end
end
section
open Go.RowKit
theorem Zeg{t:Tr}{x:Hd}{ds:List Dp}{xs:List Tx}{box:Dg}{z:Int}(h:applyE t x ds xs box=z)(hz:¬z=0):applyH t x ds xs box=zH∧applyR t x ds xs box=[]:=by
 rw[← h]at hz
 exact⟨by unfold applyH;rw[if_neg hz],by unfold applyR;rw[if_neg hz]⟩
theorem ZpH(x:Dp):applyE ⟨[],0⟩ zH (List.replicate 17 x) [] zBox=4:=by
 unfold applyE
 rw[if_pos Zev,if_pos ZsO,if_neg (by decide),if_pos (by rw[decide_eq_true_eq,List.length_replicate];decide)]
theorem ZkY(xs:List Tx)(h:xs.length≤16):applyE ⟨[],0⟩ zH [] xs zBox=payE zBox [] xs:=by
 unfold applyE
 rw[if_pos Zev,if_pos ZsO,if_neg (by decide),if_neg (by simp),if_neg (by rw[decide_eq_true_eq];omega),Zhi]
 rfl
theorem ZtV(x:Tx)(h:decide (x.s=signD x)=false):payE zBox [] [x]=110:=by
 unfold payE checkX
 rw[if_neg (of_decide_eq_false h),if_neg (by decide)]
theorem Zns(x:Tx)(h:x.s=signD x)(hn:x.n=0):payE zBox [] [x,x]=2:=by
 have h1:checkX x=0:=if_pos h
 have h2:nextB [] x=true:=by
  unfold nextB
  rw[ZeX rfl,hn]
  rfl
 unfold payE
 rw[if_pos h1,if_pos h2]
 unfold payE
 rw[if_pos h1,ZrU Yfg h2,if_neg (by decide)]
def hiH:Hd:={ zH with h:=1073741824 }
theorem YiC:hiH.ok:=⟨by show (-9223372036854775808:Int)≤1073741824∧(1073741824:Int)≤9223372036854775807;decide,by show (-9223372036854775808:Int)≤0∧(0:Int)≤9223372036854775807;decide⟩
theorem ZpG:applyE ⟨[],0⟩ hiH [] [] zBox=8:=by
 unfold applyE
 rw[if_pos Zev,if_pos (show mayH hiH=true by decide),if_pos (by decide)]
theorem ZyF:Tryz.prog.built 28 [(0,.int .i64 1073741824)]=some (hdC hiH).toArray:=by kernel_rfl
theorem YaO{F:Nat→Prop}(w:World)(x:Dp)(h:x.ok):Enc.rep F w x (dpC x):=
 ⟨[.int .u64 (x.n:Int)],x.t.1.map bv++[.int .u64 (x.a:Int)],by simp[dpC,dpS],⟨rfl,h.1⟩,x.t.1.map bv,[.int .u64 (x.a:Int)],rfl,rfl,⟨rfl,h.2⟩⟩
theorem ZnB{F:Nat→Prop}(w:World)(x:Tx)(h:x.ok):Enc.rep F w x (txC x):=
 ⟨x.p.1.map bv,x.t.1.map bv++([.int .u64 (x.n:Int)]++([.int .u64 (x.a:Int)]++([.int .u64 (x.f:Int)]++x.s.1.map bv))),by simp[txC,txS],rfl,x.t.1.map bv,[.int .u64 (x.n:Int)]++([.int .u64 (x.a:Int)]++([.int .u64 (x.f:Int)]++x.s.1.map bv)),rfl,rfl,[.int .u64 (x.n:Int)],[.int .u64 (x.a:Int)]++([.int .u64 (x.f:Int)]++x.s.1.map bv),rfl,⟨rfl,h.1⟩,[.int .u64 (x.a:Int)],[.int .u64 (x.f:Int)]++x.s.1.map bv,rfl,⟨rfl,h.2.1⟩,[.int .u64 (x.f:Int)],x.s.1.map bv,rfl,⟨rfl,h.2.2⟩,rfl⟩
theorem Zqm{w:World}{ops:Array Oper}{rest:List Oper}{o:Oper}{a:Act}{Q:Exit→Act→World→Prop}(hg:Region.wanted o (yielded ops a.tmps)=true)(l c:Operand)(hop:o.op=.makeSlice 33 l c)(n:Nat)(hl:a.eval l=.int .i64 (n:Int))(hc:a.eval c=.int .i64 (n:Int))(hn:n≤1000)
  (hK:∀g w',w.heap.size=g→Row (fun _=>True) w' (some ⟨g,0,none⟩) (List.replicate n zDp)→Below w.heap.size w w'→wpList Tryz.prog ops Q rest (a.put o.dst (.slice (some ⟨g,0,none⟩) n n)) w'):wpList Tryz.prog ops Q (o::rest) a w:=
 ZlN Ybp hg l c hop n hl hc hn (by decide) zDp (dpC zDp) rfl (fun W=>YaO W zDp ⟨by decide,by decide⟩) hK
theorem Zqn{w:World}{ops:Array Oper}{rest:List Oper}{o:Oper}{a:Act}{Q:Exit→Act→World→Prop}(hg:Region.wanted o (yielded ops a.tmps)=true)(l c:Operand)(hop:o.op=.makeSlice 34 l c)(n:Nat)(hl:a.eval l=.int .i64 (n:Int))(hc:a.eval c=.int .i64 (n:Int))(hn:n≤1000)
  (hK:∀g w',w.heap.size=g→Row (fun _=>True) w' (some ⟨g,0,none⟩) (List.replicate n zX)→Below w.heap.size w w'→wpList Tryz.prog ops Q rest (a.put o.dst (.slice (some ⟨g,0,none⟩) n n)) w'):wpList Tryz.prog ops Q (o::rest) a w:=
 ZlN Zsp hg l c hop n hl hc hn (by decide) zX (txC zX) rfl (fun W=>ZnB W zX ⟨by decide,by decide,by decide⟩) hK
theorem ZsL{w:World}{ops:Array Oper}{rest:List Oper}{o:Oper}{a:Act}{Q:Exit→Act→World→Prop}(hg:Region.wanted o (yielded ops a.tmps)=true)(x y:Operand)(hop:o.op=.buildSlice 34 2 #[(0,x),(1,y)])(t:Tx)(cs:List Value)(hcs:cs=txC t)(hx:a.eval x=.agg cs.toArray)(hy:a.eval y=.agg cs.toArray)(ht:t.ok)
  (hK:∀g w',w.heap.size=g→Row (fun _=>True) w' (some ⟨g,0,none⟩) [t,t]→Below w.heap.size w w'→wpList Tryz.prog ops Q rest (a.put o.dst (.slice (some ⟨g,0,none⟩) 2 2)) w'):wpList Tryz.prog ops Q (o::rest) a w:=by
 subst hcs
 exact Zif Zsp (by show 2 * 99≤16777216;decide) hg x y hop (txC t) (txC t) (by rw[hx];rfl) (by rw[hy];rfl) (ZgR t) (ZgR t) (hK _ _ rfl ((Zsc (F:=fun _=>True) (ZgR t) (ZnB _ t ht) (ZnB _ t ht) (heap_alloc_new w _)).mono fun _ _ _=>trivial) (Zad _ _))
end
end Go.Proofs.YtomhoehlgagiiaaGreatDoor
