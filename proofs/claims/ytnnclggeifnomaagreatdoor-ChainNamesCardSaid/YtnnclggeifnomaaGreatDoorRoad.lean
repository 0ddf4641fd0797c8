import Derived.RangeFuncNested
import Derived.RangeFuncBox
import Derived.RangeFuncBound
import Derived.RangeFuncCalls
import Derived.RangeFuncLeaves
import Derived.Shelf.Abstract
import Derived.Shelf.RegionOpen
import Derived.Laws.EntriesVeiled
import Derived.TacticsInMore
import Derived.LoopNIn
import Derived.LoopIn
import Derived.Test.YtnnclggeifnomaaGreatDoorBits
import Derived.StillTailTactics
set_option maxRecDepth 100000
set_option linter.all false
set_option maxHeartbeats 2000000
namespace Go.Proofs.YtnnclggeifnomaaGreatDoor
open Go.RowKit Go.Shelf
def Keep2(n₀ p q:Nat)(W W':World):Prop:=Below n₀ W W'∧W'.heap[p]? =W.heap[p]?∧W'.heap[q]? =W.heap[q]?
theorem Keep2.refl(n₀ p q:Nat)(W:World):Keep2 n₀ p q W W:=⟨Below.refl _ _,rfl,rfl⟩
theorem Keep2.trans{n₀ p q:Nat}{A B C:World}(h:Keep2 n₀ p q A B)(k:Keep2 n₀ p q B C):Keep2 n₀ p q A C:=⟨h.1.trans k.1,k.2.1.trans h.2.1,k.2.2.trans h.2.2⟩
theorem Keep2.bel{n₀ p q:Nat}{W W':World}(hb:Below W.heap.size W W')(hn:n₀≤W.heap.size)(hp:p<W.heap.size)(hq:q<W.heap.size):Keep2 n₀ p q W W':=⟨hb.mono hn,hb.block p hp,hb.block q hq⟩
theorem ZbR{W W':World}(hb:Below W.heap.size W W'):W.grownBy W' none:=⟨hb.os,hb.tape,hb.output,hb.size,fun k hk _=>hb.block k hk⟩
theorem Zax{W:World}{k:Nat}{row:Option Nat}{cs:Array Value}{t:TypeId}{m:Nat×Nat}(h:W.heap[k]? =some (.cells cs t m))(hr:∀r,row=some r→∃o:Obj,W.heap[r]? =some o∧o.isCells=false):some k≠row:=by
 intro e
 obtain⟨o,ho,hc⟩:=hr k e.symm
 rw[h]at ho
 injection ho with ho
 subst ho
 cases hc
theorem Zaw{W W':World}{B N:Nat}{t:TypeId}{v:Value}(h:Boxed W B t v)(hb:Below N W W')(hB:B<N):Boxed W' B t v:=(hb.block _ hB).trans h
section
variable{F:Fence}{n:Nat}{P:Program}
theorem ZaI{ops:Array Oper}{o:Oper}{a:Act}{w:World}{K:Act→World→Prop}{Q:Exit→Act→World→Prop}{X:Prop}(hw:Region.wanted o (yielded ops a.tmps)=true)(ty:TypeId)(x:Operand)(ho:o.op=.load ty x)
  (g:Nat) (hx:a.eval x=.pointer (some ⟨g,0,none⟩)) (t:TypeId) (cs:Array Value) (fr:Nat×Nat) (d:TypeDesc) (hg:w.heap[g]? =some (.cells cs t fr))
  (hu:P.underlying ty=some d) (hd:(match d with| .struct _| .array _ _=>true|_=>false)=true) (hi:(P.info? ty).map (·.size)=some cs.size)
  (hK:K (a.put o.dst (.agg cs)) w):if Region.wanted o (yielded ops a.tmps)=true then Oper.wpIn F n P o a w K Q else X:=by
 rw[if_pos hw]
 unfold Oper.wpIn
 refine⟨?_,?_⟩
 ·simp[Oper.about,ho]
 ·rw[Oper.semAt_plain F _ _ (by rw[ho];intro c hc';cases hc')]
  simp only[execOp,ho,hx,Instr.loadAt,Instr.sureAddr,Sem.run_bind,Sem.run_pure,Result.andThen_ok,run_loadVar_row w g t ty cs fr d hg hu hd hi]
  exact hK
theorem ZaW{ops:Array Oper}{rest:List Oper}{o:Oper}{a:Act}{w:World}{Q:Exit→Act→World→Prop}(hg0:o.guard=none)(ty:TypeId)(x:Operand)(ho:o.op=.load ty x)
  (g:Nat) (hx:a.eval x=.pointer (some ⟨g,0,none⟩)) (t:TypeId) (cs:Array Value) (fr:Nat×Nat) (d:TypeDesc) (hg:w.heap[g]? =some (.cells cs t fr))
  (hu:P.underlying ty=some d) (hd:(match d with| .struct _| .array _ _=>true|_=>false)=true) (hi:(P.info? ty).map (·.size)=some cs.size)
  (h:wpListIn F n P ops Q rest (a.put o.dst (.agg cs)) w):wpListIn F n P ops Q (o::rest) a w:=by
 refine wpListIn_plain hg0 fun K hK=>?_
 have:=ZaI (F:=F) (n:=n) (P:=P) (ops:=ops) (o:=o) (a:=a) (w:=w) (K:=K) (Q:=Q) (X:=True) (by simp[Region.wanted,hg0]) ty x ho g hx t cs fr d hg hu hd hi (hK _ _ h)
 rw[if_pos (by simp[Region.wanted,hg0])]at this
 exact this
end
theorem ZiS{fn:Func}{p q:Tmp}{t1 t2:TypeId}(h:fn.results=#[.cell p t1,.cell q t2])(tmps:Array Value)(P:Program)(w:World)(a1 a2:Addr)(v1 v2:Value)
  (e1:tmps.getD p undef=.pointer (some a1)) (e2:tmps.getD q undef=.pointer (some a2))
  (l1:(loadVar t1 a1).run P w=.ok v1 w) (l2:(loadVar t2 a2).run P w=.ok v2 w):(results fn tmps).run P w=.ok (.tuple #[v1,v2]) w:=by
 simp only[results,h]
 simp only[Array.getD_eq_getD_getElem?]at e1 e2
 simp[Sem.run_bind,Result.andThen,e1,e2,asAddr,l1,l2]
theorem Zbc{P:Program}{t u:TypeId}{W:World}{g:Nat}{v:Value}(ha:∀w,(isAgg t).run P w=.ok false w)(hb:Boxed W g u v):(loadVar t ⟨g,0,none⟩).run P W=.ok v W:=by
 have hc:=hb.cell
 simp[loadVar,ha,Sem.run_bind,Result.andThen,hc,go_sem]
theorem Yhe(p:Nat)(h:p<8):(128:Int) / 2 ^ p=((2 ^ (7-p):Nat):Int):=by
 have:∀p:Fin 8,(128:Int) / 2 ^ p.val=((2 ^ (7-p.val):Nat):Int):=by decide +kernel
 exact this ⟨p,h⟩
theorem Ydv(i:Nat)(w:World):Calls Tryz.prog 216 #[.int .i64 (i:Int)] w fun r w'=>r=.returned (.int .u8 ((2 ^ (7-i % 8):Nat):Int))∧w'=w:=by
 have q2:=YhI i
 have q4:i % 8<8:=Nat.mod_lt _ (by omega)
 generalize i % 8=p at *
 go_enter Tryz.func216,Tryz.ntmps216
 go_wp2
 go_ret
 refine⟨?_,rfl⟩
 show Ending.returned (.int .u8 ((128:Int) / 2 ^ p))=_
 rw[Yhe p q4]
theorem YcE(c p:Nat)(hc:c<256)(hp:p<8):bits .and .u8 (c:Int) ((2 ^ (7-p):Nat):Int)=((c / 2 ^ (7-p) % 2 * 2 ^ (7-p):Nat):Int):=by
 have:∀c:Fin 256,∀p:Fin 8,bits .and .u8 (c.val:Int) ((2 ^ (7-p.val):Nat):Int)=((c.val / 2 ^ (7-p.val) % 2 * 2 ^ (7-p.val):Nat):Int):=by decide +kernel
 exact this ⟨c,hc⟩ ⟨p,hp⟩
theorem YcG(c:UInt8)(p:Nat)(hp:p<8):bits .xor .u8 (c.toNat:Int) ((2 ^ (7-p):Nat):Int)=((tbyte c p).toNat:Int):=by
 have:∀c:Fin 256,∀p:Fin 8,bits .xor .u8 (c.val:Int) ((2 ^ (7-p.val):Nat):Int)=((tbyte (UInt8.ofNat c.val) p.val).toNat:Int):=by decide +kernel
 have h:=this ⟨c.toNat,c.toNat_lt⟩ ⟨p,hp⟩
 simp only[UInt8.ofNat_toNat]at h
 exact h
theorem ZzT(i:Nat)(m:Int)(w:World)(hm:((2 ^ (7-i % 8):Nat):Int)=m):Calls Tryz.prog 216 #[.int .i64 (i:Int)] w fun r w'=>r=.returned (.int .u8 m)∧w'=w:=by
 subst hm
 exact Ydv i w
set_option maxRecDepth 100000 in
theorem YfZ(l:List UInt8)(i:Nat)(w:World)(hl:l.length=32)(hi:i<256):
  Calls Tryz.prog 218 #[.agg (l.map bv).toArray,.int .i64 (i:Int)] w fun r w'=>r=.returned (.int .u8 (kb l i:Int))∧Below w.heap.size w w':=by
 obtain⟨c,hc⟩:∃c,(l.getD (i / 8) 0).toNat=c:=⟨_,rfl⟩
 have hcl:c<256:=by have:=(l.getD (i / 8) 0).toNat_lt;omega
 have hcell:=Yin (l.map bv).toArray 37 w (i / 8)
 rw[Yio l (i / 8) (by omega),hc]at hcell
 have hk:kb l i=c / 2 ^ (7-i % 8) % 2:=by unfold kb;rw[hc]
 rw[hk]
 clear hk hc
 obtain⟨ds,hds⟩:∃ds,ds=(l.map bv).toArray:=⟨_,rfl⟩
 have hsz:ds.size=32:=by rw[hds];simp[hl]
 rw[← hds]at hcell ⊢
 replace hds:=hid hds
 have q1:=YbB i
 have q3:i / 8<32:=by omega
 have q4:i % 8<8:=Nat.mod_lt _ (by omega)
 have hB:=YcE c (i % 8) hcl q4
 obtain⟨m,hm⟩:∃m:Int,((2 ^ (7-i % 8):Nat):Int)=m:=⟨_,rfl⟩
 have hm0:(2 ^ (7-i % 8):Nat)≠0:=Nat.ne_of_gt (Nat.two_pow_pos _)
 obtain⟨z,hz⟩:∃z,c / 2 ^ (7-i % 8) % 2=z:=⟨_,rfl⟩
 have hzl:z<2:=by rw[← hz];exact Nat.mod_lt _ (by omega)
 rw[hz]at hB ⊢
 rw[hm]at hB
 have hM:=fun W=>ZzT i m W hm
 replace hm0:=hid hm0
 have hE:((z * 2 ^ (7-i % 8):Nat):Int)=0↔z=0:=by
  rw[Int.natCast_eq_zero,Nat.mul_eq_zero]
  exact⟨fun h=>h.resolve_right hm0.out,.inl⟩
 obtain⟨u,hu⟩:∃u:Int,((z * 2 ^ (7-i % 8):Nat):Int)=u:=⟨_,rfl⟩
 rw[hu]at hB hE
 clear hm hz hu hm0
 generalize i / 8=q at *
 replace hM:=hid hM
 go_enter Tryz.func218,Tryz.ntmps218
 go_wp2
 go_quiet ((go_at_call 216;refine Calls.quiet_of_same (hM.out _)))
 rcases Nat.eq_zero_or_pos z with h0|h0
 ·have hu0:=hE.2 h0
  subst h0
  subst hu0
  go_wp2
  go_ret
  exact⟨rfl,below_drewN (Zad _ _) _⟩
 ·have hu0:¬u=0:=fun h=>by have:=hE.1 h;omega
  obtain rfl:z=1:=by omega
  go_wp2
  go_ret
  exact⟨rfl,below_drewN (Zad _ _) _⟩
theorem ZmN(l:List UInt8)(i:Nat)(v:Value)(n:Int)(w:World)(hv:v=.agg (l.map bv).toArray)(hl:l.length=32)(hi:i<256)(hn:(kb l i:Int)=n):
  Calls Tryz.prog 218 #[v,.int .i64 (i:Int)] w fun r w'=>r=.returned (.int .u8 n)∧Below w.heap.size w w':=by
 subst hv hn
 exact YfZ l i w hl hi
theorem ZwN(ds es:Array Value)(w:World):
  Calls Tryz.prog 176 #[.agg ds,.agg es] w fun r w'=>r=.returned (.func (.func 217) #[] #[.pointer (some ⟨w.heap.size,0,none⟩),.pointer (some ⟨w.heap.size+1,0,none⟩)])∧
   w'=(w.alloc (.cells ds 37)).alloc (.cells es 37):=by
 go_enter Tryz.func176,Tryz.ntmps176
 go_wp2
 go_ret
 exact⟨rfl,rfl⟩
def Two.encs(x:Nat×Nat):Array Value:=#[.int .u8 (x.1:Int),.int .u8 (x.2:Int)]
def two(l m:List UInt8)(i:Nat):Nat×Nat:=(kb l i,kb m i)
def twos(l m:List UInt8)(j:Nat):List (Nat×Nat):=(List.range j).map (two l m)
theorem Zge(l m:List UInt8)(j:Nat):twos l m (j+1)=twos l m j++[two l m j]:=by unfold twos;rw[List.range_succ,List.map_append];rfl
theorem Zhx(l m:List UInt8)(j:Nat):(twos l m j).length=j:=by simp[twos]
set_option maxRecDepth 100000 in
theorem ZwM(n:Nat)(hn:2≤n)(p q n₀ lp:Nat)(l m:List UInt8)(hl:l.length=32)(hm:m.length=32)(W:World)(hnW:n₀≤W.heap.size)
  (hcp:W.heap[p]? =some (.cells (l.map bv).toArray 37 (0,0))) (hcq:W.heap[q]? =some (.cells (m.map bv).toArray 37 (0,0)))
  (J Jx:List (Nat×Nat)→World→Prop) (hJ:AbidesFrom W.heap.size J)
  (hY:∀pre x W1,J pre W1→pre.length<256→YieldAt Fence.wide (n-1) Tryz.prog lp (Two.encs x) W1 fun e W'=>
   (e=.returned (.bool true)∧J (pre++[x]) W'∧Keep2 n₀ p q W1 W')∨(e=.returned (.bool false)∧Jx (pre++[x]) W'))
  (h0:J [] W):
  CallsIn Fence.wide n Tryz.prog 217 #[.func (.yield lp) #[] #[],.pointer (some ⟨p,0,none⟩),.pointer (some ⟨q,0,none⟩)] W fun e W'=>(∃ v,e=.returned v)∧
   ((∃ xs,xs=twos l m 256∧J xs W')∨(∃ pre,(∃ j,j≤256∧pre=twos l m j)∧Jx pre W')):=by
 have hpW:=block_lt hcp
 have hqW:=block_lt hcq
 obtain⟨ds,hds⟩:∃ds,ds=l.map bv:=⟨_,rfl⟩
 have hsz:ds.length=32:=by rw[hds];simp[hl]
 obtain⟨es,hes⟩:∃es,es=m.map bv:=⟨_,rfl⟩
 have hsy:es.length=32:=by rw[hes];simp[hm]
 rw[← hds]at hcp
 rw[← hes]at hcq
 replace hds:=hid hds
 replace hes:=hid hes
 replace hcp:=hid hcp
 replace hcq:=hid hcq
 refine callsIn_of_wp Tryz.func217 rfl trivial ?_ rfl
 simp only[Tryz.ntmps217,Vx7,List.length_cons,List.length_nil,Nat.reduceAdd,Nat.reduceSub,Array.replicate_succ,Array.replicate_zero,List.push_toArray,List.append_toArray,List.nil_append,List.cons_append]
 gi_wp2
 gi_loopw [5] (fun i wr=>∃j:Nat,i=.int .i64 (j:Int)∧j≤256∧J (twos l m j) wr∧Keep2 n₀ p q W wr) (fun i _=>256-(intOf i).toNat)
 case atStart=>exact⟨0,rfl,by omega,h0,Keep2.refl _ _ _ _⟩
 case round=>
  obtain⟨i,rfl,hi0,hj,hk⟩:=hrel
  have hdp:=hid (hk.2.1.trans hcp.out)
  have hdq:=hid (hk.2.2.trans hcq.out)
  have hsn:=hk.1.size
  by_cases hi:i<256
  ·have hi2:(i:Int)<256:=by omega
   have hY6:Hid (∀ w6,Below wr.heap.size wr w6→YieldAt Fence.wide (n-1) Tryz.prog lp (Two.encs (two l m i)) w6 fun e W'=>(e=.returned (.bool true)∧J (twos l m i++[two l m i]) W'∧Keep2 n₀ p q w6 W')∨(e=.returned (.bool false)∧Jx (twos l m i++[two l m i]) W')):=
    fun w6 hb=>hY _ _ _ (hJ _ wr w6 none hj (ZbR hb) (by intro r e;cases e)) (by rw[Zhx];exact hi)
   gi_wp2
   ·replace hdp:=hdp.out
    replace hdq:=hdq.out
    refine Yk2 (fun w'=>Below wr.heap.size wr w') (Zao wr) fun hS=>?_
    refine' tiP 0 rfl ?_
    try simp only[sQ]
    refine' tiM 1 rfl (fun _ h=>Zae ((h.block _ (block_lt hdp)).trans hdp)) Tryz.underlying37 (by rw[hsz];exact Zai) ?_
    try simp only[sQ]
    refine' tiP 2 rfl ?_
    try simp only[sQ]
    refine' tiM 4 rfl (fun _ h=>Zae ((h.block _ (block_lt hdq)).trans hdq)) Tryz.underlying37 (by rw[hsy];exact Zai) ?_
    try simp only[sQ]
    refine' tiP 5 rfl ?_
    try simp only[sQ]
    refine rdI 3 rfl fun K hK=>?_
    go_simp
    refine⟨trivial,fun _=>by omega,callsIn_wide.2 ((ZmN l i _ _ wr.drew (by rw[hds.out]) hl hi rfl).mono ?_)⟩
    rintro e w3 ⟨rfl,hb3⟩
    have X3:Below wr.heap.size wr w3:=hS.trans (hb3.mono hS.size)
    simp only[]
    refine hK _ _ X3 fun hS=>?_
    clear hK K
    try simp only[sQ]
    refine rdI 6 rfl fun K hK=>?_
    go_simp
    refine⟨trivial,fun _=>by omega,callsIn_wide.2 ((ZmN m i _ _ w3 (by rw[hes.out]) hm hi rfl).mono ?_)⟩
    rintro e w6 ⟨rfl,hb6⟩
    simp only[]
    have hb36:Below wr.heap.size wr w6:=X3.trans (hb6.mono X3.size)
    obtain⟨fn,tmps,assign,body,hy,hR⟩:=hY6.out w6 hb36
    dsimp only[Two.encs,two]at hy
    refine hK _ _ hb36 fun hS=>?_
    clear hK K
    try simp only[sQ]
    refine Ynp 7 rfl fun K hK=>?_
    go_simp
    refine⟨fun _=>by omega,hR.mono ?_⟩
    rintro e w7 (⟨rfl,hJ7,hk7⟩|⟨rfl,hJx7⟩)
    all_goals
     simp only[]
     refine hK _ _ ?_
     clear hK K
     try simp only[sQ]
     refine Ynp 8 rfl fun K hK=>?_
     go_simp
     refine hK _ _ ?_
     clear hK K
     try simp only[sQ]
     refine dnI ?_
     gi_wp2
    ·go_roundw
     case rel=>exact⟨i+1,by go_num,by omega,by rw[Zge];exact hJ7,hk.trans ((Keep2.bel hb36 (by omega) (block_lt hdp) (block_lt hdq)).trans hk7)⟩
     case measure=>simp[intOf];omega
    ·refine Vy0 (results_none rfl _ _ _) rfl ?_
     exact⟨⟨_,rfl⟩,.inr ⟨_,⟨i+1,by omega,rfl⟩,by rw[Zge];exact hJx7⟩⟩
  ·obtain rfl:i=256:=by omega
   gi_wp2
   go_end0
   exact⟨⟨_,rfl⟩,.inl ⟨_,rfl,hj⟩⟩
section
open Go.RowKit Go.Shelf
attribute [local go_sem] Oper.semAt_some
def Loop4(w:World)(pre:List (Nat×Nat))(W:World):Prop:=
 (∀ x∈pre,x.1=x.2)∧Boxed W (w.heap.size+1+1) 3 (.int .i64 (pre.length:Int))∧Boxed W (w.heap.size+1+1+1) 4 (.bool false)∧Below w.heap.size w W
def Left4(w:World)(cd:Code)(pre:List (Nat×Nat))(W:World):Prop:=
 cd=.exit 0∧∃q x,pre=q++[x]∧(∀ y∈q,y.1=y.2)∧x.1≠x.2∧Boxed W (w.heap.size+1+1) 3 (.int .i64 (q.length:Int))∧Boxed W (w.heap.size+1+1+1) 4 (.bool (decide (x.1<x.2)))∧Below w.heap.size w W
theorem ZwV(w:World)(B:Nat)(hB:w.heap.size≤B):OwnFrom B (Loop4 w):=by
 rintro pre X Y row ⟨h1,h2,h3,h4⟩ hg hr
 have hr2:=fun r e=>(hr r e).2
 exact⟨h1,h2.kept hg (Zax h2 hr2),h3.kept hg (Zax h3 hr2),h4.grown hg h4.size (fun k e=>Vx1 hB (hr k e).1)⟩
theorem ZwO(w:World)(B:Nat)(hB:w.heap.size≤B)(cd:Code):OwnFrom B (Left4 w cd):=by
 rintro pre X Y row ⟨h1,q,x,h2,h3,h4,h5,h6,h7⟩ hg hr
 have hr2:=fun r e=>(hr r e).2
 exact⟨h1,q,x,h2,h3,h4,h5.kept hg (Zax h5 hr2),h6.kept hg (Zax h6 hr2),h7.grown hg h7.size (fun k e=>Vx1 hB (hr k e).1)⟩
theorem Ykr{W:World}{s:Nat}{v e:Value}{tmps:Array Value}(h1:Boxed W (s+1+1) 3 v)(h2:Boxed W (s+1+1+1) 4 e)
  (e1:tmps.getD 4 undef=.pointer (some ⟨s+1+1,0,none⟩)) (e2:tmps.getD 5 undef=.pointer (some ⟨s+1+1+1,0,none⟩)):(results Tryz.f123 tmps).run Tryz.prog W=.ok (.tuple #[v,e]) W:=
 ZiS rfl tmps _ W _ _ _ _ e1 e2 (Zbc Tryz.isAgg3 h1) (Zbc Tryz.isAgg4 h2)
theorem ZvM{l m:List UInt8}{j:Nat}(h:∀x∈twos l m j,x.1=x.2):∀i,i<j→kb l i=kb m i:=fun i hi=>h (two l m i) (List.mem_map.2 ⟨i,List.mem_range.2 hi,rfl⟩)
theorem YbK{l m:List UInt8}{j:Nat}{q:List (Nat×Nat)}{x:Nat×Nat}(h:q++[x]=twos l m j):1≤j∧q=twos l m (j-1)∧x=two l m (j-1):=by
 have hl:=congrArg List.length h
 rw[Zhx]at hl
 simp at hl
 obtain⟨k,rfl⟩:∃k,j=k+1:=⟨j-1,by omega⟩
 rw[Zge]at h
 obtain⟨h1,h2⟩:=List.append_inj' h rfl
 exact⟨by omega,h1,by simpa using h2⟩
set_option maxRecDepth 100000 in
theorem Znp(l m:List UInt8)(w:World)(hl:l.length=32)(hm:m.length=32):
  Calls Tryz.prog 123 #[.agg (l.map bv).toArray,.agg (m.map bv).toArray] w fun r w'=>r=.returned (.tuple #[.int .i64 (shared l m:Int),.bool (ahead l m)])∧Below w.heap.size w w':=by
 obtain⟨ds,hds⟩:∃ds,ds=(l.map bv).toArray:=⟨_,rfl⟩
 have hsz:ds.size=32:=by rw[hds];simp[hl]
 obtain⟨es,hes⟩:∃es,es=(m.map bv).toArray:=⟨_,rfl⟩
 have hsy:es.size=32:=by rw[hes];simp[hm]
 rw[← hds,←hes]
 replace hds:=hid hds
 replace hes:=hid hes
 have hd1:=Vx0 w (.cells ds 37)
 have hd2:=Vx0 (w.alloc (.cells ds 37)) (.cells es 37)
 rw[Vx2]at hd2
 have up:∀{W:World} {k:Nat} {o o':Obj},W.heap[k]? =some o→(W.alloc o').heap[k]? =some o:=fun h=>(Below.heap_alloc _ _ _ (block_lt h)).trans h
 have hd3:=hid (up (o':=.cells #[.bool false] 4) (up (o':=.cells #[.int .i64 0] 3) (up (o':=.cells es 37) hd1)))
 have hd4:=hid (up (o':=.cells #[.bool false] 4) (up (o':=.cells #[.int .i64 0] 3) hd2))
 clear hd1 hd2 up
 obtain⟨sv,hsv⟩:∃v:Int,(shared l m:Int)=v:=⟨_,rfl⟩
 obtain⟨ab,hab⟩:∃b,ahead l m=b:=⟨_,rfl⟩
 rw[hsv,hab]
 replace hsv:=hid hsv
 replace hab:=hid hab
 refine(callsIn_wide (n:=4)).1 ?_
 refine callsIn_of_wp_marks Tryz.func123 rfl trivial ?_ rfl
 simp only[Tryz.ntmps123,Vx7,List.length_cons,List.length_nil,Nat.reduceAdd,Nat.reduceSub,Array.replicate_succ,Array.replicate_zero,List.push_toArray,List.append_toArray,List.nil_append,List.cons_append]
 gi_wp2
 refine wpIn_wide.2 (wp_scope_straight ((wpIn_wide (n:=4)).1 ?_))
 gi_wp2
 refine wpIn_label ?_
 gi_wp2_with (first
  |((with_reducible refine ZaW rfl 37 (.tmp 2) rfl w.heap.size rfl 37 ds (0,0) _ ?_ Tryz.underlying37 rfl ?_ ?_);exact hd3.out;(rw[hsz];exact Zai))
  |((with_reducible refine ZaW rfl 37 (.tmp 3) rfl (w.heap.size+1) rfl 37 es (0,0) _ ?_ Tryz.underlying37 rfl ?_ ?_);exact hd4.out;(rw[hsy];exact Zai))
  |(refine⟨trivial,?_⟩;gi_at_call 176;refine(callsIn_wide.2 (ZwN _ _ _)).mono ?_;rintro e w' ⟨rfl,rfl⟩))
 have bN:=(((Boxed.new ((w.alloc (.cells ds 37)).alloc (.cells es 37)) 3 (.int .i64 0)).alloc (.cells #[.bool false] 4)).alloc (.cells ds 37)).alloc (.cells es 37)
 have bA:=((Boxed.new (((w.alloc (.cells ds 37)).alloc (.cells es 37)).alloc (.cells #[.int .i64 0] 3)) 4 (.bool false)).alloc (.cells ds 37)).alloc (.cells es 37)
 have bP:=Vx0 ((((w.alloc (.cells ds 37)).alloc (.cells es 37)).alloc (.cells #[.int .i64 0] 3)).alloc (.cells #[.bool false] 4)) (.cells ds 37)
 replace bP:=(Below.heap_alloc _ (.cells es 37) _ (block_lt bP)).trans bP
 have bQ:=Vx0 (((((w.alloc (.cells ds 37)).alloc (.cells es 37)).alloc (.cells #[.int .i64 0] 3)).alloc (.cells #[.bool false] 4)).alloc (.cells ds 37)) (.cells es 37)
 have hB0:Below w.heap.size w ((((((w.alloc (.cells ds 37)).alloc (.cells es 37)).alloc (.cells #[.int .i64 0] 3)).alloc (.cells #[.bool false] 4)).alloc (.cells ds 37)).alloc (.cells es 37)):=by(repeat (first|exact Below.refl _ _|assumption|refine Zag ?_ (by assumption)|refine Zag ?_ (Zad _ _)))
 have hs0:((((((w.alloc (.cells ds 37)).alloc (.cells es 37)).alloc (.cells #[.int .i64 0] 3)).alloc (.cells #[.bool false] 4)).alloc (.cells ds 37)).alloc (.cells es 37)).heap.size=w.heap.size+6:=by simp
 simp only[Vx2]at bN bA bP bQ
 clear hd3 hd4
 generalize ((((((w.alloc (.cells ds 37)).alloc (.cells es 37)).alloc (.cells #[.int .i64 0] 3)).alloc (.cells #[.bool false] 4)).alloc (.cells ds 37)).alloc (.cells es 37))=W0 at *
 refine wpIn_rangeFunc_ownG (F:=Fence.wide) rfl (by omega) (gf:=217) (lb:=#[.pointer (some ⟨w.heap.size+1+1+1+1,0,none⟩),.pointer (some ⟨w.heap.size+1+1+1+1+1,0,none⟩)]) rfl trivial (enters_of Tryz.func217 (by kernel_rfl) rfl)
  (encs:=Two.encs) (Kp:=Keep2 w.heap.size (w.heap.size+1+1+1+1) (w.heap.size+1+1+1+1+1)) (S:=fun xs=>xs=twos l m 256) (Sp:=fun pre=>∃j,j≤256∧pre=twos l m j) (N:=256) (w0:=W0)
  (fun lp J Jx W hW hJ hJx hY h0=>ZwM 3 (by omega) (w.heap.size+1+1+1+1) (w.heap.size+1+1+1+1+1) w.heap.size lp l m hl hm W (by have:=hW.size;omega)
   ((hW.block _ (by rw[hs0];omega)).trans (by rw[← hds.out];exact bP)) ((hW.block _ (by rw[hs0];omega)).trans (by rw[← hes.out];exact bQ)) J Jx hJ hY h0)
  (fun h k=>h.trans k) (fun W lp ob ob' hlp h1 h2 h3=>⟨belowK_b (w:=W0) (by omega) W lp ob ob' hlp h1 h2 h3,World.putObj_heap_other (by omega),World.putObj_heap_other (by omega)⟩) (Below.refl _ _) (fun _=>rfl)
  (Loop4 w) (Left4 w) (by rw[hs0];exact ZwV w _ (by omega)) (fun cd=>by rw[hs0];exact ZwO w _ (by omega) cd)
  ⟨by simp,bN,bA,hB0⟩
  (fun x=>{ tmps:=#[.agg ds,.agg es,.pointer (some ⟨w.heap.size,0,none⟩),.pointer (some ⟨w.heap.size+1,0,none⟩),.pointer (some ⟨w.heap.size+1+1,0,none⟩),.pointer (some ⟨w.heap.size+1+1+1,0,none⟩),.int .u8 (x.1:Int),.int .u8 (x.2:Int),.agg ds,.agg es,.func (.func 217) #[] #[.pointer (some ⟨w.heap.size+1+1+1+1,0,none⟩),.pointer (some ⟨w.heap.size+1+1+1+1+1,0,none⟩)],.int .u8 (x.1:Int),.int .u8 (x.2:Int),undef,undef,undef,undef,undef,undef,undef,undef,undef,undef,undef,undef],defers:=[] }) ?assign ?body ?done ?stop
 case assign=>
  rintro lp ⟨x,y⟩ W K hK
  dsimp only[Two.encs]
  gi_wp2
  exact hK
 case body=>
  rintro lp pre ⟨x,y⟩ W ⟨he,hN,hA,hB⟩ hlt
  have hcN:=hN.cell
  have hfN:=hN.frozen
  have hcA:=hA.cell
  have hfA:=hA.frozen
  have wp1:IntKind.i64.wrap ((pre.length:Int)+1)=((pre.length+1:Nat):Int):=by rw[IntWalk.i64_in _ (by omega)];simp
  simp only
  rcases Nat.lt_trichotomy x y with h|h|h
  ·have h1:(x:Int)<(y:Int):=by omega
   gi_wp2
   exact⟨(KeepsOthers.setCell _ _ _).from _,rfl,pre,(x,y),rfl,he,by simp only;omega,hN.other (by omega) _,by rw[show decide ((x,y).1<(x,y).2)=true from Vy2 h];exact hA.set _,hB.setCell (p:=⟨w.heap.size+1+1+1,0,none⟩) (by show _≤w.heap.size+1+1+1;omega) _⟩
  ·subst h
   gi_wp2
   refine⟨(KeepsOthers.setCell _ _ _).from _,⟨(Below.refl _ W).setCell (p:=⟨w.heap.size+1+1,0,none⟩) (by show _≤w.heap.size+1+1;omega) _,Vy3 _ _ _ _ (by show _≠w.heap.size+1+1;omega),Vy3 _ _ _ _ (by show _≠w.heap.size+1+1;omega)⟩,?_,?_,hA.other (by omega) _,hB.setCell (p:=⟨w.heap.size+1+1,0,none⟩) (by show _≤w.heap.size+1+1;omega) _⟩
   ·intro z hz
    rcases List.mem_append.1 hz with hz|hz
    ·exact he z hz
    ·rw[List.mem_singleton.1 hz]
   ·rw[Vx3,List.length_singleton,Int.natCast_add]
    exact hN.set _
  ·have h1:¬(x:Int)<(y:Int):=by omega
   have h2:(y:Int)<(x:Int):=by omega
   gi_wp2
   exact⟨KeepsFrom.refl _ _,rfl,pre,(x,y),rfl,he,by simp only;omega,hN,by rw[show decide ((x,y).1<(x,y).2)=false from Vy1 (by simp only;omega)];exact hA,hB⟩
 case done=>
  rintro D ys W hD rfl ⟨he,hN,hA,hB⟩ hK
  have hlm:l=m:=ZkS hl hm (ZvM he)
  have hsh:shared l m=256:=(Zle hl hm).2 hlm
  have hah:ahead l m=false:=by rw[hlm];exact Zee m
  rw[Zhx]at hN
  have E1:sv=(256:Nat):=by rw[← hsv.out,hsh]
  have E2:ab=false:=by rw[← hab.out,hah]
  clear hlm hsh hah he hsv hab
  rw[← E1]at hN
  rw[← E2]at hA
  clear E1 E2
  have hcN:=hN.cell
  have hfN:=hN.frozen
  have hcA:=hA.cell
  have hfA:=hA.frozen
  gi_wp2
  gi_region
  all_goals gi_wp2
  have X1:=(hN.set (.int .i64 sv)).other (B':=w.heap.size+1+1+1) (by omega) (.bool ab)
  have X2:=(hA.other (B':=w.heap.size+1+1) (by omega) (.int .i64 sv)).set (.bool ab)
  have X4:Below w.heap.size w ((W.setCell ⟨w.heap.size+1+1,0,none⟩ (.int .i64 sv)).setCell ⟨w.heap.size+1+1+1,0,none⟩ (.bool ab)).drew:=((hB.setCell (p:=⟨w.heap.size+1+1,0,none⟩) (by show _≤w.heap.size+1+1;omega) _).setCell (p:=⟨w.heap.size+1+1+1,0,none⟩) (by show _≤w.heap.size+1+1+1;omega) _).drew
  have X6:((W.setCell ⟨w.heap.size+1+1,0,none⟩ (.int .i64 sv)).setCell ⟨w.heap.size+1+1+1,0,none⟩ (.bool ab)).drew.heap[D]? =some (.deferred (some [])):=(Vy3 _ _ _ _ (by show D≠w.heap.size+1+1+1;omega)).trans ((Vy3 _ _ _ _ (by show D≠w.heap.size+1+1;omega)).trans hK)
  generalize ((W.setCell ⟨w.heap.size+1+1,0,none⟩ (.int .i64 sv)).setCell ⟨w.heap.size+1+1+1,0,none⟩ (.bool ab))=X at *
  replace X1:Boxed X.drew _ _ _:=X1
  replace X2:Boxed X.drew _ _ _:=X2
  generalize X.drew=Y at *
  have hD2:=fun (r:Nat) (e:some D=some r)=>(⟨_,by cases e;exact X6,rfl⟩:∃o:Obj,Y.heap[r]? =some o∧o.isCells=false)
  dsimp only[Exit.noGoto]
  refine⟨by simp,.inl ⟨_,_,rfl,run_takeDeferred X6,?_⟩⟩
  exact⟨_,Ykr (X1.kept (grownBy_putObj' Y D _) (Zax X1 hD2)) (X2.kept (grownBy_putObj' Y D _) (Zax X2 hD2)) rfl rfl,rfl,X4.trans (belowK_b (w:=w) (Vx8 _) Y D _ _ (by omega) X6 rfl rfl)⟩
 case stop=>
  rintro D cd pre W hD ⟨j,hj,rfl⟩ ⟨rfl,q,x,hq,he,hne,hN,hA,hB⟩ hK
  obtain⟨hj1,rfl,rfl⟩:=YbK hq.symm
  rw[Zhx]at hN
  have hsh:shared l m=j-1:=ZdL (by omega) (ZvM he) (fun _=>hne)
  have hah:ahead l m=decide (kb l (j-1)<kb m (j-1)):=by
   unfold ahead
   rw[hsh]
   exact decide_eq_decide.2 ⟨fun h=>h.2,fun h=>⟨by omega,h⟩⟩
  have E1:sv=((j-1:Nat):Int):=by rw[← hsv.out,hsh]
  have E2:ab=decide (kb l (j-1)<kb m (j-1)):=by rw[← hab.out,hah]
  clear hsh hah he hne hq hsv hab
  rw[← E1]at hN
  replace hA:Boxed W (w.heap.size+1+1+1) 4 (.bool ab):=by rw[E2];exact hA
  clear E1 E2
  have hcN:=hN.cell
  have hfN:=hN.frozen
  have hcA:=hA.cell
  have hfA:=hA.frozen
  gi_wp2
  gi_region
  all_goals gi_wp2
  have X1:=(hN.set (.int .i64 sv)).other (B':=w.heap.size+1+1+1) (by omega) (.bool ab)
  have X2:=(hA.other (B':=w.heap.size+1+1) (by omega) (.int .i64 sv)).set (.bool ab)
  have X4:Below w.heap.size w ((W.setCell ⟨w.heap.size+1+1,0,none⟩ (.int .i64 sv)).setCell ⟨w.heap.size+1+1+1,0,none⟩ (.bool ab)).drew:=((hB.setCell (p:=⟨w.heap.size+1+1,0,none⟩) (by show _≤w.heap.size+1+1;omega) _).setCell (p:=⟨w.heap.size+1+1+1,0,none⟩) (by show _≤w.heap.size+1+1+1;omega) _).drew
  have X6:((W.setCell ⟨w.heap.size+1+1,0,none⟩ (.int .i64 sv)).setCell ⟨w.heap.size+1+1+1,0,none⟩ (.bool ab)).drew.heap[D]? =some (.deferred (some [])):=(Vy3 _ _ _ _ (by show D≠w.heap.size+1+1+1;omega)).trans ((Vy3 _ _ _ _ (by show D≠w.heap.size+1+1;omega)).trans hK)
  generalize ((W.setCell ⟨w.heap.size+1+1,0,none⟩ (.int .i64 sv)).setCell ⟨w.heap.size+1+1+1,0,none⟩ (.bool ab))=X at *
  replace X1:Boxed X.drew _ _ _:=X1
  replace X2:Boxed X.drew _ _ _:=X2
  generalize X.drew=Y at *
  have hD2:=fun (r:Nat) (e:some D=some r)=>(⟨_,by cases e;exact X6,rfl⟩:∃o:Obj,Y.heap[r]? =some o∧o.isCells=false)
  dsimp only[Exit.noGoto]
  refine⟨by simp,.inl ⟨_,_,rfl,run_takeDeferred X6,?_⟩⟩
  exact⟨_,Ykr (X1.kept (grownBy_putObj' Y D _) (Zax X1 hD2)) (X2.kept (grownBy_putObj' Y D _) (Zax X2 hD2)) rfl rfl,rfl,X4.trans (belowK_b (w:=w) (Vx8 _) Y D _ _ (by omega) X6 rfl rfl)⟩
end
theorem Zkv(l m:List UInt8)(w:World)(hl:l.length=32)(hm:m.length=32):
  Calls Tryz.prog 84 #[.agg (l.map bv).toArray,.agg (m.map bv).toArray] w fun r w'=>r=.returned ((.bool (ahead l m)))∧Below w.heap.size w w':=by
 obtain⟨ds,hds⟩:∃ds,ds=(l.map bv).toArray:=⟨_,rfl⟩
 have hsz:ds.size=32:=by rw[hds];simp[hl]
 obtain⟨es,hes⟩:∃es,es=(m.map bv).toArray:=⟨_,rfl⟩
 have hsy:es.size=32:=by rw[hes];simp[hm]
 have hP:=fun W=>Znp l m W hl hm
 rw[← hds,←hes]at hP ⊢
 clear hds hes
 generalize (shared l m:Int)=sv at *
 generalize ahead l m=ab at *
 have hd1:=Vx0 w (.cells ds 37)
 have hd2:=Vx0 (w.alloc (.cells ds 37)) (.cells es 37)
 rw[Vx2]at hd2
 have hd3:=(Below.heap_alloc (w.alloc (.cells ds 37)) (.cells es 37) w.heap.size (by simp)).trans hd1
 replace hP:=hid hP
 go_enter Tryz.func84,Tryz.ntmps84
 go_wp2_with (first
  |((with_reducible refine wpList_load_row rfl 37 (.tmp 2) rfl w.heap.size rfl 37 ds (0,0) _ ?_ Tryz.underlying37 rfl ?_ ?_);exact hd3;(rw[hsz];exact Zai))
  |((with_reducible refine wpList_load_row rfl 37 (.tmp 3) rfl (w.heap.size+1) rfl 37 es (0,0) _ ?_ Tryz.underlying37 rfl ?_ ?_);exact hd2;(rw[hsy];exact Zai))
  |(go_at_call 123;refine(hP.out _).mono ?_;rintro e w1 ⟨rfl,hb1⟩))
 go_ret
 exact⟨rfl,Zag (Zag (Zad w (.cells ds 37)) (Zad _ (.cells es 37))) hb1⟩
theorem Zm8(i:Int)(w:World):Calls Tryz.prog 215 #[.int .i64 i] w fun r w'=>r=.returned (.bool (decide (0≤i∧i<256)))∧w'=w:=by
 go_enter Tryz.func215,Tryz.ntmps215
 by_cases h1:0≤i
 ·by_cases h2:i<256
  ·go_wp2
   go_ret
   exact⟨by simp[h1,h2],rfl⟩
  ·go_wp2
   go_ret
   exact⟨by simp[h1,h2],rfl⟩
 ·go_wp2
  go_ret
  refine⟨?_,rfl⟩
  show Ending.returned (.bool false)=_
  congr 2
  symm
  rw[Vy1 (show ¬0≤i by omega)]
  rfl
set_option maxRecDepth 100000 in
theorem ZgZ(l:List UInt8)(i:Int)(w:World)(hl:l.length=32):
  Calls Tryz.prog 219 #[.agg (l.map bv).toArray,.int .i64 i] w fun r w'=>r=.returned (.tuple #[.int .u8 (bitV l i:Int),.int .i64 (bitE i)])∧Below w.heap.size w w':=by
 obtain⟨ds,hds⟩:∃ds,ds=(l.map bv).toArray:=⟨_,rfl⟩
 have hsz:ds.size=32:=by rw[hds];simp[hl]
 have hd1:=Vx0 w (.cells ds 37)
 unfold bitV bitE
 rw[← hds]
 replace hds:=hid hds
 have hP:=fun W=>Zm8 i W
 by_cases h:0≤i∧i<256
 ·rw[if_pos h,if_pos h]
  rw[Vy2 h]at hP
  replace hP:=hid hP
  obtain⟨h1,h2⟩:=h
  obtain⟨n,rfl⟩:=Int.eq_ofNat_of_zero_le h1
  go_enter Tryz.func219,Tryz.ntmps219
  go_wp2_with (first
   |(go_at_call 215;refine(hP.out _).mono ?_;rintro e w1 ⟨rfl,rfl⟩)
   |((with_reducible refine wpList_load_row rfl 37 (.tmp 2) rfl w.heap.size rfl 37 ds (0,0) _ ?_ Tryz.underlying37 rfl ?_ ?_);exact hd1;(rw[hsz];exact Zai)))
  refine(ZmN l n _ _ _ (by rw[hds.out]) hl (by omega) rfl).mono ?_
  rintro e w1 ⟨rfl,hb⟩
  go_wp2_with fail
  go_ret2
  exact⟨rfl,Zag (Zad _ _) hb⟩
 ·rw[if_neg h,if_neg h]
  rw[Vy1 h]at hP
  replace hP:=hid hP
  go_enter Tryz.func219,Tryz.ntmps219
  go_wp2_with ((go_at_call 215;refine(hP.out _).mono ?_;rintro e w1 ⟨rfl,rfl⟩))
  go_ret2
  exact⟨rfl,Zad _ _⟩
set_option maxRecDepth 100000 in
theorem Zmu(l:List UInt8)(i:Int)(w:World)(hl:l.length=32):
  Calls Tryz.prog 175 #[.agg (l.map bv).toArray,.int .i64 i] w fun r w'=>r=.returned (.tuple #[.agg ((turnV l i).map bv).toArray,.int .i64 (bitE i)])∧Below w.heap.size w w':=by
 obtain⟨ds,hds⟩:∃ds,ds=(l.map bv).toArray:=⟨_,rfl⟩
 have hsz:ds.size=32:=by rw[hds];simp[hl]
 have hd1:=Vx0 w (.cells ds 37)
 have hz1:=Vx0 (w.alloc (.cells ds 37)) (.cells z32 37)
 rw[Vx2]at hz1
 have W2:=Zag (Zad w (.cells ds 37)) (Zad _ (.cells z32 37))
 unfold turnV bitE
 rw[← hds]
 replace hds:=hid hds
 have hP:=fun W=>Zm8 i W
 by_cases h:0≤i∧i<256
 ·rw[if_pos h,if_pos h]
  rw[Vy2 h]at hP
  replace hP:=hid hP
  obtain⟨h1,h2⟩:=h
  obtain⟨n,rfl⟩:=Int.eq_ofNat_of_zero_le h1
  have hn:n<256:=by omega
  have hd2:=(Below.heap_alloc (w.alloc (.cells ds 37)) (.cells z32 37) w.heap.size (by simp)).trans hd1
  obtain⟨c0,hc0⟩:∃c0,l.getD (n / 8) 0=c0:=⟨_,rfl⟩
  have hcl:=c0.toNat_lt
  have hdq:=Yio l (n / 8) (by omega)
  rw[hc0,←hds.out]at hdq
  have htn:turn l n=l.set (n / 8) (tbyte c0 (n % 8)):=by unfold turn;rw[hc0]
  have q1:=YbB n
  have q3:n / 8<32:=by omega
  have q4:n % 8<8:=Nat.mod_lt _ (by omega)
  have hX:=YcG c0 (n % 8) q4
  obtain⟨m,hm⟩:∃m:Int,((2 ^ (7-n % 8):Nat):Int)=m:=⟨_,rfl⟩
  rw[hm]at hX
  have hM:=fun W=>ZzT n m W hm
  rw[show ((n:Int).toNat)=n by omega,htn]
  clear htn hc0 hd1 hm
  generalize n / 8=q at *
  generalize hx:tbyte c0 (n % 8)=x at *
  replace hM:=hid hM
  have hcell:((w.alloc (.cells ds 37)).alloc (.cells z32 37)).cell? ⟨w.heap.size,q,none⟩=some (.int .u8 (c0.toNat:Int)):=by
   rw[cell_of_row _ _ _ _ _ (0,0) hd2];exact hdq
  go_enter Tryz.func175,Tryz.ntmps175
  go_wp2_with (first
   |(with_reducible refine Zac rfl 37 rfl z32 Zam ?_)
   |(go_at_call 215;refine(hP.out _).mono ?_;rintro e w1 ⟨rfl,rfl⟩))
  generalize ((w.alloc (.cells ds 37)).alloc (.cells z32 37))=W0 at *
  have hfz:=Zap hd2 q
  have hds2:ds.setIfInBounds q (.int .u8 (x.toNat:Int))=((l.set q x).map bv).toArray:=by rw[hds.out];simp[bv]
  go_wp2_with fail
  have wq:IntKind.i64.wrap (q:Int)=(q:Int):=IntWalk.i64_in _ (by omega)
  have q5:0≤(q:Int):=by omega
  have q6:(q:Int)<32:=by omega
  have q7:(q:Int).toNat=q:=by omega
  go_still_tail 8,(by kernel_rfl)
  still_call (hM.out _)
  repeat still_step
  refine wpStill_nil ?_
  have g3:(W0.setCell ⟨w.heap.size,q,none⟩ (.int .u8 (x.toNat:Int))).drew.heap[w.heap.size]? =some (.cells (ds.setIfInBounds q (.int .u8 (x.toNat:Int))) 37 (0,0)):=ZaD hd2 q (.int .u8 (x.toNat:Int))
  have g4:(W0.setCell ⟨w.heap.size,q,none⟩ (.int .u8 (x.toNat:Int))).drew.heap[w.heap.size+1]? =some (.cells z32 37 (0,0)):=(Vy3 W0 ⟨w.heap.size,q,none⟩ (.int .u8 (x.toNat:Int)) (w.heap.size+1) (by simp)).trans hz1
  have hb5:Below w.heap.size w (W0.setCell ⟨w.heap.size,q,none⟩ (.int .u8 (x.toNat:Int))).drew:=(W2.setCell (p:=⟨w.heap.size,q,none⟩) (Vx8 _) _).drew
  rw[hds2]at g3
  have hsz2:((l.set q x).map bv).toArray.size=32:=by simp[hl]
  have hall:=Zay (l.set q x)
  clear hds2 hd2 hz1 hdq hx
  replace hds:=trivial
  replace hX:=hid hX
  go_wp2_with (first
   |((with_reducible refine wpList_load_row rfl 37 (.tmp 2) rfl w.heap.size rfl 37 ((l.set q x).map bv).toArray (0,0) _ ?_ Tryz.underlying37 rfl ?_ ?_);exact g3;(rw[hsz2];exact Zai))
   |((with_reducible refine stW 4 18 _ 37 z32 ?_ ?_ ?_ ?_ ?_);exact g4;(rw[hsz2];exact Zai);(rw[hsz2];exact z32_size);exact hall;intro w6 hg6 hb6 hs6))
  refine Vy0 (ZcM rfl _ _ (w.heap.size+1) _ rfl hg6 hsz2) rfl ⟨rfl,hb5.grown hb6 hb5.size (by intro k hk;injection hk with hk;omega)⟩
 ·rw[if_neg h,if_neg h]
  rw[Vy1 h]at hP
  replace hP:=hid hP
  go_enter Tryz.func175,Tryz.ntmps175
  go_wp2_with (first
   |(with_reducible refine Zac rfl 37 rfl z32 Zam ?_)
   |(go_at_call 215;refine(hP.out _).mono ?_;rintro e w1 ⟨rfl,rfl⟩)
   |((with_reducible refine stW 4 9 _ 37 z32 ?_ ?_ ?_ ?_ ?_);exact hz1;exact Zai;rfl;decide +kernel;intro w4 hg4 hb4 hs4))
  refine Vy0 (ZcM rfl _ _ (w.heap.size+1) _ rfl hg4 rfl) rfl ⟨rfl,W2.grown hb4 W2.size (by intro k hk;injection hk with hk;omega)⟩
theorem ZiZ(l m:List UInt8)(w:World)(hl:l.length=32)(hm:m.length=32):
  Calls Tryz.prog 171 #[.agg (l.map bv).toArray,.agg (m.map bv).toArray] w fun r w'=>r=.returned ((.int .i64 (shared l m:Int)))∧Below w.heap.size w w':=by
 obtain⟨ds,hds⟩:∃ds,ds=(l.map bv).toArray:=⟨_,rfl⟩
 have hsz:ds.size=32:=by rw[hds];simp[hl]
 obtain⟨es,hes⟩:∃es,es=(m.map bv).toArray:=⟨_,rfl⟩
 have hsy:es.size=32:=by rw[hes];simp[hm]
 have hP:=fun W=>Znp l m W hl hm
 rw[← hds,←hes]at hP ⊢
 clear hds hes
 generalize (shared l m:Int)=sv at *
 generalize ahead l m=ab at *
 have hd1:=Vx0 w (.cells ds 37)
 have hd2:=Vx0 (w.alloc (.cells ds 37)) (.cells es 37)
 rw[Vx2]at hd2
 have hd3:=(Below.heap_alloc (w.alloc (.cells ds 37)) (.cells es 37) w.heap.size (by simp)).trans hd1
 replace hP:=hid hP
 go_enter Tryz.func171,Tryz.ntmps171
 go_wp2_with (first
  |((with_reducible refine wpList_load_row rfl 37 (.tmp 2) rfl w.heap.size rfl 37 ds (0,0) _ ?_ Tryz.underlying37 rfl ?_ ?_);exact hd3;(rw[hsz];exact Zai))
  |((with_reducible refine wpList_load_row rfl 37 (.tmp 3) rfl (w.heap.size+1) rfl 37 es (0,0) _ ?_ Tryz.underlying37 rfl ?_ ?_);exact hd2;(rw[hsy];exact Zai))
  |(go_at_call 123;refine(hP.out _).mono ?_;rintro e w1 ⟨rfl,hb1⟩))
 go_ret
 exact⟨rfl,Zag (Zag (Zad w (.cells ds 37)) (Zad _ (.cells es 37))) hb1⟩
end Go.Proofs.YtnnclggeifnomaaGreatDoor
