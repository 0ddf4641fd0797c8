import Derived.Test.YtimaoonpgilekaaDoorQuB
set_option linter.all false
namespace Go.Proofs.YtimaoonpgilekaaDoor
open Go.RowKit Go.Shelf
set_option maxRecDepth 100000
attribute [local go_sem] Oper.semAt_some
theorem YpI(A:Option Addr)(n c nn:Nat)(w:World):
  Calls Tryd.prog 35 #[.agg (soC A n c).toArray,.int .u64 (nn:Int)] w fun e w'=>e=.returned (.func (.func 52) #[] #[.pointer (some ⟨w.heap.size,0,none⟩),.pointer (some ⟨w.heap.size+1,0,none⟩)])∧
   w'=(w.alloc (.cells (soC A n c).toArray 61)).alloc (.cells #[.int .u64 (nn:Int)] 31):=by
 go_enter Tryd.func35,Tryd.ntmps35
 go_wp2
 go_ret
 exact⟨by simp,rfl⟩
def KeepQ(n₀:Nat)(W W':World):Prop:=Below n₀ W W'∧∀(b:Nat) (cs:Array Value) (t:TypeId) (fr:Nat×Nat),W.heap[b]? =some (.cells cs t fr)→t=61∨t=31→W'.heap[b]? =W.heap[b]?
theorem KeepQ.refl(n₀:Nat)(W:World):KeepQ n₀ W W:=⟨Below.refl _ _,fun _ _ _ _ _ _=>rfl⟩
theorem KeepQ.trans{n₀:Nat}{A B C:World}(h:KeepQ n₀ A B)(k:KeepQ n₀ B C):KeepQ n₀ A C:=
 ⟨h.1.trans k.1,fun b cs t fr hb ht=>(k.2 b cs t fr ((h.2 b cs t fr hb ht).trans hb) ht).trans (h.2 b cs t fr hb ht)⟩
theorem KeepQ.bel{n₀:Nat}{W W':World}(hb:Below W.heap.size W W')(hn:n₀≤W.heap.size):KeepQ n₀ W W':=
 ⟨hb.mono hn,fun b cs t fr h _=>hb.block b (block_lt h)⟩
abbrev XI:Type:={ x:Tx // x.ok }
def encX(x:XI):Array Value:=#[.agg (txC x.1).toArray]
theorem YqH{xs:List Tx}(hs:soB xs=true)(nn j:Nat)(hn:nn<18446744073709551616)(hj:j<xs.length)(h1:∀i (hi:i<xs.length),i<j→xs[i].n=nn+i)(hok:xs[j].ok)(hlow:∀i (hi:i<xs.length),nn≤xs[i].n):nn+j<18446744073709551616:=by
 rcases j with _|j
 ·exact hn
 ·have h2:=h1 j (by omega) (by omega)
  have h3:=Yn8 hs hj (Nat.lt_succ_self j)
  have h4:=hok.1
  omega
section
variable{F:Fence}{n:Nat}{P:Program}
theorem Ypz{ops:Array Oper}{rest:List Oper}{o:Oper}{a:Act}{w:World}{Q:Exit→Act→World→Prop}(hg0:o.guard=none)(t:TypeId)(x y:Operand)(ho:o.op=.slice t x (some y) none none)
  (v k r:Value) (hv:a.eval x=v) (hk:a.eval y=k) (hrun:(Instr.sliceAt t v (some k) none none).run P w=.ok r w) (hQ:wpListIn F n P ops Q rest (a.put o.dst r) w):wpListIn F n P ops Q (o::rest) a w:=by
 refine wpListIn_plain hg0 fun K hK=>?_
 refine ZeU (w':=w) (v:=r) (by rw[ho];intro c hc;cases hc) (by simp[Oper.about,ho]) ?_ (hK _ _ hQ)
 unfold execOp
 simp only[ho,Option.map_some,Option.map_none,hv,hk,Sem.run_bind,hrun,Result.andThen_ok,Sem.run_pure]
end
set_option maxHeartbeats 4000000 in
theorem YqC(n:Nat)(hn:1≤n)(l:Nat)(w0:World)(F:Nat→Prop)(A:Option Addr)(c nn:Nat)(xs:List Tx)(hs:soB xs=true)(hr:Row F w0 A xs)(hc:xs.length≤1000000)(hcc:xs.length≤c)(hnn:nn<18446744073709551616)
  (J Jx:List XI→World→Prop) (hJ:∀pre X Y,J pre X→Below X.heap.size X Y→J pre Y)
  (hY:∀m pre x W,J pre W→pre.length<1000001→YieldAt Fence.wide m Tryd.prog l (encX x) W fun e W'=>(e=.returned (.bool true)∧J (pre++[x]) W'∧KeepQ w0.heap.size W W')∨(e=.returned (.bool false)∧Jx (pre++[x]) W'))
  (p q:Nat) (W:World) (hW:Below w0.heap.size w0 W) (hp:W.heap[p]? =some (.cells (soC A xs.length c).toArray 61 (0,0))) (hq:W.heap[q]? =some (.cells #[.int .u64 (nn:Int)] 31 (0,0))) (h0:J [] W):
  CallsIn Fence.wide n Tryd.prog 52 #[.func (.yield l) #[] #[],.pointer (some ⟨p,0,none⟩),.pointer (some ⟨q,0,none⟩)] W fun e W'=>(∃ v,e=.returned v)∧
   ((∃ ys:List XI,ys.map (·.1)=runF (xs.drop (cntN xs nn)) nn∧J ys W')∨(∃ pre,True∧Jx pre W')):=by
 have hux:=Tryd.underlying33
 have hus:=Tryd.underlying61
 have hF:=hid (fun W' (h:Row F W' A xs)=>Ypl F A c nn xs W' h hs hc)
 have hkl:=Ypi xs nn
 have hlo:=fun i (hi:i<(xs.drop (cntN xs nn)).length)=>(show nn≤(xs.drop (cntN xs nn))[i].n by
  rw[List.getElem_drop]
  rw[List.length_drop]at hi
  exact Yod hs (by omega) (by omega))
 have hds:=YoB hs (cntN xs nn)
 have hcut:=hr.cut (cntN xs nn) c hkl hcc
 have hdl:(xs.drop (cntN xs nn)).length=xs.length-cntN xs nn:=List.length_drop ..
 generalize hasN xs nn=hv at *
 generalize cntN xs nn=k at *
 have hsl:=hid (fun W=>Zc7 slotTxQ A xs.length c k hkl W)
 rw[← hdl]at hsl
 have hso:=hid (Yqp A xs.length c)
 have cp:=hid (fun (W':World) (h:W'.heap[p]? =some (.cells (soC A xs.length c).toArray 61 (0,0)))=>(⟨(Zae h) 0 _ rfl,(Zae h) 1 _ rfl⟩:W'.cell? ⟨p,0,none⟩=some (.slice A xs.length c)∧W'.cell? ⟨p,1,none⟩=some (.func (.func 44) #[] #[])))
 have cq:=hid (fun (W':World) (h:W'.heap[q]? =some (.cells #[.int .u64 (nn:Int)] 31 (0,0)))=>(show W'.cell? ⟨q,0,none⟩=some (.int .u64 (nn:Int)) from (Zae (l:=[.int .u64 (nn:Int)]) h) 0 _ rfl))
 have hml:(xs.drop k).length≤1000000:=by rw[hdl];omega
 replace hcut:Row F w0 (cutA A c k (Enc.size Tx)) (xs.drop k):=hcut
 have R0:=hid (hr.bel hW)
 generalize xs.drop k=ys at *
 generalize cutA A c k (Enc.size Tx)=D at *
 have hsz:=hid (show (Tryd.prog.info? 61).map (·.size)=some (soC A xs.length c).toArray.size from hso.out)
 generalize soC A xs.length c=cs at *
 have cqW:=cq.out _ hq
 replace hF:=hid (hF.out _ R0.out)
 replace hr:=hid hcut
 clear hcut
 refine callsIn_of_wp Tryd.func52 rfl trivial ?_ rfl
 simp only[Tryd.ntmps52,Vx7,List.length_cons,List.length_nil,Nat.reduceAdd,Nat.reduceSub,Array.replicate_succ,Array.replicate_zero,List.push_toArray,List.append_toArray,List.nil_append,List.cons_append]
 gi_wp2_with (((with_reducible refine ZaW rfl 61 (.tmp 1) rfl p rfl 61 cs.toArray (0,0) _ ?_ hus rfl ?_ ?_);exact hp;exact hsz.out))
 refine⟨trivial,callsIn_wide.2 (hF.out.mono ?_)⟩
 rintro e W1 ⟨rfl,hb1⟩
 have p1:=(hb1.block _ (block_lt hp)).trans hp
 have q1:=(hb1.block _ (block_lt hq)).trans hq
 have cq1:=cq.out _ q1
 have cp1:=(cp.out _ p1).1
 have J1:=hJ _ _ _ h0 hb1
 have k1:=hid (KeepQ.bel hb1 hW.size)
 replace p1:=hid p1
 replace J1:=hid J1
 clear cqW hF
 gi_wp2_with (((with_reducible refine Ypz rfl 24 (.tmp 17) (.tmp 18) rfl (.slice A xs.length c) (.int .i64 (k:Int)) (.slice D ys.length (c-k)) rfl rfl (hsl.out _) ?_)))
 gi_loopw [6,21] (fun x i wr=>∃(j:Nat) (pre:List XI),i=.int .i64 (j:Int)∧j≤ys.length∧x=.int .u64 (((nn+j) % 18446744073709551616:Nat):Int)∧pre.map (·.1)=ys.take j∧(∀ i (hi:i<ys.length),i<j→ys[i].n=nn+i)∧J pre wr∧KeepQ w0.heap.size W wr) (fun _ i _=>ys.length-(intOf i).toNat)
 case atStart=>exact⟨0,[],rfl,Nat.zero_le _,by rw[Nat.add_zero,Nat.mod_eq_of_lt hnn],rfl,fun i hi h=>absurd h (by omega),J1.out,k1.out⟩
 case round=>
  obtain⟨j,pre,rfl,hjl,rfl,hpm,hnum,hj,hk⟩:=hrel
  have hpl:pre.length=j:=by
   have:=congrArg List.length hpm
   rw[Vx6,List.length_take]at this
   omega
  by_cases hlt:j<ys.length
  ·obtain⟨b,o,hD,r1,m1⟩:=Yoa hr.out hlt
   subst hD
   have hlim:=YqH hds nn j hnn hlt hnum m1 hlo
   have hmod:(nn+j) % 18446744073709551616=nn+j:=Nat.mod_eq_of_lt hlim
   rw[hmod]
   have pW:=(hk.2 _ _ _ _ hp (.inl rfl)).trans hp
   have B1:=hid (hW.trans hk.1)
   have R1:=hid (Zab (hW.trans hk.1) r1)
   have e0:=hid (Vx0 wr (.cells zTxC 33))
   have N1:=Ypj ys[j]
   have hYj:=hid (fun W hJW=>hY (n-1) pre ⟨ys[j],m1⟩ W hJW (by omega))
   have hpm2:=hid (show (pre++[(⟨ys[j],m1⟩:XI)]).map (·.1)=ys.take (j+1) by rw[List.map_append,hpm,Vy5 hlt];rfl)
   have hrun:=hid (fun (hne:ys[j].n≠nn+j)=>Yo4 (h:=ys) (n:=nn) (j:=j) hjl (fun i hi=>hnum i (by omega) hi) (fun _=>hne))
   have hnum2:=hid (fun (h:ys[j].n=nn+j)=>(show ∀i (hi:i<ys.length),i<j+1→ys[i].n=nn+i from fun i hi h2=>by
    rcases Nat.lt_or_ge i j with h3|h3
    ·exact hnum i hi h3
    ·have e:i=j:=by omega
     subst e;exact h))
   have hjA:=hid (fun Y (h:Below wr.heap.size wr Y)=>hJ _ _ _ hj h)
   have hwr:IntKind.u64.wrap ((nn:Int)+(j:Int)+1)=(((nn+(j+1)) % 18446744073709551616:Nat):Int):=by rw[IntKind.wrap_u64];omega
   have jx:=hid (Zby ys[j])
   have ax:=hid (Zb2 ys[j])
   have zx:=hid (ZcS ys[j])
   have ox:=hid (Zdw ys[j])
   have hlt2:(j:Int)<(ys.length:Int):=by omega
   unfold encX at hYj
   dsimp only at hYj
   replace hk:=hid hk
   replace pW:=hid pW
   replace hpm:=hid hpm
   replace hpl:=hid hpl
   generalize (⟨ys[j],m1⟩:XI)=xi at *
   obtain⟨nj,hnj⟩:∃m,ys[j].n=m:=⟨_,rfl⟩
   rw[hnj]at N1 hnum2 hrun
   replace N1:=hid N1
   generalize txC ys[j]=d1 at *
   clear hj hnum r1 hnj hmod
   gi_wp2_with (first
    |((with_reducible refine ZgY rfl 33 (.tmp 23) rfl b (o+j * 99) rfl d1 _ ?_ hux rfl jx.out ?_);exact R1.out)
    |(with_reducible refine Zcu rfl 33 rfl zTxC Zbv ?_)
    |(refine ZbF rfl 33 (.tmp 8) (.tmp 24) rfl wr.heap.size d1.toArray rfl rfl 33 zTxC ?_ ?_ ?_ ?_ ?_;exact e0.out;exact ax.out;exact zx.out;exact ox.out;intro w3 g3 hg3 hs3;have X3:=hid (Zan rfl hg3);have S3:=hid (Zae (l:=d1) g3);have H3:=hid g3;have c3:=((cp.out _ ((X3.out.block _ (block_lt pW.out)).trans pW.out)).2);clear g3 hg3 hs3)
    |((with_reducible refine ZgY rfl 33 (.tmp 8) rfl wr.heap.size 0 rfl d1 _ ?_ hux rfl jx.out ?_);exact S3.out))
   refine⟨trivial,callsIn_wide.2 ((N1.out _).mono ?_)⟩
   rintro e w4 ⟨rfl,hb4⟩
   have X4:=hid (X3.out.trans (hb4.mono X3.out.size))
   have H4:=hid ((hb4.block _ (block_lt H3.out)).trans H3.out)
   have J4:=hid (hjA.out _ X4.out)
   by_cases heq:nj=nn+j
   ·subst heq
    obtain⟨fn,tmps,assign,body,hy,hR⟩:=hYj.out w4 J4.out
    gi_wp2_with (((with_reducible refine Zkr ?_ 33 (.tmp 8) rfl wr.heap.size rfl 33 d1.toArray (0,0) _ ?_ hux rfl ?_ ?_);rfl;exact H4.out;exact ax.out))
    refine hR.mono ?_
    rintro e W5 (⟨rfl,hJ5,hk5⟩|⟨rfl,hJx5⟩)
    ·have hk9:=hid (hk.out.trans ((KeepQ.bel X4.out (by have:=hk.out.1.size;have:=hW.size;omega)).trans hk5))
     clear H4 J4 hy hR
     gi_wp2
     go_roundw
     case rel=>exact⟨j+1,pre++[xi],by go_num,by omega,rfl,hpm2.out,hnum2.out (by first|rfl|trivial),hJ5,hk9.out⟩
     case measure=>simp[intOf];omega
    ·gi_wp2
     refine Vy0 (results_none rfl _ _ _) rfl ?_
     exact⟨⟨_,rfl⟩,.inr ⟨_,trivial,hJx5⟩⟩
   ·have hne2:((nj:Int) !=(nn:Int)+(j:Int))=true:=bne_iff_ne.2 (by omega)
    have hfin:=hid (show pre.map (·.1)=runF ys nn from hpm.out.trans (hrun.out heq).symm)
    clear hYj hpm2 hrun hnum2
    gi_wp2
    refine⟨fun f h=>(by cases h),?_⟩
    gi_wp2
    refine Vy0 (results_none rfl _ _ _) rfl ?_
    exact⟨⟨_,rfl⟩,.inl ⟨_,hfin.out,J4.out⟩⟩
  ·have hje:j=ys.length:=by omega
   have hfin:=hid (show pre.map (·.1)=runF ys nn from hpm.trans (Yo4 (h:=ys) (n:=nn) (j:=j) hjl (fun i hi=>hnum i (by omega) hi) (fun hk=>absurd hk hlt)).symm)
   have hlt2:¬(j:Int)<(ys.length:Int):=by omega
   clear hpm hnum
   gi_wp2
   go_end0
   exact⟨⟨_,rfl⟩,.inl ⟨_,hfin.out,hj⟩⟩
end Go.Proofs.YtimaoonpgilekaaDoor
