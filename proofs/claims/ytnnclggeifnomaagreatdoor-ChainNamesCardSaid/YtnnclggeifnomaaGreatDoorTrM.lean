import Derived.Test.YtnnclggeifnomaaGreatDoorTrB
set_option maxRecDepth 100000
set_option linter.all false
set_option maxHeartbeats 4000000
namespace Go.Proofs.YtnnclggeifnomaaGreatDoor
section
open Go.RowKit Go.Shelf
attribute [local go_sem] Oper.semAt_some
structure EItem where
 p:Pr
 A:Option Addr
 c:Nat
def EItem.encs(x:EItem):Array Value:=#[.agg (x.p.k.1.map bv).toArray,.slice x.A x.p.v.length x.c]
def EGood(w:World)(x:EItem):Prop:=Rd w x.A x.p.v∧x.p.v.length≤x.c∧x.c≤maxLen∧valB x.p.v=true
abbrev EItems (w:World):Type:={ x:EItem // EGood w x }
def KeepT(n₀:Nat)(W W':World):Prop:=Below n₀ W W'∧∀(b:Nat) (cs:Array Value) (t:TypeId) (fr:Nat×Nat),W.heap[b]? =some (.cells cs t fr)→t=122∨t=222→W'.heap[b]? =W.heap[b]?
theorem KeepT.refl(n₀:Nat)(W:World):KeepT n₀ W W:=⟨Below.refl _ _,fun _ _ _ _ _ _=>rfl⟩
theorem KeepT.trans{n₀:Nat}{A B C:World}(h:KeepT n₀ A B)(k:KeepT n₀ B C):KeepT n₀ A C:=
 ⟨h.1.trans k.1,fun b cs t fr hb ht=>(k.2 b cs t fr ((h.2 b cs t fr hb ht).trans hb) ht).trans (h.2 b cs t fr hb ht)⟩
theorem KeepT.bel{n₀:Nat}{W W':World}(hb:Below W.heap.size W W')(hn:n₀≤W.heap.size):KeepT n₀ W W':=
 ⟨hb.mono hn,fun b cs t fr h _=>hb.block b (Array.getElem?_eq_some_iff.1 h).1⟩
theorem Zzg(x:Nd)(A:Option Addr)(c:Nat)(w:World):(Instr.field 106 (.agg (ndC x A c).toArray) 2).run Tryz.prog w=.ok (.slice A x.v.length c) w:=by
 have hl:(x.k.1.map bv).length=32:=by rw[Vx6];exact x.k.2
 have h33:(ndC x A c).toArray[33]? =some (.slice A x.v.length c):=by
  have e:ndC x A c=([.bool x.leaf]++x.k.1.map bv)++([.slice A x.v.length c]++[.int .i64 x.l,.int .i64 x.r]):=by simp[ndC]
  rw[e,List.getElem?_toArray,List.getElem?_append_right (by simp[hl])]
  simp[hl]
 rw[List.getElem?_toArray]at h33
 simp[Instr.field,underlying,Tryz.underlying106,asAgg,part,isAgg,Tryz.underlying41,sizeOf,h33]
theorem Zrn(m l:Nat)(A:Option Addr)(n c:Nat)(root:Int)(W:World):
  CallsIn Fence.wide m Tryz.prog 122 #[.agg #[.slice A n c,.int .i64 root],.int .i64 0,.func (.yield l) #[] #[]] W fun e W'=>e=.returned (.bool true)∧Below W.heap.size W W':=by
 refine callsIn_of_wp Tryz.func122 rfl trivial ?_ rfl
 simp only[Tryz.ntmps122,Vx7,List.length_cons,List.length_nil,Nat.reduceAdd,Nat.reduceSub,Array.replicate_succ,Array.replicate_zero,List.push_toArray,List.append_toArray,List.nil_append,List.cons_append]
 gi_wp2
 go_ret
 exact⟨rfl,Zad W _⟩
theorem Zzd(m l:Nat)(w0:World)(q o j c:Nat)(nn:Nat)(root:Int)(x:Nd)(A':Option Addr)(c':Nat)(W:World)(G:Bool→World→World→Prop)(y:EItems w0)(hy:y.1=⟨⟨x.k,x.v⟩,A',c'⟩)
  (hleaf:∀W',Below W.heap.size W W'→Calls Tryz.prog 170 #[.agg #[.slice (some ⟨q,o,none⟩) nn c,.int .i64 root],.int .i64 ((j:Int)+1)] W' fun e w'=>e=.returned (.bool true)∧Below W'.heap.size W' w')
  (hnode:∀W',Below W.heap.size W W'→Calls Tryz.prog 172 #[.agg #[.slice (some ⟨q,o,none⟩) nn c,.int .i64 root],.int .i64 ((j:Int)+1)] W' fun e w'=>e=.returned (.agg (ndC x A' c').toArray)∧Below W'.heap.size W' w')
  (hY:∀m W',Below W.heap.size W W'→YieldAt Fence.wide m Tryz.prog l (EItem.encs y.1) W' fun e W2=>∃tb,e=.returned (.bool tb)∧G tb W' W2):
  CallsIn Fence.wide m Tryz.prog 122 #[.agg #[.slice (some ⟨q,o,none⟩) nn c,.int .i64 root],.int .i64 ((j:Int)+1),.func (.yield l) #[] #[]] W fun e W2=>∃tb W',Below W.heap.size W W'∧e=.returned (.bool tb)∧G tb W' W2:=by
 have hut:=Tryz.underlying122
 have b1:=Vx0 W (.cells #[.slice (some ⟨q,o,none⟩) nn c,.int .i64 root] 122)
 have X1:=Zad W (.cells #[.slice (some ⟨q,o,none⟩) nn c,.int .i64 root] 122)
 have y2:(((j:Int)+1)==0)=false:=by rw[beq_eq_false_iff_ne];omega
 have hfk:=fun W=>ZjO x A' c' W
 have hfv:=fun W=>Zzg x A' c' W
 refine callsIn_of_wp Tryz.func122 rfl trivial ?_ rfl
 simp only[Tryz.ntmps122,Vx7,List.length_cons,List.length_nil,Nat.reduceAdd,Nat.reduceSub,Array.replicate_succ,Array.replicate_zero,List.push_toArray,List.append_toArray,List.nil_append,List.cons_append]
 gi_wp2_with (((with_reducible refine ZaW rfl 122 (.tmp 3) rfl W.heap.size rfl 122 _ (0,0) _ ?_ hut rfl ?_ ?_);exact b1;exact ZbA))
 refine⟨trivial,fun h=>(by cases h),callsIn_wide.2 ((hleaf _ X1).mono ?_)⟩
 rintro e W2 ⟨rfl,hb2⟩
 have X2:=X1.trans (hb2.mono X1.size)
 have b2:=(hb2.block _ (block_lt b1)).trans b1
 clear hleaf
 gi_wp2
 replace X2:Below W.heap.size W W2.drew:=X2.trans ((Zao W2).mono X2.size)
 replace b2:W2.drew.heap[W.heap.size]? =some (.cells #[.slice (some ⟨q,o,none⟩) nn c,.int .i64 root] 122 (0,0)):=b2
 refine Yk2 (fun w'=>w'.heap[W.heap.size]? =some (.cells #[.slice (some ⟨q,o,none⟩) nn c,.int .i64 root] 122 (0,0))) b2 fun hS=>?_
 refine' tiP 0 rfl ?_
 try simp only[sQ]
 refine' tiM 1 (cs:=[.slice (some ⟨q,o,none⟩) nn c,.int .i64 root]) rfl (fun _ h=>Zae h) hut ZbA ?_
 try simp only[sQ]
 refine' tiP 2 rfl ?_
 try simp only[sQ]
 refine' tiM 5 (cs:=[.slice (some ⟨q,o,none⟩) nn c,.int .i64 root]) rfl (fun _ h=>Zae h) hut ZbA ?_
 try simp only[sQ]
 refine' tiP 6 rfl ?_
 try simp only[sQ]
 refine rdI 3 rfl fun K hK=>?_
 go_simp
 refine⟨trivial,fun h=>(by cases h),callsIn_wide.2 ((hnode _ X2).mono ?_)⟩
 rintro e w3 ⟨rfl,hb3⟩
 have X3:=X2.trans (hb3.mono X2.size)
 simp only[]
 refine hK _ _ ((hb3.block _ (block_lt hS)).trans hS) fun hS=>?_
 clear hK K
 try simp only[sQ]
 refine' tiP 4 rfl ?_
 try simp only[sQ]
 refine rdI 7 rfl fun K hK=>?_
 go_simp
 refine⟨trivial,fun h=>(by cases h),callsIn_wide.2 ((hnode _ X3).mono ?_)⟩
 rintro e w4 ⟨rfl,hb4⟩
 have X4:=X3.trans (hb4.mono X3.size)
 simp only[]
 refine hK _ _ ((hb4.block _ (block_lt hS)).trans hS) fun hS=>?_
 clear hK K
 try simp only[sQ]
 refine' tiP 8 rfl ?_
 try simp only[sQ]
 refine Ynp 9 rfl fun K hK=>?_
 obtain⟨fn,tmps,assign,body,hyy,hR⟩:=hY (m-1) w4 X4
 rw[hy]at hyy
 replace hyy:(Instr.yield l #[.agg (x.k.1.map bv).toArray,.slice A' x.v.length c']).run Tryz.prog w4=.ok (.round l fn tmps assign body) w4:=hyy
 go_simp
 refine⟨fun h=>(by cases h),hR.mono ?_⟩
 rintro e w9 ⟨tb,rfl,hG9⟩
 simp only[]
 refine hK _ _ ?_
 clear hK K
 try simp only[sQ]
 refine Ynp 10 rfl fun K hK=>?_
 go_simp
 refine hK _ _ ?_
 clear hK K
 try simp only[sQ]
 refine dnI ?_
 gi_wp2
 go_ret
 exact⟨tb,_,X4,rfl,hG9⟩
theorem Zzc(m l n₀:Nat)(w0:World)(q o j c:Nat)(nn:Nat)(root:Int)(x:Nd)(W:World)(pre:List (EItems w0))(J:List (EItems w0)→World→Prop)(Z:World→Prop)(S1 S2:List (EItems w0)→Prop)
  (hleaf:∀W',Below W.heap.size W W'→Calls Tryz.prog 170 #[.agg #[.slice (some ⟨q,o,none⟩) nn c,.int .i64 root],.int .i64 ((j:Int)+1)] W' fun e w'=>e=.returned (.bool false)∧Below W'.heap.size W' w')
  (hroads:∀W',Below W.heap.size W W'→Calls Tryz.prog 173 #[.agg #[.slice (some ⟨q,o,none⟩) nn c,.int .i64 root],.int .i64 ((j:Int)+1)] W' fun e w'=>e=.returned (.agg #[.int .i64 x.l,.int .i64 x.r])∧Below W'.heap.size W' w')
  (ih1:∀m W',Below W.heap.size W W'→CallsIn Fence.wide m Tryz.prog 122 #[.agg #[.slice (some ⟨q,o,none⟩) nn c,.int .i64 root],.int .i64 x.l,.func (.yield l) #[] #[]] W' fun e W2=>∃tb,e=.returned (.bool tb)∧((tb=true∧∃xs,S1 xs∧J (pre++xs) W2∧KeepT n₀ W' W2)∨(tb=false∧Z W2)))
  (ih2:∀m xs W',S1 xs→KeepT n₀ W W'→J (pre++xs) W'→CallsIn Fence.wide m Tryz.prog 122 #[.agg #[.slice (some ⟨q,o,none⟩) nn c,.int .i64 root],.int .i64 x.r,.func (.yield l) #[] #[]] W' fun e W2=>∃tb,e=.returned (.bool tb)∧((tb=true∧∃ys,S2 ys∧J (pre++xs++ys) W2∧KeepT n₀ W' W2)∨(tb=false∧Z W2))) (hn:n₀≤W.heap.size):
  CallsIn Fence.wide m Tryz.prog 122 #[.agg #[.slice (some ⟨q,o,none⟩) nn c,.int .i64 root],.int .i64 ((j:Int)+1),.func (.yield l) #[] #[]] W fun e W'=>∃tb,e=.returned (.bool tb)∧((tb=true∧∃xs ys,S1 xs∧S2 ys∧J (pre++xs++ys) W'∧KeepT n₀ W W')∨(tb=false∧Z W')):=by
 have hut:=Tryz.underlying122
 have hu2:=Tryz.underlying222
 have b1:=Vx0 W (.cells #[.slice (some ⟨q,o,none⟩) nn c,.int .i64 root] 122)
 have X1:=Zad W (.cells #[.slice (some ⟨q,o,none⟩) nn c,.int .i64 root] 122)
 have y2:(((j:Int)+1)==0)=false:=by rw[beq_eq_false_iff_ne];omega
 refine callsIn_of_wp Tryz.func122 rfl trivial ?_ rfl
 simp only[Tryz.ntmps122,Vx7,List.length_cons,List.length_nil,Nat.reduceAdd,Nat.reduceSub,Array.replicate_succ,Array.replicate_zero,List.push_toArray,List.append_toArray,List.nil_append,List.cons_append]
 gi_wp2_with (((with_reducible refine ZaW rfl 122 (.tmp 3) rfl W.heap.size rfl 122 #[.slice (some ⟨q,o,none⟩) nn c,.int .i64 root] (0,0) _ ?_ hut rfl ?_ ?_);exact b1;exact ZbA))
 refine⟨trivial,fun h=>(by cases h),callsIn_wide.2 ((hleaf _ X1).mono ?_)⟩
 rintro e W2 ⟨rfl,hb2⟩
 have X2:=X1.trans (hb2.mono X1.size)
 have b2:=(hb2.block _ (block_lt b1)).trans b1
 clear hleaf
 gi_wp2_with (((with_reducible refine ZaW rfl 122 (.tmp 3) rfl W.heap.size rfl 122 #[.slice (some ⟨q,o,none⟩) nn c,.int .i64 root] (0,0) _ ?_ hut rfl ?_ ?_);exact b2;exact ZbA))
 refine⟨trivial,fun h=>(by cases h),callsIn_wide.2 ((hroads _ X2).mono ?_)⟩
 rintro e W3 ⟨rfl,hb3⟩
 have X3:=X2.trans (hb3.mono X2.size)
 have b3:=(hb3.block _ (block_lt b2)).trans b2
 clear hroads
 have b4:=((Zad W3 (.cells #[.int .i64 x.l,.int .i64 x.r] 222)).block _ (block_lt b3)).trans b3
 have r4:=Vx0 W3 (.cells #[.int .i64 x.l,.int .i64 x.r] 222)
 have X4:=X3.trans ((Zad W3 (.cells #[.int .i64 x.l,.int .i64 x.r] 222)).mono X3.size)
 gi_wp2_with (((with_reducible refine ZaW rfl 122 (.tmp 3) rfl W.heap.size rfl 122 #[.slice (some ⟨q,o,none⟩) nn c,.int .i64 root] (0,0) _ ?_ hut rfl ?_ ?_);exact b4;exact ZbA))
 refine⟨trivial,fun h=>(by cases h),(ih1 _ _ X4).mono ?_⟩
 rintro e W5 ⟨tb,rfl,(⟨rfl,xs,hs1,hj5,hk5⟩|⟨rfl,hz⟩)⟩
 rotate_left
 ·gi_wp2
  refine⟨trivial,?_⟩
  gi_wp2
  go_ret
  exact⟨false,rfl,.inr ⟨rfl,hz⟩⟩
 have b5:=(hk5.2 _ _ _ _ b4 (.inl rfl)).trans b4
 have r5:=(hk5.2 _ _ _ _ r4 (.inr rfl)).trans r4
 have k5:=(KeepT.bel X4 hn).trans hk5
 have c5:=Zaq r5 1
 replace c5:W5.cell? ⟨W3.heap.size,1,none⟩=some (.int .i64 x.r):=c5
 clear ih1
 gi_wp2_with (((with_reducible refine Zkr ?_ 122 (.tmp 3) rfl W.heap.size rfl 122 #[.slice (some ⟨q,o,none⟩) nn c,.int .i64 root] (0,0) _ ?_ hut rfl ?_ ?_);rfl;exact b5;exact ZbA))
 refine⟨trivial,fun h=>(by cases h),(ih2 _ xs _ hs1 k5 hj5).mono ?_⟩
 rintro e W6 ⟨tb,rfl,h6⟩
 gi_wp2
 go_ret
 refine⟨tb,rfl,?_⟩
 rcases h6 with ⟨rfl,ys,hs2,hj6,hk6⟩|⟨rfl,hz⟩
 ·exact .inl ⟨rfl,xs,ys,hs1,hs2,hj6,k5.trans hk6⟩
 ·exact .inr ⟨rfl,hz⟩
theorem Ygq(l:Nat)(w0:World)(F:Nat→Prop)(A:Option Addr)(c:Nat)(ns:List Nd)(root:Int)(ho:Ones ns)(hr:Row F w0 A ns)(hc:ns.length≤1000000)(N:Nat)(J Jx:List (EItems w0)→World→Prop)
  (hJ:∀pre W W',J pre W→Below W.heap.size W W'→J pre W')
  (hY:∀m pre x W,J pre W→pre.length<N→YieldAt Fence.wide m Tryz.prog l (EItem.encs x.1) W fun e W'=>(e=.returned (.bool true)∧J (pre++[x]) W'∧KeepT w0.heap.size W W')∨(e=.returned (.bool false)∧Jx (pre++[x]) W')):
  ∀(e:Nat) (n:Int) (b:Dg) (m:Nat) (pre:List (EItems w0)) (W:World),0≤n→n≤ns.length→0≤rgt ns e n b→Below w0.heap.size w0 W→J pre W→pre.length+(forP ns e n).length≤N→
   CallsIn Fence.wide m Tryz.prog 122 #[.agg #[.slice A ns.length c,.int .i64 root],.int .i64 n,.func (.yield l) #[] #[]] W fun r W'=>∃tb,r=.returned (.bool tb)∧((tb=true∧∃xs:List (EItems w0),xs.map (fun x=>x.1.p)=forP ns e n∧J (pre++xs) W'∧KeepT w0.heap.size W W')∨(tb=false∧∃q,Jx q W')):=by
 have leafCase:∀(j:Nat) (hjl:j<ns.length),ns[j].leaf=true→oneN ns[j] j=true→∀(m:Nat) (pre:List (EItems w0)) (W:World),Below w0.heap.size w0 W→J pre W→pre.length+[(⟨ns[j].k,ns[j].v⟩:Pr)].length≤N→
   CallsIn Fence.wide m Tryz.prog 122 #[.agg #[.slice A ns.length c,.int .i64 root],.int .i64 ((j:Int)+1),.func (.yield l) #[] #[]] W fun r W'=>∃tb,r=.returned (.bool tb)∧((tb=true∧∃xs:List (EItems w0),xs.map (fun x=>x.1.p)=[⟨ns[j].k,ns[j].v⟩]∧J (pre++xs) W'∧KeepT w0.heap.size W W')∨(tb=false∧∃q,Jx q W')):=fun j hjl hl hone m pre W hb hj hN=>by
  obtain⟨q,o,rfl,A',c',hR,k2,k3,hv,-,-⟩:=Zb7 hr hjl
  have hlf:leafB ns ((j:Int)+1)=true:=by
   unfold leafB
   rw[Zfn hjl,hl,Vy2 (by omega)]
   rfl
  refine(Zzd m l w0 q o j c ns.length root ns[j] A' c' W (fun tb W' W2=>(tb=true∧J (pre++[⟨⟨⟨ns[j].k,ns[j].v⟩,A',c'⟩,hv.rd,k2,k3,(Zgu hone hl).1⟩]) W2∧KeepT w0.heap.size W' W2)∨(tb=false∧∃q,Jx q W2)) ⟨⟨⟨ns[j].k,ns[j].v⟩,A',c'⟩,hv.rd,k2,k3,(Zgu hone hl).1⟩ rfl
   (fun W' hb'=>by have:=Zc1 F _ c ns root ((j:Int)+1) W' (hr.bel (hb.trans (hb'.mono hb.size))) (by omega) (by omega) (by omega);rw[hlf]at this;exact this)
   (fun W' hb'=>Zg0 q o j ns.length c root ns[j] A' c' W' (Zab (hb.trans (hb'.mono hb.size)) hR) hjl (by omega))
   (fun m W' hb'=>(hY m pre _ W' (hJ _ _ _ hj hb') (by simp at hN;omega)).mono fun e W2 h=>h.elim (fun ⟨h1,h2,h3⟩=>⟨true,h1,.inl ⟨rfl,h2,h3⟩⟩) (fun ⟨h1,h2⟩=>⟨false,h1,.inr ⟨rfl,_,h2⟩⟩))).mono ?_
  rintro r W' ⟨tb,W1,hb1,rfl,h⟩
  refine⟨tb,rfl,?_⟩
  rcases h with ⟨rfl,hj',hk'⟩|⟨rfl,h⟩
  ·exact .inl ⟨rfl,[_],rfl,hj',(KeepT.bel hb1 hb.size).trans hk'⟩
  ·exact .inr ⟨rfl,h⟩
 intro e
 induction e with
 |zero=>
  intro n b m pre W h0 hn hg hb hj hN
  by_cases hz:n=0
  ·subst hz
   refine(Zrn m l A ns.length c root W).mono ?_
   rintro r W' ⟨rfl,hb'⟩
   exact⟨true,rfl,.inl ⟨rfl,[],by rw[ZaU];rfl,by rw[List.append_nil];exact hJ _ _ _ hj hb',KeepT.bel hb' hb.size⟩⟩
  ·obtain⟨j,hjl,rfl,hx,hone⟩:=Zc6 ho (by omega) hn
   cases hl:(ndAt ns ((j:Int)+1)).leaf with
   |false=>rw[ZcN hz hl]at hg;omega
   |true=>
    rw[ZaT hz hl,hx]at hN ⊢
    rw[hx]at hl
    exact leafCase j hjl hl hone m pre W hb hj hN
 |succ e ih=>
  intro n b m pre W h0 hn hg hb hj hN
  by_cases hz:n=0
  ·subst hz
   refine(Zrn m l A ns.length c root W).mono ?_
   rintro r W' ⟨rfl,hb'⟩
   exact⟨true,rfl,.inl ⟨rfl,[],by rw[ZaU];rfl,by rw[List.append_nil];exact hJ _ _ _ hj hb',KeepT.bel hb' hb.size⟩⟩
  ·obtain⟨j,hjl,rfl,hx,hone⟩:=Zc6 ho (by omega) hn
   cases hl:(ndAt ns ((j:Int)+1)).leaf with
   |true=>
    rw[ZaT hz hl,hx]at hN ⊢
    rw[hx]at hl
    exact leafCase j hjl hl hone m pre W hb hj hN
   |false=>
    obtain⟨f,hf,r1,r2,_,_⟩:=Za2 hz hl hg
    obtain rfl:e=f:=by omega
    obtain⟨k1,k2,k3,k4,-⟩:=Ze0 hone (by rw[← hx];exact hl)
    rw[ZbV hz hl]at hN ⊢
    rw[hx]at hN r1 r2 ⊢
    rw[Vx3]at hN
    obtain⟨q,o,rfl,A',c',hR,-,-,hv,-,-⟩:=Zb7 hr hjl
    have hlf:leafB ns ((j:Int)+1)=false:=by
     unfold leafB
     rw[hl,Bool.and_false]
    refine(Zzc m l w0.heap.size w0 q o j c ns.length root ns[j] W pre J (fun W'=>∃q,Jx q W') (fun xs=>xs.map (fun x=>x.1.p)=forP ns e ns[j].l) (fun ys=>ys.map (fun x=>x.1.p)=forP ns e ns[j].r)
     (fun W' hb'=>by have:=Zc1 F _ c ns root ((j:Int)+1) W' (hr.bel (hb.trans (hb'.mono hb.size))) h0 hn (by omega);rw[hlf]at this;exact this)
     (fun W' hb'=>ZgJ q o j ns.length c root ns[j] A' c' W' (Zab (hb.trans (hb'.mono hb.size)) hR) hjl (by omega))
     (fun m W' hb'=>(ih ns[j].l b m pre W' k1 (by omega) r1 (hb.trans (hb'.mono hb.size)) (hJ _ _ _ hj hb') (by omega)))
     (fun m xs W' hs hk hj'=>(ih ns[j].r _ m (pre++xs) W' k3 (by omega) r2 (hb.trans hk.1) hj' (by rw[Vx3];have:=congrArg List.length hs;rw[Vx6]at this;omega))) hb.size).mono ?_
    rintro r W' ⟨tb,rfl,h⟩
    refine⟨tb,rfl,?_⟩
    rcases h with ⟨rfl,xs,ys,hs1,hs2,hj6,hk6⟩|⟨rfl,h⟩
    ·exact .inl ⟨rfl,xs++ys,by rw[List.map_append,hs1,hs2],by rw[← List.append_assoc];exact hj6,hk6⟩
    ·exact .inr ⟨rfl,h⟩
end
section
open Go.RowKit Go.Shelf
attribute [local go_sem] Oper.semAt_some
theorem Zs3(A:Option Addr)(n c:Nat)(root:Int)(w:World):
  Calls Tryz.prog 80 #[.agg #[.slice A n c,.int .i64 root]] w fun e w'=>e=.returned (.func (.func 121) #[] #[.pointer (some ⟨w.heap.size,0,none⟩)])∧w'=w.alloc (.cells #[.slice A n c,.int .i64 root] 122):=by
 go_enter Tryz.func80,Tryz.ntmps80
 go_wp2
 go_ret
 exact⟨rfl,rfl⟩
theorem Yar(m l:Nat)(w0:World)(F:Nat→Prop)(A:Option Addr)(c:Nat)(ns:List Nd)(root:Int)(ho:Ones ns)(hr:Row F w0 A ns)(hc:ns.length≤1000000)(J Jx:List (EItems w0)→World→Prop)
  (hJ:∀pre W W',J pre W→Below W.heap.size W W'→J pre W')
  (hY:∀m pre x W,J pre W→pre.length<(forP ns 256 root).length→YieldAt Fence.wide m Tryz.prog l (EItem.encs x.1) W fun e W'=>(e=.returned (.bool true)∧J (pre++[x]) W'∧KeepT w0.heap.size W W')∨(e=.returned (.bool false)∧Jx (pre++[x]) W'))
  (B:Nat) (W:World) (hb:Below w0.heap.size w0 W) (hB:W.heap[B]? =some (.cells #[.slice A ns.length c,.int .i64 root] 122 (0,0))) (h0:0≤root) (h1:root≤ns.length) (hg:0≤rgt ns 256 root z0) (hj:J [] W):
  CallsIn Fence.wide m Tryz.prog 121 #[.func (.yield l) #[] #[],.pointer (some ⟨B,0,none⟩)] W fun e W'=>(∃ v,e=.returned v)∧((∃ xs,xs.map (fun x=>x.1.p)=forP ns 256 root∧J xs W')∨(∃ pre,True∧Jx pre W')):=by
 have hut:=Tryz.underlying122
 have c5:=Zaq hB 1
 replace c5:W.cell? ⟨B,1,none⟩=some (.int .i64 root):=c5
 have hE:=fun m=>Ygq l w0 F A c ns root ho hr hc (forP ns 256 root).length J Jx hJ hY 256 root z0 m [] W h0 h1 hg hb hj (by simp)
 clear hY hJ
 refine callsIn_of_wp Tryz.func121 rfl trivial ?_ rfl
 simp only[Tryz.ntmps121,Vx7,List.length_cons,List.length_nil,Nat.reduceAdd,Nat.reduceSub,Array.replicate_succ,Array.replicate_zero,List.push_toArray,List.append_toArray,List.nil_append,List.cons_append]
 gi_wp2_with (((with_reducible refine ZaW rfl 122 (.tmp 1) rfl B rfl 122 #[.slice A ns.length c,.int .i64 root] (0,0) _ ?_ hut rfl ?_ ?_);exact hB;exact ZbA))
 refine⟨trivial,fun h=>(by cases h),(hE _).mono ?_⟩
 rintro e W5 ⟨tb,rfl,h⟩
 gi_wp2
 go_end0
 refine⟨⟨_,rfl⟩,?_⟩
 rcases h with ⟨rfl,xs,h1,h2,-⟩|⟨rfl,q,hq⟩
 ·exact .inl ⟨xs,h1,h2⟩
 ·exact .inr ⟨q,trivial,hq⟩
def pairsM(t:Tr):List Pr:=if mayT t=true then allT t else []
def LoopP(w:World)(o B0:Nat)(pre:List (EItems w))(W:World):Prop:=
 (∃ A' c',Boxed W o 44 (.slice A' (pre.map fun x=>x.1.p).length c')∧OwnR 43 W B0 A' c' (pre.map fun x=>x.1.p))∧Below w.heap.size w W∧B0≤W.heap.size
theorem ZwY(w:World)(o B0:Nat)(hB:w.heap.size≤B0):OwnFrom B0 (LoopP w o B0):=by
 rintro pre X Y row ⟨⟨A',c',h2,h3⟩,h6,h7⟩ hg hr
 have hr2:=fun r e=>(hr r e).2
 exact⟨⟨A',c',h2.kept hg (Zax h2 hr2),Zk2 h3 hg hr2⟩,h6.grown hg (h6.size) (fun k e=>Vx1 hB (hr k e).1),Vx1 h7 hg.size⟩
theorem ZdN(k:Dg):(Tryz.prog.info? 37).map (·.size)=some (k.1.map bv).toArray.size:=by rw[Vx7,Vx6,k.2];exact Zai
theorem zDg(k:Dg):z32.size=(k.1.map bv).toArray.size:=by rw[z32_size];simp[k.2]
theorem Zji(k:Dg):(k.1.map bv).toArray.all (·.oneCell')=true:=all_oneCell_toArray fun u hu=>by
 obtain⟨x,-,rfl⟩:=List.mem_map.1 hu
 rfl
def tmpsP(A:Option Addr)(n c:Nat)(root:Int)(s o:Nat)(x:EItem)(b6:Nat):Array Value:=
 #[.agg #[.slice A n c,.int .i64 root],.pointer (some ⟨s,0,none⟩),.slice none 0 0,.int .i64 0,.int .i64 0,.pointer (some ⟨o,0,none⟩),.pointer (some ⟨b6,0,none⟩),.slice x.A x.p.v.length x.c,
  .agg #[.slice A n c,.int .i64 root],.int .i64 0,.int .i64 0,.bool false,undef,.agg #[.slice A n c,.int .i64 root],.agg #[.slice A n c,.int .i64 root],.func (.func 121) #[] #[.pointer (some ⟨o+1,0,none⟩)],
  .agg (x.p.k.1.map bv).toArray,.slice x.A x.p.v.length x.c,undef,undef,undef,undef,undef,undef,undef,undef]
def AxP(A:Option Addr)(n c:Nat)(root:Int)(s o:Nat)(x:EItem)(a:Act)(W:World):Prop:=∃b6,W.heap[b6]? =some (.cells (x.p.k.1.map bv).toArray 37 (0,0))∧a={ tmps:=tmpsP A n c root s o x b6,defers:=[] }
theorem Yco(A:Option Addr)(n c:Nat)(root:Int)(s o B:Nat)(x:EItem)(a:Act):OwnFrom B (fun (_:Unit) W=>AxP A n c root s o x a W):=by
 rintro _ X Y row ⟨b6,h1,h2⟩ hg hr
 exact⟨b6,(hg.block _ (block_lt h1) (Zax h1 fun r e=>(hr r e).2)).trans h1,h2⟩
theorem YgL{n₀:Nat}{w:World}(hn:n₀≤w.heap.size)(W:World)(l:Nat)(o o':Obj)(hl:w.heap.size≤l)(h:W.heap[l]? =some o)(hc:o.isCells=false)(hk:o.isWalk=false):KeepT n₀ W (W.putObj l o'):=
 ⟨belowK_b hn W l o o' hl h hc hk,fun b cs t fr hb _=>World.putObj_heap_other (fun e=>by subst e;rw[hb]at h;injection h with h;subst h;cases hc)⟩
theorem ZbN(F:Nat→Prop)(A:Option Addr)(c:Nat)(ns:List Nd)(root:Int)(w:World)(hr:Row F w A ns)(hc:ns.length≤1000000):
  Calls Tryz.prog 33 #[.agg #[.slice A ns.length c,.int .i64 root]] w fun e w'=>∃A' c',e=.returned (.tuple #[.slice A' (pairsM ⟨ns,root⟩).length c',.int .i64 (if mayT ⟨ns,root⟩=true then 0 else 8)])∧OwnR 43 w' w.heap.size A' c' (pairsM ⟨ns,root⟩)∧Below w.heap.size w w':=by
 obtain⟨m,hm⟩:∃m,mayT ⟨ns,root⟩=m:=⟨_,rfl⟩
 have hut:=Tryz.underlying24
 unfold pairsM
 rw[hm]
 have b1:=Vx0 w (.cells #[.slice A ns.length c,.int .i64 root] 24)
 have X1:=Zad w (.cells #[.slice A ns.length c,.int .i64 root] 24)
 refine(callsIn_wide (n:=4)).1 ?_
 refine callsIn_of_wp_marks Tryz.func33 rfl trivial ?_ rfl
 simp only[Tryz.ntmps33,Vx7,List.length_cons,List.length_nil,Nat.reduceAdd,Nat.reduceSub,Array.replicate_succ,Array.replicate_zero,List.push_toArray,List.append_toArray,List.nil_append,List.cons_append]
 gi_wp2_with (((with_reducible refine ZaW rfl 24 (.tmp 1) rfl w.heap.size rfl 24 #[.slice A ns.length c,.int .i64 root] (0,0) _ ?_ hut rfl ?_ ?_);exact b1;exact Zah))
 refine⟨trivial,callsIn_wide.2 ((ZdG F A c ns root m _ (hr.alloc _) (by omega) hm).mono ?_)⟩
 rintro e W1 ⟨rfl,hb1⟩
 have Y1:=X1.trans (hb1.mono X1.size)
 have b2:=(hb1.block _ (block_lt b1)).trans b1
 cases m with
 |false=>
  gi_wp2
  exact⟨_,by kernel_rfl,none,0,rfl,OwnQ.nil _ _ _,Y1⟩
 |true=>
  obtain⟨m0,m1,m2,ho,m3⟩:=ZaX.1 hm
  gi_wp2_with (((with_reducible refine ZaW rfl 24 (.tmp 1) rfl w.heap.size rfl 24 #[.slice A ns.length c,.int .i64 root] (0,0) _ ?_ hut rfl ?_ ?_);exact((Zad W1 _).block _ (block_lt b2)).trans b2;exact Zah))
  refine⟨trivial,callsIn_wide.2 ((Zs3 A ns.length c root _).mono ?_)⟩
  rintro e W0 ⟨rfl,hW0⟩
  have hs0:W0.heap.size=W1.heap.size+1+1:=by rw[hW0];simp
  have bo:Boxed W0 W1.heap.size 44 (.slice none 0 0):=by rw[hW0];exact(Boxed.new W1 44 (.slice none 0 0)).alloc _
  have bt:W0.heap[W1.heap.size+1]? =some (.cells #[.slice A ns.length c,.int .i64 root] 122 (0,0)):=by
   rw[hW0]
   have:=Vx0 (W1.alloc (.cells #[.slice none 0 0] 44)) (.cells #[.slice A ns.length c,.int .i64 root] 122)
   rw[Vx2]at this
   exact this
  have Y0:Below w.heap.size w W0:=by rw[hW0];exact(Y1.alloc Y1.size _).alloc (by have:=Y1.size;simp;omega) _
  clear hW0 b1 b2 X1 hb1
  simp only[Vx2]
  gi_wp2
  refine wpIn_rangeFunc_ownH (F:=Fence.wide) rfl (by omega) (gf:=121) (lb:=#[.pointer (some ⟨W1.heap.size+1,0,none⟩)]) rfl trivial (enters_of Tryz.func121 (by kernel_rfl) rfl)
   (encs:=fun x:EItems w=>EItem.encs x.1) (Kp:=KeepT w.heap.size) (S:=fun xs=>xs.map (fun x=>x.1.p)=forP ns 256 root) (Sp:=fun _=>True) (N:=(forP ns 256 root).length) (w0:=W0)
   (fun l J Jx W hW hJ hJx hY h0=>Yar 3 l w F A c ns root ho hr (by omega) J Jx (fun pre X Y hx hb=>hJ pre X Y none hx (ZbR hb) (fun r e=>by cases e)) (fun m pre x X hx hl=>YieldAt.anyDepth rfl m (hY pre x X hx hl)) (W1.heap.size+1) W
    (Y0.trans (hW.mono Y0.size)) ((hW.block _ (block_lt bt)).trans bt) m1 m2 m3 h0)
   (fun h k=>h.trans k) (YgL Y0.size) (Below.refl _ _) (fun _=>rfl)
   (LoopP w W1.heap.size W0.heap.size) (fun _ _ _=>False) (ZwY w _ _ Y0.size) (fun _ _ _ _ _ h _ _=>h) ⟨⟨none,0,bo,OwnQ.nil _ _ _⟩,Y0,Vx8 _⟩
   (fun x=>AxP A ns.length c root w.heap.size W1.heap.size x.1) (fun x a'=>Yco _ _ _ _ _ _ _ _ _) ?assign ?body ?done ?stop
  case stop=>exact fun D cd pre W hD hS h=>h.elim
  case assign=>
   rintro l pre ⟨⟨y,A2,c2⟩,hx⟩ W K ⟨⟨A',c',hv,hown⟩,hB,hB0⟩ hK
   dsimp only[EItem.encs]
   have h6:=Vx0 W (.cells z32 37)
   have hsz:=hid (ZdN y.k)
   gi_wp2_with ((refine ZbF rfl 37 (.tmp 6) (.tmp 16) rfl W.heap.size (y.k.1.map bv).toArray rfl rfl 37 z32 ?_ ?_ ?_ ?_ ?_;exact h6;exact hsz.out;exact zDg y.k;exact Zji y.k;intro w6 g6 hg6 hs6))
   have hb6:Below W.heap.size W w6:=Zan rfl hg6
   refine hK _ _ ⟨hb6.size,fun k o _ hk _=>(hb6.block _ (Array.getElem?_eq_some_iff.1 hk).1).trans hk⟩ (KeepT.bel hb6 hB.size) ⟨⟨A',c',Zaw hv hb6 hv.lt,hown.bel hb6⟩,hB.trans (hb6.mono hB.size),Vx1 hB0 hb6.size⟩ ⟨W.heap.size,g6,rfl⟩
  case body=>
   rintro l pre ⟨⟨y,A2,c2⟩,hx⟩ a' W hl hrec ⟨⟨A',c',hv,ho⟩,hB,hB0⟩ ⟨b6,h6,rfl⟩ hlt
   have hx4:=hx.2.2.2
   have hvl:y.v.length≤1000000:=by
    have h:=of_decide_eq_true (p:=1≤y.v.length∧y.v.length≤64) hx4
    omega
   have hRW:Hid (Rd W A2 y.v):=hid (hx.1.bel hB)
   have hfl:(forP ns 256 root).length≤262144:=Vx1 (ZgN (Vx8 _) Zfk m3) m0
   have hlm:(pre.map fun x=>x.1.p).length≤262144:=by rw[Vx6];omega
   have hfin:Hid ((pre++[⟨⟨y,A2,c2⟩,hx⟩]:List (EItems w)).map (fun x=>x.1.p)=(pre.map fun x=>x.1.p)++[y]):=hid (by rw[List.map_append];rfl)
   generalize (pre.map fun x=>x.1.p)=ps at *
   have hsz:=hid (ZdN y.k)
   have hud:=Tryz.underlying37
   have FIN:∀(w5:World) (X5:Below W.heap.size W w5) (A6:Option Addr) (c6:Nat) (w6:World) (ho6:OwnR 43 w6 W0.heap.size A6 c6 (ps++[y])) (hb6:Below W0.heap.size w5 w6) (hg6:w5.grownBy w6 (A'.map (·.block)))
     (hv6:Boxed w6 W1.heap.size 44 (.slice A' ps.length c')),
     KeepsFrom W0.heap.size W (w6.setCell ⟨W1.heap.size,0,none⟩ (.slice A6 (ps++[y]).length c6))∧KeepT w.heap.size W (w6.setCell ⟨W1.heap.size,0,none⟩ (.slice A6 (ps++[y]).length c6))∧
      LoopP w W1.heap.size W0.heap.size (pre++[⟨⟨y,A2,c2⟩,hx⟩]) (w6.setCell ⟨W1.heap.size,0,none⟩ (.slice A6 (ps++[y]).length c6)):=by
    intro w5 X5 A6 c6 w6 ho6 hb6 hg6 hv6
    have hcel:∀k,some k=A'.map (·.block)→∃cur,W.heap[k]? =some (.cells cur 43 (0,0)):=fun k hk=>by
     obtain⟨G,k1,k2⟩:=ho
     rcases A' with _|a
     ·cases hk
     ·obtain⟨cur,e,hc⟩:=k1.form a rfl
      simp only[Option.map_some,Option.some.injEq]at hk
      exact⟨cur,hk▸hc⟩
    have hsame:∀(k:Nat) (ob:Obj),W.heap[k]? =some ob→some k≠A'.map (·.block)→w6.heap[k]? =some ob:=fun k ob hk hne=>by
     have hkl:=(Array.getElem?_eq_some_iff.1 hk).1
     exact(hg6.block k (Vx4 hkl X5.size) hne).trans ((X5.block k hkl).trans hk)
    have hW6:Below w.heap.size W w6:=(X5.mono hB.size).trans (hb6.mono Y0.size)
    have ho1:w.heap.size≤W1.heap.size:=Y1.size
    refine⟨⟨Vx1 hW6.size (by simp[World.setCell]),fun k ob _ hk hc=>?_⟩,⟨hW6.setCell (p:=⟨W1.heap.size,0,none⟩) ho1 _,fun b cs t fr hb ht=>?_⟩,⟨A6,c6,?_,?_⟩,?_,?_⟩
    ·refine(Vy3 _ _ _ _ (fun e=>?_)).trans (hsame k ob hk fun e=>?_)
     ·subst e
      rw[hv]at hk
      injection hk with hk
      subst hk
      cases hc
     ·obtain⟨cur,h⟩:=hcel k e
      rw[h]at hk
      injection hk with hk
      subst hk
      cases hc
    ·refine((Vy3 _ _ _ _ (fun e=>?_)).trans (hsame b _ hb fun e=>?_)).trans hb.symm
     ·subst e
      rw[hv]at hb
      injection hb with hb
      injection hb with _ hb _
      subst hb
      rcases ht with ht|ht<;>cases ht
     ·obtain⟨cur,h⟩:=hcel b e
      rw[h]at hb
      injection hb with hb
      injection hb with _ hb _
      subst hb
      rcases ht with ht|ht<;>cases ht
    ·rw[hfin.out]
     exact hv6.set _
    ·rw[hfin.out]
     exact ho6.setG (by omega) (by omega) _
    ·exact(hB.trans hW6).setCell (p:=⟨W1.heap.size,0,none⟩) ho1 _
    ·exact Vx1 hB0 (Vx1 X5.size (Vx1 hb6.size (by simp[World.setCell])))
   have PF:∀(A3:Option Addr) (c3:Nat) (w3:World) (ho3:Own 5 w3 W.heap.size A3 c3 y.v) (w5:World) (hb:Below w3.heap.size w3 w5),∀b,(∃ a,A3=some a∧b=a.block)→W0.heap.size≤b∧Soft w5 b∧∀a,A'=some a→b≠a.block:=by
    rintro A3 c3 w3 ho3 w5 hb b ⟨a,ha,rfl⟩
    obtain⟨h1,h2⟩:=ho3.soft a ha
    exact⟨Vx1 hB0 h1,h2.kept (hb.block _ h2.lt),fun a' ha' e=>by have:=(ho.blk a' ha').2;omega⟩
   have hcv:=hv.cell
   have hfv:=hv.frozen
   replace hv:=hid hv
   replace FIN:=hid FIN
   replace PF:=hid PF
   have X0:=Zao W
   unfold tmpsP
   gi_wp2
   have nb:∀a,A'=some a→b6≠a.block:=fun a ha e=>by
    obtain⟨G,k1,k2⟩:=ho
    obtain⟨cur,-,hc⟩:=k1.form a ha
    rw[← e,h6]at hc
    injection hc with hc
    injection hc with _ hc _
    cases hc
   have nw:∀a,A'=some a→W1.heap.size≠a.block:=fun a ha e=>by have:=(ho.blk a ha).1;omega
   refine Yk2 (fun w'=>∀b,b<W.heap.size→(∀ a,A'=some a→b≠a.block)→w'.heap[b]? =W.heap[b]?) (fun _ _ _=>rfl) fun hS=>?_
   refine' tiL 0 (.slice A' ps.length c') rfl (fun w' h=>?_) ?_
   ·have hCell:=Boxed.cell ((h _ hv.out.lt nw).trans hv.out)
    go_simp
    first|done|(with_reducible rfl)
   try simp only[sQ]
   refine' tiM 1 rfl (fun _ h=>Zae ((h _ (block_lt h6) nb).trans h6)) hud (by rw[← Vx7];exact hsz.out) ?_
   try simp only[sQ]
   refine' tiP 2 rfl ?_
   try simp only[sQ]
   refine rdI 3 rfl fun K hK=>?_
   go_simp
   refine⟨trivial,CallsIn.inRound l (callsIn_wide.2 ((Zbs A2 y.v.length c2 y.v _ (hRW.out.bel X0) rfl (by omega)).mono ?_))⟩
   rintro e w3 ⟨A3,c3,rfl,ho3,hb3⟩
   have X3:Below W.heap.size W w3:=X0.trans (hb3.mono X0.size)
   replace ho3:=hid (ho3.base (B':=W.heap.size) X0.size)
   simp only[]
   refine hK _ _ (fun b hb _=>X3.block b hb) fun hS=>?_
   clear hK K
   try simp only[sQ]
   refine' tiI 4 rfl (Yb1 (by rfl) 43 _ rfl _ _ (ZbK y.k (.slice A3 y.v.length c3) rfl) rfl) ?_
   try simp only[sQ]
   refine rdI 5 rfl fun K hK=>?_
   refine ZaH slotPr (by decide) (by rfl) (.tmp 22) rfl (y.k.1.map bv++[.slice A3 y.v.length c3]) rfl (Zbq _ _) ?_
   intro w5 hw5
   have X5:Below W.heap.size W w5:=hw5▸X3.trans ((Zad w3 _).mono X3.size)
   have src5:Hid (Src (fun b=>∃a,A3=some a∧b=a.block) w5 (some ⟨w3.heap.size,0,none⟩) [y]):=hid (hw5▸ZaE (Zbb ho3.out))
   have hF5:Hid (∀ b,(∃ a,A3=some a∧b=a.block)→W0.heap.size≤b∧Soft w5 b∧∀a,A'=some a→b≠a.block):=hid (PF.out A3 c3 w3 ho3.out w5 (hw5▸Zad w3 _))
   clear hw5
   refine hK _ _ (fun b hb _=>X5.block b hb) fun hS=>?_
   clear hK K
   try simp only[sQ]
   refine rdI 6 rfl fun K hK=>?_
   refine ZaN slotPr (by rfl) (.tmp 18) (.tmp 23) rfl W0.heap.size W0.heap.size A' (some ⟨w3.heap.size,0,none⟩) ps.length 1 c' 1 ps [y] _ rfl rfl rfl rfl (ho.bel X5) src5.out hF5.out (by simp;omega) (Vx1 hB0 X5.size) ?_
   intro A6 c6 w6 ho6 hb6 hg6
   have hv6:Boxed w6 W1.heap.size 44 (.slice A' ps.length c'):=Zaw (Zaw hv.out X5 hv.out.lt) hb6 (by omega)
   have hc6:=hv6.cell
   have hf6:=hv6.frozen
   replace ho6:=hid ho6
   refine hK _ _ (fun b hb hne=>(hg6.block b (Vx4 hb X5.size) (fun e=>by cases A' with|none=>cases e|some a=>injection e with e;exact hne a rfl e)).trans (X5.block b hb)) fun hS=>?_
   clear hK K
   try simp only[sQ]
   refine Ynp 7 rfl fun K hK=>?_
   go_simp
   refine hK _ _ ?_
   clear hK K
   try simp only[sQ]
   refine dnI ?_
   gi_wp2
   have F:=FIN.out w5 X5 A6 c6 w6 ho6.out hb6 hg6 hv6
   rw[show (ps++[y]).length=ps.length+1 by simp]at F
   exact F
  case done=>
   rintro D xs W hD hS ⟨⟨A',c',hv,hown⟩,hB,hB0⟩ hK
   rw[hS]at hv hown
   have hcv:=hv.cell
   have hD2:=fun (r:Nat) (e:some D=some r)=>(⟨_,by cases e;exact hK,rfl⟩:∃o:Obj,W.heap[r]? =some o∧o.isCells=false)
   gi_wp2
   refine⟨by simp,.inl ⟨_,_,rfl,run_takeDeferred hK,?_⟩⟩
   exact⟨_,by kernel_rfl,A',c',rfl,OwnR.base (Zk2 hown (grownBy_putObj' W D _) hD2) Y0.size,hB.trans (belowK_b (w:=w) (Vx8 _) W D _ _ (Vx1 Y0.size hD) hK rfl rfl)⟩
end
end Go.Proofs.YtnnclggeifnomaaGreatDoor
