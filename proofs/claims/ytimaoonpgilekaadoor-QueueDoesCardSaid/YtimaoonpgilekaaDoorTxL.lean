import Derived.Test.YtimaoonpgilekaaDoorSls
set_option maxRecDepth 100000
set_option linter.all false
set_option maxHeartbeats 2000000
namespace Go.Proofs.YtimaoonpgilekaaDoor
open Go.RowKit
theorem ZxM(d:Dg)(w:World):Calls Tryd.prog 49 #[.agg (d.1.map bv).toArray] w fun e w'=>e=.returned (.slice (some ⟨w.heap.size,0,none⟩) 32 32)∧w'=w.alloc (.cells (d.1.map bv).toArray 23):=by
 have hsl:=ZaA
 generalize d.1.map bv=cd at *
 go_enter Tryd.func49,Tryd.ntmps49
 go_wp2
 go_ret
 exact⟨rfl,rfl⟩
theorem ZvY(n:Nat)(hn:n<18446744073709551616)(w:World):Calls Tryd.prog 51 #[.int .u64 (n:Int)] w fun e w'=>∃A c,e=.returned (.slice A 8 c)∧Own 5 w' w.heap.size A c (be 8 n)∧Below w.heap.size w w':=by
 have p1:putE n 8=0:=by unfold putE;rw[if_pos (by decide)];exact if_pos hn
 have d1:=hid (fun W=>Zfr n _ 8 (be 8 n) 0 W rfl hn (by unfold putB;rw[if_pos p1];rfl) p1)
 have l1:=Zav 8 n
 generalize be 8 n=y at *
 rw[l1]at d1
 clear p1 hn
 go_enter Tryd.func51,Tryd.ntmps51
 go_wp2_with fail
 refine(d1.out _).mono ?_
 rintro e w1 ⟨A1,c1,rfl,o1,hb⟩
 go_wp2
 go_ret
 exact⟨_,_,rfl,o1,hb⟩
def dgsB(ds:List Dg):List UInt8:=(ds.map (·.1)).flatten
def nosB(ns:List Nat):List UInt8:=(ns.map (be 8)).flatten
theorem Zy2{ds:List Dg}{j:Nat}(h:j<ds.length):dgsB (ds.take (j+1))=dgsB (ds.take j)++ds[j].1:=by
 unfold dgsB
 rw[Vy5 h,List.map_append,List.flatten_append]
 rw[List.map_cons,List.map_nil,List.flatten_cons,List.flatten_nil,List.append_nil]
theorem Zz6{ns:List Nat}{j:Nat}(h:j<ns.length):nosB (ns.take (j+1))=nosB (ns.take j)++be 8 ns[j]:=by
 unfold nosB
 rw[Vy5 h,List.map_append,List.flatten_append]
 rw[List.map_cons,List.map_nil,List.flatten_cons,List.flatten_nil,List.append_nil]
theorem YcP(ds:List Dg):(dgsB ds).length=32 * ds.length:=by
 unfold dgsB
 induction ds with
 |nil=>rfl
 |cons d ds ih=>simp only[List.map_cons,List.flatten_cons,Vx3,List.length_cons,d.2,ih];omega
theorem YdC(ns:List Nat):(nosB ns).length=8 * ns.length:=by
 unfold nosB
 induction ns with
 |nil=>rfl
 |cons d ds ih=>simp only[List.map_cons,List.flatten_cons,Vx3,List.length_cons,Zav,ih];omega
theorem Yhq{F:Nat→Prop}{w:World}{A:Option Addr}{xs:List Dg}(h:Row F w A xs){j:Nat}(hj:j<xs.length):∃b o,A=some ⟨b,o,none⟩∧F b∧w.rangeAt b (o+j * 32) (xs[j].1.map bv):=by
 obtain⟨b,o,rfl,hF,_,h3⟩:=h (by omega)
 obtain⟨vs,h1,h2⟩:=h3 j _ (Vx9 hj)
 have h1:vs=xs[j].1.map bv:=h1
 subst h1
 exact⟨b,o,rfl,hF,h2⟩
theorem Yhs{F:Nat→Prop}{w:World}{A:Option Addr}{xs:List Nat}(h:Row F w A xs){j:Nat}(hj:j<xs.length):∃b o,A=some ⟨b,o,none⟩∧F b∧w.cell? ⟨b,o+j,none⟩=some (.int .u64 (xs[j]:Int))∧xs[j]<18446744073709551616:=by
 obtain⟨b,o,rfl,hF,_,h3⟩:=h (by omega)
 obtain⟨vs,⟨h1,h4⟩,h2⟩:=h3 j _ (Vx9 hj)
 subst h1
 have h5:=h2 0 _ rfl
 rw[Nat.add_zero,show Enc.size Nat=1 from rfl,Nat.mul_one]at h5
 exact⟨b,o,rfl,hF,h5,h4⟩
theorem Zvy(k:Dg):(Tryd.prog.info? 23).map (·.size)=some (k.1.map bv).toArray.size:=by rw[Vx7,Vx6,k.2];exact Zai
theorem Zfq(k:Dg):(Tryd.prog.info? 23).map (·.size)=some (k.1.map bv).length:=by rw[Vx6,k.2];exact Zai
theorem zDx(k:Dg):z32.size=(k.1.map bv).toArray.size:=by rw[z32_size];simp[k.2]
theorem ZpJ(k:Dg):(k.1.map bv).toArray.all (·.oneCell')=true:=all_oneCell_toArray fun u hu=>by
 obtain⟨x,-,rfl⟩:=List.mem_map.1 hu
 rfl
theorem ZsQ{A:Option Addr}{M T:Nat}{w w':World}(hz:Zone A M T)(hg:w.grownBy w' (A.map (·.block)))(hT:T≤w.heap.size)(b:Nat)(h1:M≤b)(h2:b<T):w'.heap[b]? =w.heap[b]? :=by
 refine hg.block b (by omega) ?_
 rcases A with _|a
 ·simp
 ·have h3:=hz a rfl
  simp only[Option.map_some,ne_eq,Option.some.injEq]
  omega
theorem Zmw(F:Nat→Prop)(B M T:Nat)(A A2:Option Addr)(c c2:Nat)(l:List UInt8)(ds:List Dg)(w:World)(ho:Own 5 w B A c l)(hB:B≤w.heap.size)(hr:Row F w A2 ds)(hF:∀b,F b→M≤b∧b<T)(hT:T≤w.heap.size)(hz:Zone A M T)(hl:l.length≤1000000)(hn:ds.length≤1000):
  Calls Tryd.prog 48 #[.slice A l.length c,.func (.func 49) #[] #[],.slice A2 ds.length c2] w fun e w'=>∃A' c',e=.returned (.slice A' (l++dgsB ds).length c')∧Own 5 w' B A' c' (l++dgsB ds)∧Below B w w':=by
 have hu:=Tryd.underlying23
 go_enter Tryd.func48,Tryd.ntmps48
 go_wp2
 go_loopw [0,11] (fun v i wr=>∃(j:Nat) (A':Option Addr) (c':Nat),j≤ds.length∧i=.int .i64 j∧v=.slice A' (l++dgsB (ds.take j)).length c'∧Own 5 wr B A' c' (l++dgsB (ds.take j))∧Below B w wr∧Zone A' M T∧∀b,M≤b→b<T→wr.heap[b]? =w.heap[b]?) (fun _ i _=>ds.length-(intOf i).toNat)
 case atStart=>exact⟨0,A,c,Nat.zero_le _,rfl,by simp[dgsB],by simpa [dgsB] using ho,Below.refl _ _,hz,fun _ _ _=>rfl⟩
 case round=>
  obtain⟨j,A',c',hj,rfl,rfl,ho,hb,hzr,hk⟩:=hrel
  replace hk:=hid hk
  replace hzr:=hid hzr
  by_cases hlt:j<ds.length
  ·have hlt2:(j:Int)<(ds.length:Int):=by omega
   obtain⟨b,o,rfl,hbF,hr0⟩:=Yhq hr hlt
   have hr1:=hid (Zak hr0 (fun _=>hk.out b (hF b hbF).1 (hF b hbF).2))
   have E:l++dgsB (ds.take (j+1))=(l++dgsB (ds.take j))++ds[j].1:=by rw[Zy2 hlt,List.append_assoc]
   have hx:(l++dgsB (ds.take j)).length≤1032000:=by rw[Vx3,YcP,List.length_take];omega
   obtain⟨y,hy⟩:∃y,l++dgsB (ds.take (j+1))=y:=⟨_,rfl⟩
   rw[hy]at E
   replace hy:=hid hy
   replace E:=hid E
   replace hx:=hid hx
   generalize l++dgsB (ds.take j)=x at *
   generalize ds[j]=d at *
   have D1:=hid (fun W=>ZxM d W)
   have s1:=hid (Zvy d)
   have s2:=hid (Zfq d)
   have s3:=hid (zDx d)
   have s4:=hid (ZpJ d)
   have e0:=hid (Vx0 wr (.cells z32 23))
   have hbs:=hid (Vx1 hB hb.size)
   have hB0:=hid hb
   have hT0:=hid (Vx1 hT hb.size)
   have ld:=d.2
   obtain⟨u,hu2⟩:∃u,d.1=u:=⟨_,rfl⟩
   rw[hu2]at E ld D1 s1 s2 s3 s4 hr1
   clear hr0 hbF hb hr
   go_wp2_with (first
    |(with_reducible refine lDr hr1.out s2.out hu ?_)
    |(with_reducible refine Zac rfl 23 rfl z32 Zam ?_)
    |((with_reducible refine stW 8 14 wr.heap.size 23 z32 ?_ ?_ ?_ ?_ ?_);exact e0.out;exact s1.out;exact s3.out;exact s4.out;intro w4 hgS hbS hsS;have X4:=hid (Zan rfl hbS);have q4:=hid (Zae (l:=u.map bv) hgS);clear hgS hbS hsS)
    |(with_reducible refine lDr q4.out s2.out hu ?_))
   refine(D1.out _).mono ?_
   rintro e w5 ⟨rfl,rfl⟩
   have X5:=hid (X4.out.trans ((Zad w4 (.cells (u.map bv).toArray 23)).mono X4.out.size))
   have o5:=hid (ho.bel X5.out)
   have r5:=hid (Rd.lit w4 23 u)
   have z5:=hid (Vx1 hbs.out X5.out.size)
   have W5:=hid (hB0.out.trans (X5.out.mono hbs.out))
   have T5:=hid (Vx1 hT0.out X5.out.size)
   have K5:=hid (fun b (h1:M≤b) (h2:b<T)=>(X5.out.block b (Vx4 h2 hT0.out)).trans (hk.out b h1 h2))
   clear X4 q4 X5 ho hB0
   go_wp2_with ((at_builtin;refine Zch u8s rfl (.tmp 15) (.tmp 18) rfl B A' (some ⟨w4.heap.size,0,none⟩) x.length 32 c' 32 x u rfl rfl rfl ld.symm o5.out r5.out (by have:=hx.out;omega) z5.out ?_;intro A6 c6 w6 o6 hb6 hg6 hA6;rw[← E.out]at o6 ⊢;replace o6:=hid o6;have W6:=hid (W5.out.trans hb6);have Z6:=hid (hzr.out.step T5.out hA6);have K6:=hid (fun b (h1:M≤b) (h2:b<T)=>(ZsQ hzr.out hg6 T5.out b h1 h2).trans (K5.out b h1 h2));clear hb6 hg6 hA6))
   go_roundw
   case rel=>rw[← hy.out]at o6 ⊢;exact⟨j+1,A6,c6,by omega,by go_num,rfl,o6.out,W6.out,Z6.out,K6.out⟩
   case measure=>simp[intOf];omega
  ·obtain rfl:j=ds.length:=by omega
   rw[List.take_length]at ho ⊢
   obtain⟨y,hy⟩:∃y,l++dgsB ds=y:=⟨_,rfl⟩
   rw[hy]at ho ⊢
   replace hy:=hid hy
   go_wp2
   go_ret
   rw[hy.out]
   exact⟨_,_,rfl,ho,hb⟩
theorem ZsY(F:Nat→Prop)(B M T:Nat)(A A2:Option Addr)(c c2:Nat)(l:List UInt8)(ns:List Nat)(w:World)(ho:Own 5 w B A c l)(hB:B≤w.heap.size)(hr:Row F w A2 ns)(hF:∀b,F b→M≤b∧b<T)(hT:T≤w.heap.size)(hz:Zone A M T)(hl:l.length≤1000000)(hn:ns.length≤1000):
  Calls Tryd.prog 50 #[.slice A l.length c,.func (.func 51) #[] #[],.slice A2 ns.length c2] w fun e w'=>∃A' c',e=.returned (.slice A' (l++nosB ns).length c')∧Own 5 w' B A' c' (l++nosB ns)∧Below B w w':=by
 go_enter Tryd.func50,Tryd.ntmps50
 go_wp2
 go_loopw [0,11] (fun v i wr=>∃(j:Nat) (A':Option Addr) (c':Nat),j≤ns.length∧i=.int .i64 j∧v=.slice A' (l++nosB (ns.take j)).length c'∧Own 5 wr B A' c' (l++nosB (ns.take j))∧Below B w wr∧Zone A' M T∧∀b,M≤b→b<T→wr.heap[b]? =w.heap[b]?) (fun _ i _=>ns.length-(intOf i).toNat)
 case atStart=>exact⟨0,A,c,Nat.zero_le _,rfl,by simp[nosB],by simpa [nosB] using ho,Below.refl _ _,hz,fun _ _ _=>rfl⟩
 case round=>
  obtain⟨j,A',c',hj,rfl,rfl,ho,hb,hzr,hk⟩:=hrel
  replace hk:=hid hk
  replace hzr:=hid hzr
  by_cases hlt:j<ns.length
  ·have hlt2:(j:Int)<(ns.length:Int):=by omega
   obtain⟨b,o,rfl,hbF,hr0,hn64⟩:=Yhs hr hlt
   have hcell:=(World.cell?_of_block (w:=w) (w':=wr) (a:=⟨b,o+j,none⟩) (hk.out b (hF b hbF).1 (hF b hbF).2)).trans hr0
   have E:l++nosB (ns.take (j+1))=(l++nosB (ns.take j))++be 8 ns[j]:=by rw[Zz6 hlt,List.append_assoc]
   have hx:(l++nosB (ns.take j)).length≤1032000:=by rw[Vx3,YdC,List.length_take];omega
   obtain⟨y,hy⟩:∃y,l++nosB (ns.take (j+1))=y:=⟨_,rfl⟩
   rw[hy]at E
   replace hy:=hid hy
   replace hx:=hid hx
   generalize l++nosB (ns.take j)=x at *
   generalize ns[j]=d at *
   have D1:=hid (fun W=>ZvY d hn64 W)
   have ld:=Zav 8 d
   have hbs:=hid (Vx1 hB hb.size)
   have hB0:=hid hb
   have hT0:=hid (Vx1 hT hb.size)
   generalize be 8 d=u at *
   replace E:=hid E
   clear hr0 hbF hb hr hn64
   go_wp2_with fail
   refine(D1.out _).mono ?_
   rintro e w5 ⟨A5,c5,rfl,oo,X5⟩
   have o5:=hid (ho.bel X5)
   have r5:=hid oo.rd
   have z5:=hid (Vx1 hbs.out X5.size)
   have W5:=hid (hB0.out.trans (X5.mono hbs.out))
   have T5:=hid (Vx1 hT0.out X5.size)
   have K5:=hid (fun b (h1:M≤b) (h2:b<T)=>(X5.block b (Vx4 h2 hT0.out)).trans (hk.out b h1 h2))
   clear X5 ho hB0 oo hcell
   go_wp2_with ((at_builtin;refine Zch u8s rfl (.tmp 15) (.tmp 18) rfl B A' A5 x.length 8 c' c5 x u rfl rfl rfl ld.symm o5.out r5.out (by have:=hx.out;omega) z5.out ?_;intro A6 c6 w6 o6 hb6 hg6 hA6;rw[← E.out]at o6 ⊢;replace o6:=hid o6;have W6:=hid (W5.out.trans hb6);have Z6:=hid (hzr.out.step T5.out hA6);have K6:=hid (fun b (h1:M≤b) (h2:b<T)=>(ZsQ hzr.out hg6 T5.out b h1 h2).trans (K5.out b h1 h2));clear hb6 hg6 hA6))
   go_roundw
   case rel=>rw[← hy.out]at o6 ⊢;exact⟨j+1,A6,c6,by omega,by go_num,rfl,o6.out,W6.out,Z6.out,K6.out⟩
   case measure=>simp[intOf];omega
  ·obtain rfl:j=ns.length:=by omega
   rw[List.take_length]at ho ⊢
   obtain⟨y,hy⟩:∃y,l++nosB ns=y:=⟨_,rfl⟩
   rw[hy]at ho ⊢
   replace hy:=hid hy
   go_wp2
   go_ret
   rw[hy.out]
   exact⟨_,_,rfl,ho,hb⟩
theorem Ybo:Slot Tryd.prog Dg 100 23 (.agg z32) 32 where
 under:=Tryd.underlying100
 info:=by kernel_rfl
 zero:=by decide +kernel
 pos:=by decide
theorem YhA:Slot Tryd.prog Nat 101 31 (.int .u64 0) 8 where
 under:=Tryd.underlying101
 info:=by kernel_rfl
 zero:=rfl
 pos:=by decide
theorem Zvr{w:World}(ds:List Dg)(E:TypeId):Row (fun b=>w.heap.size≤b∧b<w.heap.size+1) (w.alloc (.cells ((ds.map fun d=>d.1.map bv).flatten).toArray E)) (some ⟨w.heap.size,0,none⟩) ds:=fun hn=>
 ⟨w.heap.size,0,rfl,⟨Vx8 _,Nat.lt_succ_self _⟩,by simp,ZjI (F:=fun b=>w.heap.size≤b∧b<w.heap.size+1) (by simp) fun j x vs hx hv=>by
  rw[List.getElem?_map,hx]at hv
  injection hv with hv
  subst hv
  rfl⟩
theorem Yem{w:World}(ns:List Nat)(h:∀n∈ns,n<18446744073709551616)(E:TypeId):Row (fun b=>w.heap.size≤b∧b<w.heap.size+1) (w.alloc (.cells ((ns.map fun (n:Nat)=>[Value.int .u64 (n:Int)]).flatten).toArray E)) (some ⟨w.heap.size,0,none⟩) ns:=fun hn=>
 ⟨w.heap.size,0,rfl,⟨Vx8 _,Nat.lt_succ_self _⟩,by simp,ZjI (F:=fun b=>w.heap.size≤b∧b<w.heap.size+1) (by simp) fun j x vs hx hv=>by
  rw[List.getElem?_map,hx]at hv
  injection hv with hv
  subst hv
  exact⟨rfl,h x (List.mem_of_getElem? hx)⟩⟩
theorem YcR(d e:Dg):[]++dgsB [d,e]=d.1++e.1:=by simp[dgsB]
theorem ZeD(x:Tx)(hx:x.ok)(w:World):Calls Tryd.prog 34 #[.agg (txC x).toArray] w fun e w'=>∃A c,e=.returned (.slice A 88 c)∧Own 5 w' w.heap.size A c (bodyX x)∧Below w.heap.size w w':=by
 have hu:=Tryd.underlying23
 have B0:=BoxX.new w x 33
 have W0:=hid (Zad w (.cells (txC x).toArray 33))
 have hs0:=hid (show (w.alloc (.cells (txC x).toArray 33)).heap.size=w.heap.size+1 from Vx2 _ _)
 have p0:=hid B0.p
 have t0:=hid B0.t
 have n0:=hid B0.n
 have a0:=hid B0.a
 have f0:=hid B0.f
 have s1:=hid (Zfq x.p)
 have s2:=hid (Zfq x.t)
 have lp:=hid (ZbO x.p)
 have lt:=hid (ZbO x.t)
 have P1:=(fun (W:World)=>Zmw (fun b=>W.heap.size≤b∧b<W.heap.size+1) (W.heap.size+1) W.heap.size (W.heap.size+1) none (some ⟨W.heap.size,0,none⟩) 0 2 [] [x.p,x.t] (W.alloc (.cells (([x.p,x.t].map fun d=>d.1.map bv).flatten).toArray 23)) (Own.nil _ _) (by rw[Vx2];exact Vx8 _) (Zvr _ _) (fun _ h=>h) (by rw[Vx2];exact Vx8 _) (Zone.none _ _) (by simp) (by simp))
 rw[YcR]at P1
 have hlen1:(x.p.1++x.t.1).length=64:=by rw[Vx3,x.p.2,x.t.2]
 rw[hlen1]at P1
 have P2:=hid (fun (A:Option Addr) (c:Nat) (W:World) (B:Nat) (hB:B≤W.heap.size) (ho:Own 5 W B A c (x.p.1++x.t.1))=>ZsY (fun b=>W.heap.size≤b∧b<W.heap.size+1) B W.heap.size (W.heap.size+1) A (some ⟨W.heap.size,0,none⟩) c 3 (x.p.1++x.t.1) [x.n,x.a,x.f] (W.alloc (.cells (([x.n,x.a,x.f].map fun (n:Nat)=>[Value.int .u64 (n:Int)]).flatten).toArray 31)) (ho.alloc _) (by rw[Vx2];omega) (Yem _ (by intro n hn;simp at hn;rcases hn with rfl|rfl|rfl;exact hx.1;exact hx.2.1;exact hx.2.2) _) (fun _ h=>h) (by rw[Vx2];exact Vx8 _) (fun a ha=>.inl (ho.blk a ha).2) (by rw[hlen1];decide) (by simp))
 have hb:x.p.1++x.t.1++nosB [x.n,x.a,x.f]=bodyX x:=by unfold bodyX nosB;simp
 rw[hb,Zci,hlen1]at P2
 clear hb hlen1 B0
 generalize bodyX x=z at *
 generalize x.p.1++x.t.1=y at *
 generalize x.n=vn at *
 generalize x.a=va at *
 generalize x.f=vf at *
 rw[show ([x.p,x.t]:List Dg).length=2 from rfl,show ([]:List UInt8).length=0 from rfl]at P1
 rw[show ([vn,va,vf]:List Nat).length=3 from rfl]at P2
 simp only[List.map_cons,List.map_nil,List.flatten_cons,List.flatten_nil,List.append_nil,List.cons_append,List.nil_append]at P1 P2
 generalize x.p.1.map bv=cp at *
 generalize x.t.1.map bv=ct at *
 generalize txC x=cx at *
 go_enter Tryd.func34,Tryd.ntmps34
 replace P1:=P1 (w.alloc (.cells cx.toArray 33))
 rw[hs0.out]at P1
 replace P1:=hid P1
 have W1:=hid (Zad (w.alloc (.cells cx.toArray 33)) (.cells (cp++ct).toArray 23))
 rw[hs0.out]at W1
 go_wp2_with (first
  |(with_reducible refine lDr p0.out s1.out hu ?_)
  |(with_reducible refine lDr t0.out s2.out hu ?_)
  |((with_reducible refine Zdg Ybo rfl 2 _ rfl [cp,ct] [.agg cp.toArray,.agg ct.toArray] rfl (by decide) (by decide) ?_ ?_ ?_ ?_);(intro cs hcs;simp at hcs;rcases hcs with rfl|rfl;exact lp.out;exact lt.out);rfl;rfl))
 refine P1.out.mono ?_
 rintro e w3 ⟨A3,c3,rfl,o3,hb⟩
 have V1:=hid (show Below (w.heap.size+1) (w.alloc (.cells cx.toArray 33)) w3 from W1.out.trans (hb.mono (Nat.le_succ _)))
 have z3:=hid (show w.heap.size+1≤w3.heap.size from by have:=V1.out.size;rw[hs0.out]at this;exact this)
 have n3:=hid ((V1.out.cell (Nat.lt_succ_self _)).trans n0.out)
 have a3:=hid ((V1.out.cell (Nat.lt_succ_self _)).trans a0.out)
 have f3:=hid ((V1.out.cell (Nat.lt_succ_self _)).trans f0.out)
 have P3:=hid (P2.out A3 c3 w3 (w.heap.size+1) z3.out (o3.base (Nat.le_succ _)))
 clear hb W1 n0 a0 f0 p0 t0 P1 P2
 replace n3:=n3.out
 replace a3:=a3.out
 replace f3:=f3.out
 go_wp2_with (((with_reducible refine Zdg YhA rfl 3 _ rfl [[.int .u64 (vn:Int)],[.int .u64 (va:Int)],[.int .u64 (vf:Int)]] [.int .u64 (vn:Int),.int .u64 (va:Int),.int .u64 (vf:Int)] rfl (by decide) (by decide) ?_ ?_ ?_ ?_);(intro cs hcs;simp at hcs;rcases hcs with rfl|rfl|rfl<;>rfl);rfl;rfl))
 refine P3.out.mono ?_
 rintro e w5 ⟨A5,c5,rfl,o5,hb⟩
 have V5:=hid (V1.out.trans ((Zad w3 (.cells [Value.int .u64 (vn:Int),.int .u64 (va:Int),.int .u64 (vf:Int)].toArray 31)).mono z3.out) |>.trans hb)
 clear hb n3 a3 f3
 go_wp2
 go_ret
 exact⟨_,_,rfl,o5.base (Nat.le_succ _),W0.out.trans (V5.out.mono (Nat.le_succ _))⟩
end Go.Proofs.YtimaoonpgilekaaDoor
