import Derived.Test.YtnnclggeifnomaaGreatDoorTxM
set_option maxRecDepth 100000
set_option linter.all false
set_option maxHeartbeats 4000000
namespace Go.Proofs.YtnnclggeifnomaaGreatDoor
open Go.RowKit
theorem ZkW{x:Hd}(h:mayH x=true):x.ok:=by
 have:=ZeZ.1 h
 unfold Hd.ok
 omega
theorem Zqx(a b:Int)(p q:Bool)(hp:decide (a≤1073741824)=p)(hq:decide (b≤256)=q)(w:World):Calls Tryz.prog 183 #[.int .u64 a,.int .u64 b] w fun e w'=>e=.returned (.bool (p&&q))∧w'=w:=by
 cases p<;>cases q
 all_goals
  go_enter Tryz.func183,Tryz.ntmps183
  go_wp2
  go_ret
  exact⟨rfl,rfl⟩
theorem ZzX{x:Hd}(hx:x.ok):mayH x=(decide (IntKind.u64.wrap x.h≤1073741824)&&decide (IntKind.u64.wrap x.m≤256)):=by
 unfold Hd.ok at hx
 rw[Bool.eq_iff_iff,ZeZ,Bool.and_eq_true,decide_eq_true_eq,decide_eq_true_eq,IntKind.wrap_u64,IntKind.wrap_u64]
 omega
theorem Zdo(x:Hd)(hx:x.ok)(w:World):Calls Tryz.prog 133 #[.agg (hdC x).toArray] w fun e w'=>e=.returned (.int .i64 (hdE x))∧Below w.heap.size w w':=by
 have hux:=Tryz.underlying51
 have B0:=BoxH.new w x 51
 have W0:=hid (Zad w (.cells (hdC x).toArray 51))
 have c0:=B0.h
 have c1:=B0.m
 have hE:hdE x=if mayH x=true then 0 else 8:=rfl
 rw[hE,ZzX hx]
 obtain⟨ah,hah⟩:∃a,IntKind.u64.wrap x.h=a:=⟨_,rfl⟩
 obtain⟨am,ham⟩:∃a,IntKind.u64.wrap x.m=a:=⟨_,rfl⟩
 rw[hah,ham]
 obtain⟨p,hp⟩:∃p,decide (ah≤1073741824)=p:=⟨_,rfl⟩
 obtain⟨q,hq⟩:∃p,decide (am≤256)=p:=⟨_,rfl⟩
 have hM:=hid (fun W=>Zqx ah am p q hp hq W)
 rw[hp,hq]
 clear B0 hE hp hq hx
 generalize hdC x=cx at *
 generalize x.h=vh at *
 generalize x.m=vm at *
 obtain⟨m,hm⟩:∃m,(p&&q)=m:=⟨_,rfl⟩
 rw[hm]at hM ⊢
 clear hm
 cases m
 all_goals
  go_enter Tryz.func133,Tryz.ntmps133
  go_wp2_with fail
  refine(hM.out _).mono ?_
  rintro e w1 ⟨rfl,rfl⟩
  go_wp2
  go_ret
  exact⟨rfl,W0.out⟩
theorem Zlw{ls:List (List UInt8)}{j:Nat}(h:j<ls.length):(ls.take (j+1)).flatten=(ls.take j).flatten++ls[j]:=by
 rw[Vy5 h,List.flatten_append]
 simp
theorem ZoC(ls:List (List UInt8))(j:Nat):(ls.take j).flatten.length≤ls.flatten.length:=by
 conv=>rhs;rw[← List.take_append_drop j ls,List.flatten_append,Vx3]
 omega
theorem Zo3(A:Option Addr)(c n:Nat)(ls:List (List UInt8))(w:World)(hr:Rds w A ls)(hn:n=ls.length)(hc:ls.length≤1000)(hl:ls.flatten.length≤1000000):
  Calls Tryz.prog 230 #[.slice A n c] w fun e w'=>∃A' c',e=.returned (.slice A' ls.flatten.length c')∧Own 5 w' w.heap.size A' c' ls.flatten∧Below w.heap.size w w':=by
 subst hn
 obtain⟨i0,hi0,hz0,hz1,hz2⟩:=info_parts Zfs
 go_enter Tryz.func230,Tryz.ntmps230
 go_wp2_with ((at_make;refine wpList_make_own _ rfl _ _ 41 rfl w.heap.size 5 i0 (.int .u8 0) 1 Tryz.underlying41 hi0 hz0 hz1 _ _ _ 108 rfl rfl rfl (by rw[hz2];omega) (by unfold maxLen;omega) (Vx8 _) ?_;intro w1 ho1 hg1;have o1:Hid (Own 5 w1 w.heap.size (some ⟨w.heap.size,0,none⟩) 108 []):=hid ho1;have W1:Hid (Below w.heap.size w w1):=hid ((Below.refl _ w).grown hg1 (Vx8 _) (by intro k hk;cases hk));clear ho1 hg1))
 go_loopw [3,9] (fun v i wr=>∃(j:Nat) (A':Option Addr) (c':Nat),j≤ls.length∧i=.int .i64 j∧v=.slice A' (ls.take j).flatten.length c'∧Own 5 wr w.heap.size A' c' (ls.take j).flatten∧Below w.heap.size w wr) (fun _ i _=>ls.length-(intOf i).toNat)
 case atStart=>exact⟨0,_,108,Nat.zero_le _,rfl,rfl,o1.out,W1.out⟩
 case round=>
  obtain⟨j,A',c',hj,rfl,rfl,ho,hb⟩:=hrel
  by_cases hlt:j<ls.length
  ·obtain⟨b,o,rfl,hcc⟩:=hr (by omega)
   obtain⟨A3,c3,hcell0,hr0,hc3,hm3⟩:=hcc j _ (Vx9 hlt)
   have r3:=hid (hr0.bel hb)
   have hcell:=(hb.cell (p:=⟨b,o+j,none⟩) (Vx5 _ _ hcell0)).trans hcell0
   have E:=hid (Zlw hlt)
   have hx:=hid (Vx1 (ZoC ls j) hl)
   have hz:=hid (Vx1 (ZoC ls (j+1)) hl)
   rw[Zlw hlt,Vx3]at hz
   clear hcell0 hr0 hc3 hm3 hcc hr
   generalize hy:(ls.take (j+1)).flatten=y at *
   replace hy:=hid hy
   generalize (ls.take j).flatten=x at *
   generalize ls[j]=z at *
   have hbs:=hb.size
   go_wp2_with ((at_builtin;refine ZaO u8s rfl (.tmp 13) (.tmp 14) rfl w.heap.size A' A3 x.length z.length c' c3 x z rfl rfl rfl rfl ho r3.out (by have:=hz.out;omega) hbs ?_;intro A5 c5 w5 ho5 hb5;rw[← E.out]at ho5 ⊢;replace ho5:=hid ho5))
   go_roundw
   case rel=>rw[← hy.out]at ho5 ⊢;exact⟨j+1,A5,c5,by omega,by go_num,rfl,ho5.out,hb.trans hb5⟩
   case measure=>simp[intOf];omega
  ·obtain rfl:j=ls.length:=by omega
   rw[List.take_length]at ho ⊢
   generalize hy:ls.flatten=x at *
   replace hy:=hid hy
   go_wp2
   go_ret
   rw[hy.out]
   exact⟨_,_,rfl,ho,hb⟩
def z96:Array Value:=((List.replicate 96 (0:UInt8)).map bv).toArray
theorem Zpx:(Tryz.prog.info? 309).map (fun i=>(i.zero,i.size))=some (some (.agg z96),z96.size):=by kernel_rfl
theorem Ybi:(Tryz.prog.info? 309).map (·.size)=some 96:=by kernel_rfl
theorem z96_size:z96.size=96:=by decide +kernel
def dgsC(ds:List Dg):List Value:=(ds.map fun d=>d.1.map bv).flatten
theorem ZjM(ds:List Dg):(dgsC ds).length=32 * ds.length:=by
 unfold dgsC
 induction ds with
 |nil=>rfl
 |cons d ds ih=>simp only[List.map_cons,List.flatten_cons,Vx3,Vx6,d.2,ih,List.length_cons];omega
theorem ZuE(ds:List Dg):(dgsC ds).toArray.all (·.oneCell')=true:=all_oneCell_toArray fun v hv=>by
 unfold dgsC at hv
 rw[List.mem_flatten]at hv
 obtain⟨l,hl,hv⟩:=hv
 obtain⟨d,-,rfl⟩:=List.mem_map.1 hl
 exact Zbn _ v hv
theorem Zj7{W:World}{g:Nat}{ds:List Dg}(h:W.rangeAt g 0 (dgsC ds)){j:Nat}(hj:j<ds.length):W.rangeAt g (32 * j) (ds[j].1.map bv):=by
 have h1:=Zdx (ds.map fun d=>d.1.map bv) 0 j (by simpa using hj) h
 have h2:=ZjM (ds.take j)
 unfold dgsC at h2
 rw[List.length_take,Nat.min_eq_left (Nat.le_of_lt hj),List.map_take]at h2
 rw[h2,Nat.zero_add,List.getElem_map]at h1
 exact h1
theorem ZyA(a b c:Dg):Tryz.prog.built 309 [(0,.agg (a.1.map bv).toArray),(1,.agg (b.1.map bv).toArray),(2,.agg (c.1.map bv).toArray)]=some (dgsC [a,b,c]).toArray:=by
 have h1:=Zpx
 have h2:=Zam
 have hu:=Tryz.underlying309
 unfold Program.built
 cases hi:Tryz.prog.info? 309 with
 |none=>rw[hi]at h1;cases h1
 |some it=>
  cases he:Tryz.prog.info? 37 with
  |none=>rw[he]at h2;cases h2
  |some ie=>
   rw[hi]at h1
   rw[he]at h2
   simp at h1 h2
   rw[hu]
   simp only
   rw[he,h1.1]
   simp only
   have hs:ie.size=32:=by rw[h2.2,z32_size]
   rw[hs]
   have lz:∀d:Dg,(d.1.map bv).length=32:=ZbO
   have h3:=Zgp (place:=fun i=>some (i * 32,32)) [z0.1.map bv,z0.1.map bv,z0.1.map bv] [.agg (a.1.map bv).toArray,.agg (b.1.map bv).toArray,.agg (c.1.map bv).toArray] 0 [] (by
    refine⟨?_,?_,?_,?_,?_,?_,trivial⟩<;>simp[lz,Value.cells])
   exact h3
theorem Zmb{α:Type}[Enc α]{E:TypeId}{w:World}{B0 B:Nat}{A:Option Addr}{c:Nat}{xs:List α}(h:OwnQ E w B0 B A c xs){b:Nat}{cs:Array Value}{T:TypeId}{fz:Nat×Nat}(hb:w.heap[b]? =some (.cells cs T fz))(hT:T≠E):∀a,A=some a→b≠a.block:=by
 rintro a rfl e
 obtain⟨F,h1,-⟩:=h
 obtain⟨cur,-,h2⟩:=h1.form a rfl
 rw[← e,hb]at h2
 injection h2 with h2
 injection h2 with _ h3 _
 exact hT h3
theorem Zz0{A:Option Addr}{b:Nat}(h:∀a,A=some a→b≠a.block):some b≠A.map (·.block):=fun e=>by
 rcases A with _|a
 ·cases e
 ·simp only[Option.map_some,Option.some.injEq]at e
  exact h a rfl e
theorem Own.blockT{E:TypeId}{w:World}{B:Nat}{A:Option Addr}{c:Nat}{l:List UInt8}(h:Own E w B A c l):∀a,A=some a→B≤a.block∧∃cur,w.heap[a.block]? =some (.cells cur E (0,0)):=by
 rintro a rfl
 rcases h.2 with ⟨hv,_⟩|⟨g,cap,cur,hv,hb,hg,_⟩
 ·injection hv with h1 _ _;cases h1
 ·injection hv with h1 _ _
  injection h1 with h1
  subst h1
  exact⟨hb,cur,hg⟩
theorem Own.keptQ{α:Type}[Enc α]{E E2:TypeId}{w w':World}{B0 B B2:Nat}{A A2:Option Addr}{c c2:Nat}{l:List UInt8}{xs:List α}(h:Own E2 w B2 A2 c2 l)(hQ:OwnQ E w B0 B A c xs)(hT:E2≠E)(hg:w.grownBy w' (A.map (·.block))):Own E2 w' B2 A2 c2 l:=
 h.kept hg fun a ha=>Zz0 (Zmb hQ (h.blockT a ha).2.choose_spec hT)
theorem ZlR{w:World}{ops:Array Oper}{rest:List Oper}{o:Oper}{a:Act}{Q:Exit→Act→World→Prop}(hg:Region.wanted o (yielded ops a.tmps)=true)(x:Operand)(hop:o.op=.buildSlice 191 1 #[(0,x)])(A:Option Addr)(n c B:Nat)(l:List UInt8)(hx:a.eval x=.slice A n c)(hn:n=l.length)
  (h:Own 5 w B A c l) (hB:B≤w.heap.size)
  (hK:∀g w',w.heap.size=g→OwnR 41 w' B (some ⟨g,0,none⟩) 1 [l]→Below w.heap.size w w'→wpList Tryz.prog ops Q rest (a.put o.dst (.slice (some ⟨g,0,none⟩) 1 1)) w'):wpList Tryz.prog ops Q (o::rest) a w:=by
 subst hn
 refine ZaC ZaP (by decide) hg x hop [.slice A l.length c] (by rw[hx];rfl) rfl (hK _ _ rfl ?_ (Zad _ _))
 exact OwnR.one (F:=fun b=>∃a,A=some a∧b=a.block) ⟨A,c,rfl,h.cap.1,h.cap.2,h.rd.row fun a ha _=>⟨a,ha,rfl⟩⟩ (by rintro b ⟨a,ha,rfl⟩;exact h.soft a ha) hB
theorem ZhB{w:World}{ops:Array Oper}{rest:List Oper}{o:Oper}{a:Act}{Q:Exit→Act→World→Prop}(hg:Region.wanted o (yielded ops a.tmps)=true)(x:Operand)(hop:o.op=.buildSlice 191 1 #[(0,x)])(A:Option Addr)(n c:Nat)(l:List UInt8)(hx:a.eval x=.slice A n c)(hn:n=l.length)
  (h:Rd w A l) (hc:l.length≤c∧c≤maxLen)
  (hK:∀g w',w.heap.size=g→Src (fun b=>∃a,A=some a∧b=a.block) w' (some ⟨g,0,none⟩) [l]→Below w.heap.size w w'→wpList Tryz.prog ops Q rest (a.put o.dst (.slice (some ⟨g,0,none⟩) 1 1)) w'):wpList Tryz.prog ops Q (o::rest) a w:=by
 subst hn
 refine ZaC ZaP (by decide) hg x hop [.slice A l.length c] (by rw[hx];rfl) rfl (hK _ _ rfl ?_ (Zad _ _))
 exact ZaE ⟨A,c,rfl,hc.1,hc.2,h.row fun a ha _=>⟨a,ha,rfl⟩⟩
theorem Zyn{α:Type}[Enc α]{E T:TypeId}{w:World}{B0 B g o:Nat}{A:Option Addr}{c:Nat}{xs:List α}{cs:Array Value}(hq:w.heap[g]? =some (.cells cs T (0,0)))(ho:OwnQ E w B0 B A c xs)(hT:T≠E)(hB:B0≤g):∀b,(∃ a,(some ⟨g,o,none⟩:Option Addr)=some a∧b=a.block)→B0≤b∧Soft w b∧∀a,A=some a→b≠a.block:=by
 rintro b ⟨a,ha,rfl⟩
 injection ha with ha
 subst ha
 exact⟨hB,⟨cs,T,hq⟩,Zmb ho hq hT⟩
theorem Yg6{α:Type}[Enc α]{E E2:TypeId}{w:World}{B0 B:Nat}{A A2:Option Addr}{c c2:Nat}{l:List UInt8}{xs:List α}(hy:Own E2 w B0 A2 c2 l)(ho:OwnQ E w B0 B A c xs)(hT:E2≠E):∀b,(∃ a,A2=some a∧b=a.block)→B0≤b∧Soft w b∧∀a,A=some a→b≠a.block:=by
 rintro b ⟨a,ha,rfl⟩
 obtain⟨h1,cur,h2⟩:=hy.blockT a ha
 exact⟨h1,⟨cur,E2,h2⟩,Zmb ho h2 hT⟩
theorem Yfy:(309:TypeId)≠41:=by decide
def partsH(x:Hd):List (List UInt8):=[be 8 x.h.toNat,x.p.1,x.s.1,x.r.1,be 4 x.m.toNat]
theorem ZtT(x:Hd):(partsH x).flatten=hdB x:=by simp[partsH,hdB]
theorem Zo2(x:Hd)(hm:mayH x=true)(w:World):Calls Tryz.prog 231 #[.agg (hdC x).toArray] w fun e w'=>∃A c,e=.returned (.slice A 5 c)∧Rds w' A (partsH x)∧Below w.heap.size w w':=by
 have hux:=Tryz.underlying51
 have hu:=Tryz.underlying37
 have hug:=Tryz.underlying309
 have hsl:=ZaA
 obtain⟨a1,a2,a3,a4⟩:=ZeZ.1 hm
 have B0:=BoxH.new w x 51
 have W0:=hid (Zad w (.cells (hdC x).toArray 51))
 have c0:=B0.h
 have c1:=hid B0.m
 have R1:=hid B0.p
 have R2:=hid B0.s
 have R3:=hid B0.r
 have wh:IntKind.u64.wrap x.h=x.h:=by rw[IntKind.wrap_u64];omega
 have wm:IntKind.u64.wrap x.m=x.m:=by rw[IntKind.wrap_u64];omega
 have p1:putE x.h.toNat 8=0:=by unfold putE;rw[if_pos (by decide)];exact if_pos (by show _<256 ^ 8;omega)
 have p2:putE x.m.toNat 4=0:=by unfold putE;rw[if_pos (by decide)];exact if_pos (by show _<256 ^ 4;omega)
 have d1:=hid (fun W=>Zfr x.h.toNat x.h 8 (be 8 x.h.toNat) 0 W (by omega) (by omega) (by unfold putB;rw[if_pos p1];rfl) p1)
 have d2:=hid (fun W=>Zfr x.m.toNat x.m 4 (be 4 x.m.toNat) 0 W (by omega) (by omega) (by unfold putB;rw[if_pos p2];rfl) p2)
 have l1:=Zav 8 x.h.toNat
 have l2:=Zav 4 x.m.toNat
 have hP:partsH x=(be 8 x.h.toNat::[x.p.1,x.s.1,x.r.1])++[be 4 x.m.toNat]:=rfl
 have s1:=hid (ZbO x.p)
 have bl:=hid (ZyA x.p x.s x.r)
 have jx:∀d:Dg,(Tryz.prog.info? 37).map (·.size)=some (d.1.map bv).length:=fun d=>by rw[Vx6,d.2];exact Zai
 have j1:=hid (jx x.p)
 have j2:=hid (jx x.s)
 have j3:=hid (jx x.r)
 rw[hP]
 clear B0 hP p1 p2 a1 a2 a3 a4 hm jx
 rw[l1]at d1
 rw[l2]at d2
 generalize be 8 x.h.toNat=y1 at *
 generalize be 4 x.m.toNat=y2 at *
 obtain⟨ds,hds⟩:∃ds,[x.p,x.s,x.r]=ds:=⟨_,rfl⟩
 rw[hds]at bl
 have us:[x.p.1,x.s.1,x.r.1]=ds.map (·.1):=by rw[← hds];rfl
 have hdl:ds.length=3:=by rw[← hds];rfl
 rw[us]
 have zs:=hid (show (Tryz.prog.info? 309).map (·.size)=some (dgsC ds).toArray.size by rw[Vx7,ZjM,hdl];exact Ybi)
 have zz:=hid (show z96.size=(dgsC ds).toArray.size from z96_size.trans (by rw[Vx7,ZjM,hdl]))
 have zo:=hid (ZuE ds)
 clear us hds
 generalize hdC x=cx at *
 generalize x.h=vh at *
 generalize x.m=vm at *
 generalize x.p.1.map bv=cp at *
 generalize x.s.1.map bv=cs at *
 generalize x.r.1.map bv=cr at *
 replace hdl:=hid hdl
 go_enter Tryz.func231,Tryz.ntmps231
 go_wp2_with fail
 refine(d1.out _).mono ?_
 rintro e w2 ⟨A1,k1,rfl,o1,hb⟩
 have W2:=hid (W0.out.trans (hb.mono W0.out.size))
 replace o1:=hid (o1.base (B':=w.heap.size) W0.out.size)
 have c2:=(hb.cell (Vx5 _ _ c1.out)).trans c1.out
 replace R1:=hid (Zab hb R1.out)
 replace R2:=hid (Zab hb R2.out)
 replace R3:=hid (Zab hb R3.out)
 clear hb c1 c0
 go_wp2_with fail
 refine(d2.out _).mono ?_
 rintro e w3 ⟨A2,k2,rfl,o2,hb⟩
 replace o2:=hid (o2.base (B':=w.heap.size) W2.out.size)
 have W3:=hid (W2.out.trans (hb.mono W2.out.size))
 replace o1:=hid (o1.out.bel hb)
 replace R1:=hid (Zab hb R1.out)
 replace R2:=hid (Zab hb R2.out)
 replace R3:=hid (Zab hb R3.out)
 clear hb c2
 go_wp2_with (first
  |((with_reducible refine ZlR rfl (.tmp 24) rfl A1 8 k1 w.heap.size y1 rfl l1.symm o1.out W3.out.size ?_);intro g4 w4 hg4 o4 b4;replace o4:=hid o4;have W4:=hid (W3.out.trans (b4.mono W3.out.size));have q1:=hid (Zab b4 R1.out);have q2:=hid (Zab b4 R2.out);have q3:=hid (Zab b4 R3.out);have y4:=hid (o2.out.bel b4);clear b4)
  |(with_reducible refine lDr q1.out j1.out hu ?_)
  |(with_reducible refine lDr q2.out j2.out hu ?_)
  |(with_reducible refine lDr q3.out j3.out hu ?_)
  |((with_reducible refine Zaf rfl 309 _ rfl (dgsC ds).toArray [(0,.agg cp.toArray),(1,.agg cs.toArray),(2,.agg cr.toArray)] ?_ ?_ ?_);exact bl.out;rfl)
  |((with_reducible refine Zac rfl 309 rfl z96 Zpx ?_);have e4:=hid (Vx0 w4 (.cells z96 309)))
  |((with_reducible refine stW 8 32 w4.heap.size 309 z96 ?_ ?_ ?_ ?_ ?_);exact e4.out;exact zs.out;exact zz.out;exact zo.out;intro w5 hgS hbS hsS;have X5:=hid (Zan rfl hbS);have q5:=hid hgS;clear hgS hbS hsS))
 have W5:=hid (W4.out.trans (X5.out.mono W4.out.size))
 have o5:=hid (o4.out.bel X5.out)
 have y5:=hid (y4.out.bel X5.out)
 have hwg:=hid (show w.heap.size≤w4.heap.size from W4.out.size)
 clear R1 R2 R3 q1 q2 q3 e4 o4 y4 X5 W4 o2 o1 W2 W3 W0 d1 d2 j1 j2 j3 bl zs zz zo s1
 go_loopw [7,33] (fun v i wr=>∃(j:Nat) (A':Option Addr) (c':Nat),j≤3∧i=.int .i64 j∧v=.slice A' (y1::(ds.take j).map (·.1)).length c'∧OwnR 41 wr w.heap.size A' c' (y1::(ds.take j).map (·.1))∧Below w.heap.size w wr∧wr.heap[w4.heap.size]? =some (.cells (dgsC ds).toArray 309 (0,0))∧Own 5 wr w.heap.size A2 k2 y2) (fun _ i _=>3-(intOf i).toNat)
 case atStart=>exact⟨0,some ⟨g4,0,none⟩,1,Nat.zero_le _,rfl,rfl,o5.out,W5.out,q5.out,y5.out⟩
 case round=>
  clear o5 W5 q5 y5
  obtain⟨j,A',c',hj,rfl,rfl,ho,hb,hq,hy⟩:=hrel
  by_cases hlt:j<3
  ·have hlt2:(j:Int)<3:=by omega
   have hj3:j<ds.length:=by rw[hdl.out];exact hlt
   have E:=hid (show y1::(ds.take (j+1)).map (·.1)=(y1::(ds.take j).map (·.1))++[ds[j].1] by rw[Vy5 hj3,List.map_append];rfl)
   have rj:=ZbB (Zj7 (Zae hq) hj3)
   rw[Nat.mul_comm]at rj
   replace rj:=hid rj
   have lx:(y1::(ds.take j).map (·.1)).length≤4:=by simp;omega
   generalize hz:y1::(ds.take (j+1)).map (·.1)=z at *
   replace hz:=hid hz
   have ld:=ds[j].2
   generalize ds[j].1=d at *
   generalize y1::(ds.take j).map (·.1)=xs at *
   replace lx:=hid lx
   replace hq:=hid hq
   replace hy:=hid hy
   have hbs:=hid hb.size
   have B0:=hid hb
   have hw4:=hid hwg.out
   replace ho:=hid ho
   clear hb
   go_wp2_with (first
    |((with_reducible refine ZhB rfl (.tmp 39) rfl (some ⟨w4.heap.size,j * 32,none⟩) 32 32 d rfl ld.symm rj.out ⟨Nat.le_of_eq ld,(by decide:32≤maxLen)⟩ ?_);intro g6 w6 hg6 s6 b6;replace s6:=hid s6;have h6:=hid (ho.out.bel b6);have B6:=hid (B0.out.trans (b6.mono hbs.out));have q6:=hid ((b6.block _ (block_lt hq.out)).trans hq.out);have y6:=hid (hy.out.bel b6);clear b6)
    |(at_builtin;refine ZbS ZaP rfl (.tmp 36) (.tmp 40) rfl w.heap.size w.heap.size A' (some ⟨g6,0,none⟩) xs.length 1 c' 1 xs [d] _ rfl rfl rfl rfl h6.out s6.out (Zyn q6.out h6.out Yfy hw4.out) (by have:=lx.out;simp;omega) B6.out.size ?_;intro A7 c7 w7 ho7 hb7 hg7;rw[← E.out]at ho7 ⊢;replace ho7:=hid ho7;have B7:=hid (B6.out.trans hb7);have q7:=hid ((hg7.block _ (block_lt q6.out) (Zz0 (Zmb h6.out q6.out Yfy))).trans q6.out);have y7:=hid (y6.out.keptQ h6.out Zsz hg7);clear hb7 hg7))
   go_roundw
   case rel=>rw[← hz.out]at ho7 ⊢;exact⟨j+1,A7,c7,by omega,by go_num,rfl,ho7.out,B7.out,q7.out,y7.out⟩
   case measure=>simp[intOf];omega
  ·obtain rfl:j=3:=by omega
   have e3:ds.take 3=ds:=List.take_of_length_le (Nat.le_of_eq hdl.out)
   rw[e3]at ho ⊢
   have E5:=hid (show ((y1::ds.map (·.1))++[y2]).length=5 by simp[hdl.out])
   have lx:(y1::ds.map (·.1)).length≤4:=by simp[hdl.out]
   have Ex:=hid (show y1::(ds.map (·.1)++[y2])=(y1::ds.map (·.1))++[y2] from rfl)
   generalize y1::ds.map (·.1)=xs at *
   replace lx:=hid lx
   replace hq:=hid hq
   replace hy:=hid hy
   have ry:=hid hy.out.rd
   have vy:=hid hy.out.cap
   have hbs:=hid hb.size
   have B0:=hid hb
   replace ho:=hid ho
   clear hb
   go_wp2_with (first
    |((with_reducible refine ZhB rfl (.tmp 44) rfl A2 4 k2 y2 rfl l2.symm ry.out vy.out ?_);intro g6 w6 hg6 s6 b6;replace s6:=hid s6;have h6:=hid (ho.out.bel b6);have B6:=hid (B0.out.trans (b6.mono hbs.out));have y6:=hid (hy.out.bel b6);clear b6)
    |(at_builtin;refine ZbS ZaP rfl (.tmp 43) (.tmp 45) rfl w.heap.size w.heap.size A' (some ⟨g6,0,none⟩) xs.length 1 c' 1 xs [y2] _ rfl rfl rfl rfl h6.out s6.out (Yg6 y6.out h6.out Zsz) (by have:=lx.out;simp;omega) B6.out.size ?_;intro A7 c7 w7 ho7 hb7 hg7;rw[E5.out];replace ho7:=hid ho7;have B7:=hid (B6.out.trans hb7);clear hb7 hg7))
   go_ret
   rw[Ex.out]
   exact⟨A7,c7,rfl,(OwnR.row ho7.out).rds,B7.out⟩
theorem ZcW(x:Hd)(hx:x.ok)(w:World):Calls Tryz.prog 189 #[.agg (hdC x).toArray] w fun e w'=>∃A c,e=.returned (.tuple #[.slice A (hdO x).length c,.int .i64 (hdE x)])∧Own 5 w' w.heap.size A c (hdO x)∧Below w.heap.size w w':=by
 have hux:=Tryz.underlying51
 have X0:=hid (BoxH.new w x 51).all
 have W0:=hid (Zad w (.cells (hdC x).toArray 51))
 have jx:=hid (Zbu x)
 have hC:=hid (fun W=>Zdo x hx W)
 obtain⟨m,hm⟩:∃m,mayH x=m:=⟨_,rfl⟩
 have hE:hdE x=if m=true then 0 else 8:=by unfold hdE;rw[hm]
 have hO:hdO x=if m=true then hdB x else []:=by unfold hdO;rw[hm]
 rw[hE]at hC
 rw[hE,hO]
 cases m with
 |false=>
  simp only[Bool.false_eq_true,if_false]at hC ⊢
  clear hm hE hO hx
  generalize hdC x=cx at *
  go_enter Tryz.func189,Tryz.ntmps189
  go_wp2_with ((with_reducible refine lDr X0.out jx.out hux ?_))
  refine(hC.out _).mono ?_
  rintro e w1 ⟨rfl,hb⟩
  go_wp2
  go_ret2
  exact⟨none,0,rfl,Own.nil _ _,W0.out.trans (hb.mono W0.out.size)⟩
 |true=>
  simp only[if_true]at hC ⊢
  have hF:=hid (fun W=>Zo2 x hm W)
  have hz:=ZtT x
  have lb:=Zdh x
  have hJ:=hid (fun A c W (h:Rds W A (partsH x))=>Zo3 A c 5 (partsH x) W h rfl (by simp[partsH]) (by rw[hz,lb];decide))
  rw[hz]at hJ
  clear hm hE hO hx hz lb
  generalize hdC x=cx at *
  generalize partsH x=ps at *
  generalize hdB x=zz at *
  go_enter Tryz.func189,Tryz.ntmps189
  go_wp2_with ((with_reducible refine lDr X0.out jx.out hux ?_))
  refine(hC.out _).mono ?_
  rintro e w1 ⟨rfl,hb⟩
  have W1:=hid (W0.out.trans (hb.mono W0.out.size))
  have X1:=hid (Zab hb X0.out)
  clear hb X0 W0
  go_wp2_with ((with_reducible refine lDr X1.out jx.out hux ?_))
  refine(hF.out _).mono ?_
  rintro e w2 ⟨A2,c2,rfl,r2,hb⟩
  have W2:=hid (W1.out.trans (hb.mono W1.out.size))
  replace r2:=hid r2
  clear hb X1
  go_wp2_with fail
  refine(hJ.out _ _ _ r2.out).mono ?_
  rintro e w3 ⟨A3,c3,rfl,o3,hb⟩
  have W3:=hid (W2.out.trans (hb.mono W2.out.size))
  have o3:=hid (o3.base (B':=w.heap.size) W2.out.size)
  clear hb
  go_wp2
  go_ret2
  exact⟨_,_,rfl,o3.out,W3.out⟩
theorem Zt7(k:Dg):(Tryz.prog.info? 37).map (·.size)=some (k.1.map bv).toArray.size:=by rw[Vx7,Vx6,k.2];exact Zai
theorem Zvz(k:Dg):(Tryz.prog.info? 37).map (·.size)=some (k.1.map bv).length:=by rw[Vx6,k.2];exact Zai
theorem Ykm(k:Dg):z32.size=(k.1.map bv).toArray.size:=by rw[z32_size];simp[k.2]
theorem Yab(k:Dg):(k.1.map bv).toArray.all (·.oneCell')=true:=all_oneCell_toArray fun u hu=>by
 obtain⟨x,-,rfl⟩:=List.mem_map.1 hu
 rfl
theorem Zvi{fn:Func}{p u:Tmp}(h:fn.results=#[.cell p 37,.tmp u])(tmps:Array Value)(w:World)(g:Nat)(cs:Array Value)(e1:tmps.getD p undef=.pointer (some ⟨g,0,none⟩))
  (hg:w.heap[g]? =some (.cells cs 37 (0,0))) (hs:(Tryz.prog.info? 37).map (·.size)=some cs.size):(results fn tmps).run Tryz.prog w=.ok (.tuple #[.agg cs,tmps.getD u undef]) w:=by
 have h2:=run_loadVar_row (P:=Tryz.prog) w g 37 37 cs (0,0) _ hg Tryz.underlying37 rfl hs
 rw[results_cell_tmp h,e1]
 simp only[asAddr,Sem.run_pure,Result.andThen_ok,h2]
theorem ZfR(x:Hd)(hx:x.ok)(w:World)(hT:Tab w):Calls Tryz.prog 139 #[.agg (hdC x).toArray] w fun e w'=>e=.returned (.tuple #[.agg ((hashH x).1.map bv).toArray,.int .i64 (hdE x)])∧Below w.heap.size w w':=by
 have hu:=Tryz.underlying37
 have hux:=Tryz.underlying51
 have B0:=BoxH.new w x 51
 have h1:=Vx0 (w.alloc (.cells (hdC x).toArray 51)) (.cells z32 37)
 have b1:=Zad (w.alloc (.cells (hdC x).toArray 51)) (.cells z32 37)
 rw[Vx2]at h1
 have W1:=hid ((Zad w (.cells (hdC x).toArray 51)).trans (b1.mono (Zad w _).size))
 have X1:=hid (Zab b1 B0.all)
 have jx:=hid (Zbu x)
 have hz:=hid (show Tryz.prog.built 37 []=some (z0.1.map bv).toArray by kernel_rfl)
 replace h1:=hid h1
 have hlow:=hid hT.low
 have T1:=hid (hT.bel W1.out hlow.out)
 have hB:=hid (fun W=>ZcW x hx W)
 obtain⟨m,hm⟩:∃m,mayH x=m:=⟨_,rfl⟩
 have hE:hdE x=if m=true then 0 else 8:=by unfold hdE;rw[hm]
 have hO:hashH x=if m=true then nameD x else z0:=by unfold hashH;rw[hm];rfl
 have hY:hdO x=if m=true then hdB x else []:=by unfold hdO;rw[hm]
 have hlen:=Zdh x
 rw[hE,hY]at hB
 rw[hE,hO]
 cases m with
 |false=>
  simp only[Bool.false_eq_true,if_false]at hB ⊢
  have zs:=hid (Zt7 z0)
  have zz:=hid (Ykm z0)
  have zo:=hid (Yab z0)
  clear B0 hm hE hO b1 hY hx hlen
  generalize hdC x=cx at *
  generalize z0.1.map bv=dz at *
  go_enter Tryz.func139,Tryz.ntmps139
  go_wp2_with (first
   |(with_reducible refine Zac rfl 37 rfl z32 Zam ?_)
   |(with_reducible refine lDr X1.out jx.out hux ?_))
  refine(hB.out _).mono ?_
  rintro e w2 ⟨A2,c2,rfl,-,hb⟩
  have R2:=hid ((hb.block _ (block_lt h1.out)).trans h1.out)
  have W2:=hid (W1.out.trans (hb.mono W1.out.size))
  clear hb
  go_wp2_with (first
   |((with_reducible refine Zaf rfl 37 _ rfl dz.toArray [] ?_ ?_ ?_);exact hz.out;rfl)
   |((with_reducible refine stW 2 13 (w.heap.size+1) 37 z32 ?_ ?_ ?_ ?_ ?_);exact R2.out;exact zs.out;exact zz.out;exact zo.out;intro w3 hg3 hb3 hs3))
  exact Vy0 (Zvi rfl _ _ (w.heap.size+1) _ rfl hg3 zs.out) rfl ⟨rfl,W2.out.grown hb3 W2.out.size (fun g e=>by injection e with e;omega)⟩
 |true=>
  simp only[if_true]at hB ⊢
  rw[hlen]at hB
  have hS:=hid (fun g W (h:Rds W (some ⟨g,0,none⟩) [hdB x]) hT=>ZeO 6 g (hdB x) W h (by rw[hlen];decide) hT)
  have hD:sha256 (tagB 6 [hdB x])=(nameD x).1:=rfl
  rw[hD]at hS
  have zs:=hid (Zt7 (nameD x))
  have zz:=hid (Ykm (nameD x))
  have zo:=hid (Yab (nameD x))
  clear B0 hm hE hO b1 hz hY hx hD
  generalize hdC x=cx at *
  generalize (nameD x).1.map bv=dn at *
  generalize hdB x=zb at *
  go_enter Tryz.func139,Tryz.ntmps139
  go_wp2_with (first
   |(with_reducible refine Zac rfl 37 rfl z32 Zam ?_)
   |(with_reducible refine lDr X1.out jx.out hux ?_))
  refine(hB.out _).mono ?_
  rintro e w2 ⟨A2,c2,rfl,o2,hb⟩
  have R2:=hid ((hb.block _ (block_lt h1.out)).trans h1.out)
  have W2:=hid (W1.out.trans (hb.mono W1.out.size))
  have ok2:Hid (∀ p∈([(A2,c2,zb)]:List PtX),PtOk w2 p):=hid (by
   intro p hp
   simp at hp
   subst hp
   exact⟨o2.rd,o2.cap⟩)
  clear hb o2
  go_wp2_with (((with_reducible refine ZbX rfl 1 _ rfl [(A2,c2,zb)] [.slice A2 108 c2] ?_ rfl (by decide) (by decide) ?_ ?_ ?_);(simp[slV,hlen]);rfl;exact ok2.out;intro g3 w3 e3 J3 E3;have X3:=hid E3;have Q3:=hid J3;clear E3 J3 e3))
  have W3:=hid (W2.out.trans (X3.out.mono W2.out.size))
  have R3:=hid ((X3.out.block _ (block_lt R2.out)).trans R2.out)
  have T3:=hid (hT.bel W3.out hlow.out)
  refine(hS.out _ _ Q3.out T3.out).mono ?_
  rintro e w4 ⟨rfl,hb⟩
  have W4:=hid (W3.out.trans (hb.mono W3.out.size))
  have R4:=hid ((hb.block _ (block_lt R3.out)).trans R3.out)
  clear hb
  go_wp2_with (((with_reducible refine stW 2 17 (w.heap.size+1) 37 z32 ?_ ?_ ?_ ?_ ?_);exact R4.out;exact zs.out;exact zz.out;exact zo.out;intro w5 hg5 hb5 hs5))
  exact Vy0 (Zvi rfl _ _ (w.heap.size+1) _ rfl hg5 zs.out) rfl ⟨rfl,W4.out.grown hb5 W4.out.size (fun g e=>by injection e with e;omega)⟩
theorem Ycs(w:World)(x y:Hd)(t u:TypeId):BoxH ((w.alloc (.cells (hdC x).toArray t)).alloc (.cells (hdC y).toArray u)) w.heap.size x∧BoxH ((w.alloc (.cells (hdC x).toArray t)).alloc (.cells (hdC y).toArray u)) (w.heap.size+1) y∧
  Below w.heap.size w ((w.alloc (.cells (hdC x).toArray t)).alloc (.cells (hdC y).toArray u)):=by
 have h2:=BoxH.new (w.alloc (.cells (hdC x).toArray t)) y u
 rw[Vx2]at h2
 exact⟨(BoxH.new w x t).bel (Zad _ _),h2,Zag (Zad _ _) (Zad _ _)⟩
theorem Zcw(x y:Hd)(hx:x.ok)(hy:y.ok)(w:World)(hT:Tab w):Calls Tryz.prog 100 #[.agg (hdC x).toArray,.agg (hdC y).toArray] w fun e w'=>e=.returned (.bool (follows x y))∧Below w.heap.size w w':=by
 have hu:=Tryz.underlying37
 have hux:=Tryz.underlying51
 obtain⟨B1,B2,W0⟩:=Ycs w x y 51 51
 replace W0:=hid W0
 have X0:=hid B1.all
 have Y0:=hid B2.all
 have K0:=hid B1.p
 have cx0:=hid B1.h
 have cy0:=hid B2.h
 have jx:=hid (Zbu x)
 have jy:=hid (Zbu y)
 have jk:=hid (Zvz x.p)
 have hlow:=hid hT.low
 have T1:=hid (hT.bel W0.out hlow.out)
 have hC:=hid (fun W=>Zdo x hx W)
 have hH:=hid (fun W hT=>ZfR y hy W hT)
 obtain⟨m1,hm1⟩:∃m,mayH x=m:=⟨_,rfl⟩
 obtain⟨m2,hm2⟩:∃m,mayH y=m:=⟨_,rfl⟩
 have hE1:hdE x=if m1=true then 0 else 8:=by unfold hdE;rw[hm1]
 have hE2:hdE y=if m2=true then 0 else 8:=by unfold hdE;rw[hm2]
 have hO:m2=true→hashH y=nameD y:=fun h=>by unfold hashH;rw[hm2,h];rfl
 have zs:=hid (Zt7 (hashH y))
 have zl:=hid (Zvz (hashH y))
 have zz:=hid (Ykm (hashH y))
 have zo:=hid (Yab (hashH y))
 obtain⟨eb,heb⟩:∃b,(x.h==y.h+1)=b:=⟨_,rfl⟩
 obtain⟨kb,hkb⟩:∃b,decide (x.p=hashH y)=b:=⟨_,rfl⟩
 have hw:m2=true→IntKind.i64.wrap (y.h+1)=y.h+1:=fun h=>by
  obtain⟨n1,n2,_,_⟩:=ZeZ.1 (hm2.trans h)
  rw[IntKind.wrap_i64]
  omega
 have hE:∀W,(Op.equalIn 10000 37 (.agg (x.p.1.map bv).toArray) (.agg ((hashH y).1.map bv).toArray)).run Tryz.prog W=.ok kb W:=fun W=>ZaL x.p (hashH y) kb hkb W
 have hF:follows x y=(m1&&(m2&&(eb&&kb))):=by
  unfold follows
  rw[hm1,hm2,←hkb,←heb]
  cases m2 with
  |false=>rfl
  |true=>rw[hO rfl];congr 3
 rw[hF]
 rw[hE1]at hC
 rw[hE2]at hH
 replace hw:=hid hw
 clear hF B1 B2 hm1 hm2 hkb hO hE1 hE2 hx hy
 generalize hdC x=cx at *
 generalize hdC y=cy at *
 generalize x.p.1.map bv=dk at *
 generalize (hashH y).1.map bv=dn at *
 generalize x.h=hx at *
 generalize y.h=hy at *
 cases m2 with
 |false=>
  simp only[Bool.false_eq_true,if_false,Bool.false_and,Bool.and_false]at hH ⊢
  go_enter Tryz.func100,Tryz.ntmps100
  go_wp2_with ((with_reducible refine lDr Y0.out jy.out hux ?_))
  refine(hH.out _ T1.out).mono ?_
  rintro e w2 ⟨rfl,hb⟩
  have W2:=hid (W0.out.trans (hb.mono W0.out.size))
  have e2:=hid (Vx0 w2 (.cells z32 37))
  clear hb
  go_wp2_with (first
   |(with_reducible refine Zac rfl 37 rfl z32 Zam ?_)
   |((with_reducible refine stW 5 10 w2.heap.size 37 z32 ?_ ?_ ?_ ?_ ?_);exact e2.out;exact zs.out;exact zz.out;exact zo.out;intro w3 hgS hbS hsS;have X3:=hid (Zan rfl hbS);clear hgS hbS hsS))
  go_ret
  exact⟨rfl,W2.out.trans (X3.out.mono W2.out.size)⟩
 |true=>
  simp only[if_true,Bool.true_and]at hH ⊢
  have hw1:=hw.out rfl
  cases m1 with
  |false=>
   simp only[Bool.false_eq_true,if_false,Bool.false_and]at hC ⊢
   go_enter Tryz.func100,Tryz.ntmps100
   go_wp2_with ((with_reducible refine lDr Y0.out jy.out hux ?_))
   refine(hH.out _ T1.out).mono ?_
   rintro e w2 ⟨rfl,hb⟩
   have W2:=hid (W0.out.trans (hb.mono W0.out.size))
   have e2:=hid (Vx0 w2 (.cells z32 37))
   have X2:=hid (Zab hb X0.out)
   clear hb
   go_wp2_with (first
    |(with_reducible refine Zac rfl 37 rfl z32 Zam ?_)
    |((with_reducible refine stW 5 10 w2.heap.size 37 z32 ?_ ?_ ?_ ?_ ?_);exact e2.out;exact zs.out;exact zz.out;exact zo.out;intro w3 hgS hbS hsS;have X3:=hid (Zan rfl hbS);have q3:=hid (Zab X3.out X2.out);clear hgS hbS hsS)
    |(with_reducible refine lDr q3.out jx.out hux ?_))
   refine(hC.out _).mono ?_
   rintro e w4 ⟨rfl,hb⟩
   have W4:=hid (W2.out.trans ((X3.out.trans (hb.mono X3.out.size)).mono W2.out.size))
   clear hb
   go_wp2
   go_ret
   exact⟨rfl,W4.out⟩
  |true=>
   simp only[if_true,Bool.true_and]at hC ⊢
   cases eb
   all_goals
    go_enter Tryz.func100,Tryz.ntmps100
    go_wp2_with ((with_reducible refine lDr Y0.out jy.out hux ?_))
    refine(hH.out _ T1.out).mono ?_
    rintro e w2 ⟨rfl,hb⟩
    have W2:=hid (W0.out.trans (hb.mono W0.out.size))
    have e2:=hid (Vx0 w2 (.cells z32 37))
    have X2:=hid (Zab hb X0.out)
    have K2:=hid (Zab hb K0.out)
    have u2:=hid ((hb.cell (Vx5 _ _ cx0.out)).trans cx0.out)
    have v2:=hid ((hb.cell (Vx5 _ _ cy0.out)).trans cy0.out)
    clear hb
    go_wp2_with (first
     |(with_reducible refine Zac rfl 37 rfl z32 Zam ?_)
     |((with_reducible refine stW 5 10 w2.heap.size 37 z32 ?_ ?_ ?_ ?_ ?_);exact e2.out;exact zs.out;exact zz.out;exact zo.out;intro w3 hgS hbS hsS;have X3:=hid (Zan rfl hbS);have q3:=hid (Zab X3.out X2.out);have D3:=hid (Zae hgS);have K3:=hid (Zab X3.out K2.out);have u3:=hid ((X3.out.cell (Vx5 _ _ u2.out)).trans u2.out);have v3:=hid ((X3.out.cell (Vx5 _ _ v2.out)).trans v2.out);clear hgS hbS hsS)
     |(with_reducible refine lDr q3.out jx.out hux ?_))
    refine(hC.out _).mono ?_
    rintro e w4 ⟨rfl,hb⟩
    have W4:=hid (W2.out.trans ((X3.out.trans (hb.mono X3.out.size)).mono W2.out.size))
    have D4:=hid (Zab hb D3.out)
    have K4:=hid (Zab hb K3.out)
    have u4:=(hb.cell (Vx5 _ _ u3.out)).trans u3.out
    have v4:=(hb.cell (Vx5 _ _ v3.out)).trans v3.out
    clear hb
    go_wp2_with (first
     |(with_reducible refine lDr K4.out jk.out hu ?_)
     |(with_reducible refine lDr D4.out zl.out hu ?_))
    go_ret
    exact⟨rfl,W4.out⟩
end Go.Proofs.YtnnclggeifnomaaGreatDoor
