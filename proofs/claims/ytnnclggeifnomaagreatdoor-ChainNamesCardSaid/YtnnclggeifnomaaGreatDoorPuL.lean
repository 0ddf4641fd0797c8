import Derived.Test.YtnnclggeifnomaaGreatDoorAcL
import Derived.Test.YtnnclggeifnomaaGreatDoorPuQ
import Derived.ScopeJumps
import Derived.Test.YtnnclggeifnomaaGreatDoorSls
set_option maxRecDepth 100000
set_option linter.all false
set_option maxHeartbeats 8000000
namespace Go.Proofs.YtnnclggeifnomaaGreatDoor
open Go.RowKit Go.Shelf
def TurnC(N:Nat)(caps:Array Value)(f:Ac→Int×Ac)(w:World):Prop:=∀W,Below w.heap.size w W→∀(g:Nat) (a:Ac),w.heap.size≤g→a.ok→W.heap[g]? =some (.cells (acC a).toArray 130 (0,0))→
 Calls Tryz.prog N (#[.pointer (some ⟨g,0,none⟩)]++caps) W fun e W'=>∃a',e=.returned (.int .i64 (f a).1)∧W'.heap[g]? =some (.cells (acC a').toArray 130 (0,0))∧((f a).1=0→a'=(f a).2)∧W.grownBy W' (some g)
def moreF(n:Nat)(a:Ac):Int×Ac:=if a.b+n<18446744073709551616 then (0,⟨a.n,a.b+n⟩) else (151,a)
theorem ZlX{W:World}{g:Nat}{a:Ac}(h:W.heap[g]? =some (.cells (acC a).toArray 130 (0,0))):W.cell? ⟨g,0,none⟩=some (.int .u64 (a.n:Int))∧W.cell? ⟨g,1,none⟩=some (.int .u64 (a.b:Int))∧W.frozen? ⟨g,0,none⟩=false∧W.frozen? ⟨g,1,none⟩=false:=by
 refine⟨?_,?_,?_,?_⟩<;>simp[World.cell?,World.frozen?,h,acC]
theorem Yhu{W:World}{g:Nat}{a:Ac}(n:Nat)(h:W.heap[g]? =some (.cells (acC a).toArray 130 (0,0))):(W.setCell ⟨g,0,none⟩ (.int .u64 (n:Int))).heap[g]? =some (.cells (acC ⟨n,a.b⟩).toArray 130 (0,0)):=by
 simp[World.setCell,Array.getElem?_modify,h,acC]
theorem Yba{W:World}{g:Nat}{a:Ac}(n:Nat)(h:W.heap[g]? =some (.cells (acC a).toArray 130 (0,0))):(W.setCell ⟨g,1,none⟩ (.int .u64 (n:Int))).heap[g]? =some (.cells (acC ⟨a.n,n⟩).toArray 130 (0,0)):=by
 simp[World.setCell,Array.getElem?_modify,h,acC]
theorem ZoD(w:World)(g i:Nat)(u:Value):w.grownBy (w.setCell ⟨g,i,none⟩ u) (some g):=
 ⟨rfl,rfl,rfl,by simp[World.setCell],fun k hk hne=>Vy3 w _ u k (fun e=>hne (by rw[e]))⟩
theorem Zm5(w:World)(g:Nat):w.grownBy w (some g):=⟨rfl,rfl,rfl,Vx8 _,fun _ _ _=>rfl⟩
theorem ZsX(n:Nat)(w:World):Calls Tryz.prog 222 #[.int .u64 (n:Int)] w fun e w'=>e=.returned (.func (.func 249) #[] #[.pointer (some ⟨w.heap.size,0,none⟩)])∧w'=w.alloc (.cells #[.int .u64 (n:Int)] 128):=by
 go_enter Tryz.func222,Tryz.ntmps222
 go_wp2
 go_ret
 exact⟨rfl,rfl⟩
theorem ZwG{w X:World}{g i:Nat}{u:Value}(h:Below w.heap.size w X):w.grownBy (X.setCell ⟨g,i,none⟩ u) (some g):=
 ⟨h.os,h.tape,h.output,by simpa [World.setCell] using h.size,fun k hk hne=>(Vy3 X _ u k (fun e=>hne (by rw[e]))).trans (h.block k hk)⟩
theorem ZwF{w X:World}{g:Nat}(h:Below w.heap.size w X):w.grownBy X (some g):=⟨h.os,h.tape,h.output,h.size,fun k hk _=>h.block k hk⟩
theorem Zmo(n:Nat)(w:World):Calls Tryz.prog 222 #[.int .u64 (n:Int)] w fun e w'=>∃nb,e=.returned (.func (.func 249) #[] #[.pointer (some ⟨nb,0,none⟩)])∧nb<w'.heap.size∧w'.cell? ⟨nb,0,none⟩=some (.int .u64 (n:Int))∧Below w.heap.size w w':=
 (ZsX n w).mono fun e w' h=>by
  obtain⟨h1,rfl⟩:=h
  exact⟨w.heap.size,h1,by rw[Vx2];exact Nat.lt_succ_self _,(Zae (l:=[Value.int .u64 (n:Int)]) (Vx0 w (.cells #[.int .u64 (n:Int)] 128))) 0 _ rfl,Zad _ _⟩
theorem ZhE(n:Nat)(hn:n<18446744073709551616)(w:World)(nb:Nat)(hb:nb<w.heap.size)(h:w.cell? ⟨nb,0,none⟩=some (.int .u64 (n:Int))):TurnC 249 #[.pointer (some ⟨nb,0,none⟩)] (moreF n) w:=by
 intro W hW g a hg ha h0
 obtain⟨-,c1,-,-⟩:=ZlX h0
 have c2:W.cell? ⟨nb,0,none⟩=some (.int .u64 (n:Int)):=(hW.cell hb).trans h
 obtain⟨ha1,ha2⟩:=ha
 by_cases hlt:a.b+n<18446744073709551616
 ·have hF:moreF n a=(0,⟨a.n,a.b+n⟩):=if_pos hlt
  rw[hF]
  have hA:=fun W=>Zil a.b n ((a.b+n:Nat):Int) 0 (by rw[Nat.mod_eq_of_lt hlt]) (by omega) W
  obtain⟨s,hs⟩:∃s:Int,((a.b+n:Nat):Int)=s:=⟨_,rfl⟩
  rw[hs]at hA
  replace hs:=hid hs.symm
  replace h0:=hid h0
  clear hlt hF h
  go_enter Tryz.func249,Tryz.ntmps249
  go_wp2_with fail
  refine rgB fun hHeld=>?_
  refine' tkW 0 1 ?_
  refine' tkP 2 rfl ?_
  refine' tkC 3 rfl c1 ?_
  simp only[sQ]
  refine' tkC 4 rfl c2 ?_
  simp only[sQ]
  refine' tkL 5 (.tuple #[.int .u64 s,.int .u64 0]) rfl ?_ ?_
  ·intro W hSw
   go_simp
  try simp only[sQ]
  refine' tkW 6 7 ?_
  refine' tkW 8 9 ?_
  simp only[sQ]
  refine' tkP 10 rfl ?_
  simp only[sQ]
  refine dnN ?_
  have h1:=(hHeld.block g (block_lt h0.out)).trans h0.out
  obtain⟨-,d1,-,f1⟩:=ZlX h1
  replace h1:=hid h1
  replace hHeld:=hid hHeld
  go_wp2
  go_ret
  exact⟨⟨a.n,a.b+n⟩,rfl,by rw[hs.out];exact Yba _ h1.out,fun _=>rfl,ZwG hHeld.out⟩
 ·have hA:=fun W=>Zil a.b n ((a.b+n-18446744073709551616:Nat):Int) 1 (by rw[show (a.b+n) % 18446744073709551616=a.b+n-18446744073709551616 by omega]) (by omega) W
  have hF:moreF n a=(151,a):=if_neg hlt
  rw[hF]
  generalize ((a.b+n-18446744073709551616:Nat):Int)=s at *
  replace h0:=hid h0
  clear hlt hF h
  go_enter Tryz.func249,Tryz.ntmps249
  go_wp2_with fail
  refine rgB fun hHeld=>?_
  refine' tkW 0 1 ?_
  refine' tkP 2 rfl ?_
  refine' tkC 3 rfl c1 ?_
  simp only[sQ]
  refine' tkC 4 rfl c2 ?_
  simp only[sQ]
  refine' tkL 5 (.tuple #[.int .u64 s,.int .u64 1]) rfl ?_ ?_
  ·intro W hSw
   go_simp
  try simp only[sQ]
  refine' tkW 6 7 ?_
  refine' tkW 8 9 ?_
  simp only[sQ]
  refine' tkP 10 rfl ?_
  simp only[sQ]
  refine dnN ?_
  replace hHeld:=hid hHeld
  go_wp2
  go_ret
  exact⟨a,rfl,(hHeld.out.block g (block_lt h0.out)).trans h0.out,fun h=>absurd h (by decide),ZwF hHeld.out⟩
theorem Zmm(A:Option Addr)(c n:Nat)(root:Int)(w:World):Calls Tryz.prog 220 #[.agg #[.slice A n c,.int .i64 root]] w fun e w'=>e=.returned (.bool (decide (260944<n)))∧Below w.heap.size w w':=by
 have h1:=BoxT.new w A n c root 24
 have W0:=hid (Zad w (.cells #[.slice A n c,.int .i64 root] 24))
 have y:=h1.ns
 have hd:decide ((n:Int)>260944)=decide (260944<n):=by congr 1;exact propext ⟨fun h=>by omega,fun h=>by omega⟩
 go_enter Tryz.func220,Tryz.ntmps220
 go_wp2
 go_ret
 exact⟨rfl,W0.out⟩
theorem Zxj{t:Tr}{k:Dg}{a:Ac}(hm:mayA t=true)(hl:t.ns.length≤100000):∃r,(setT t k a).ns=t.ns++r:=by
 have h1:=(Zff hm).1
 unfold setT
 rw[if_pos hm]
 by_cases hz:a=ac0
 ·rw[if_pos hz]
  by_cases hh:hasP (allT t) k=true
  ·rw[if_pos hh]
   have he:tdropE t k=0:=by unfold tdropE;rw[if_pos h1,if_pos hh,if_neg (by omega)]
   obtain⟨⟨ms,e1,-⟩,-,-⟩:=Zd9 he
   exact⟨ms,e1⟩
  ·rw[if_neg hh]
   exact⟨[],by simp⟩
 ·rw[if_neg hz]
  have he:tputE t (acB a)=0:=by unfold tputE;rw[if_pos h1,if_pos (Ztn a),if_neg (by omega)]
  obtain⟨⟨ms,e1,-⟩,-,-⟩:=Zcp (k:=k) he
  exact⟨ms,e1⟩
structure StOf (t:Tr) (ps:List Pr) (t0:Tr) (n:Nat):Prop where
 may:mayA t=true
 all:allT t=ps
 len:t.ns.length≤t0.ns.length+n
 grow:∃r,t.ns=t0.ns++r
theorem StOf.self{t:Tr}(h:mayA t=true):StOf t (allT t) t 0:=⟨h,rfl,Vx8 _,[],by simp⟩
section
variable{t t0 o:Tr}{ps:List Pr}{n:Nat}{k:Dg}{a:Ac}
theorem StOf.st(h:StOf t ps t0 n):St ps:=h.all▸(Zcm h.may).2
theorem StOf.get(h:StOf t ps t0 n)(k:Dg):getA t k=inA ps k:=by rw[Zdv h.may,h.all]
theorem StOf.set(h:StOf t ps t0 n)(ha:a.ok)(hl:t0.ns.length+n≤100000):StOf (setT t k a) (setP ps k a) t0 (n+257):=by
 have hl2:t.ns.length≤100000:=Vx1 h.len hl
 obtain⟨h1,-,h3,h4⟩:=ZdB (k:=k) ha h.may hl2
 obtain⟨r,hr⟩:=h.grow
 obtain⟨s,hs⟩:=Zxj (k:=k) (a:=a) h.may hl2
 have h5:=h.len
 exact⟨h1,by rw[h3,h.all],by omega,r++s,by rw[hs,hr,List.append_assoc]⟩
theorem StOf.more(h:StOf t ps t0 n){m:Nat}(hb:moreB ps k m=true)(hl:t0.ns.length+n≤100000):StOf (setT t k ⟨(inA ps k).n,(inA ps k).b+m⟩) (moreL ps k m) t0 (n+257):=by
 have:=h.set (k:=k) (ZpF hb) hl
 exact this
variable{x:Tx}{box:Dg}
theorem StOf.bare(h:mayA t=true)(hn:nextB (allT t) x=true)(hl:t.ns.length≤90000):StOf (setT t (fromX x) ⟨(inA (allT t) (fromX x)).n+1,(inA (allT t) (fromX x)).b⟩) (bareL (allT t) x) t 257:=by
 have:=(StOf.self h).set (k:=fromX x) (ZmL hn) (by omega)
 exact this
theorem StOf.less(h:StOf o (bareL (allT t) x) t 257)(hn:nextB (allT t) x=true)(hl:t.ns.length≤90000):StOf (setT o (fromX x) ⟨(inA (allT t) (fromX x)).n+1,(inA (allT t) (fromX x)).b-(x.a+x.f)⟩) (lessL (allT t) x) t 514:=by
 have:=h.set (k:=fromX x) (ZkT hn) (by omega)
 exact this
theorem ZpQ(hz:payTE t x=0)(hc:¬paidC (allT t) x box=0)(h:StOf o (bareL (allT t) x) t n)(hn:n≤1200):PayOk t x box o:=by
 unfold PayOk
 rw[if_pos hz]
 exact⟨h.may,by rw[h.all];unfold paidL;rw[if_neg hc],by have:=h.len;omega,h.grow⟩
theorem YdX(hz:payTE t x=0)(hc:paidC (allT t) x box=0)(h:StOf o (moreL (moreL (lessL (allT t) x) x.t x.a) box x.f) t n)(hn:n≤1200):PayOk t x box o:=by
 unfold PayOk
 rw[if_pos hz]
 exact⟨h.may,by rw[h.all];unfold paidL;rw[if_pos hc],by have:=h.len;omega,h.grow⟩
theorem Yg8(hz:¬payTE t x=0):PayOk t x box ⟨[],0⟩:=by unfold PayOk;rw[if_neg hz]
variable{d:Dp}
theorem Yc8(hz:¬giveTE t=0):GiveOk t d ⟨[],0⟩:=by unfold GiveOk;rw[if_neg hz]
theorem Zzs(hz:giveTE t=0)(hm:moreB (allT t) d.t d.a=false)(h:StOf o (allT t) t n)(hn:n≤1200):GiveOk t d o:=by
 unfold GiveOk
 rw[if_pos hz]
 exact⟨h.may,by rw[h.all];unfold giveL;rw[hm];rfl,by have:=h.len;omega,h.grow⟩
theorem Zzr(hz:giveTE t=0)(hm:moreB (allT t) d.t d.a=true)(h:StOf o (moreL (allT t) d.t d.a) t n)(hn:n≤1200):GiveOk t d o:=by
 unfold GiveOk
 rw[if_pos hz]
 exact⟨h.may,by rw[h.all];unfold giveL;rw[if_pos hm],by have:=h.len;omega,h.grow⟩
end
structure Sp where
 k:Dg
 N:Nat
 caps:Array Value
 f:Ac→Int×Ac
def stC(s:Sp):List Value:=s.k.1.map bv++[.func (.func s.N) #[] s.caps]
theorem ZoK(s:Sp):(stC s).length=33:=by simp[stC,s.k.2]
theorem Yfj(s:Sp):∀v∈stC s,v.oneCell'=true:=fun v hv=>by
 unfold stC at hv
 rcases List.mem_append.1 hv with h|h
 ·exact Zbn _ v h
 ·simp at h;subst h;rfl
instance:Enc Sp where
 size:=33
 rep:=fun _ _ x vs=>vs=stC x
 len:=by rintro F w x vs rfl;exact ZoK x
 one:=by rintro F w x vs rfl v hv;exact Yfj x v hv
 kept:=fun h _=>h
 mono:=fun h _=>h
def zStC:Array Value:=((List.replicate 32 (0:UInt8)).map bv++[Value.nilFunc]).toArray
theorem Yh1:(Tryz.prog.info? 276).map (fun i=>(i.zero,i.size))=some (some (.agg zStC),zStC.size):=by kernel_rfl
theorem Ybl(x:Sp):(Tryz.prog.info? 276).map (·.size)=some (stC x).toArray.size:=by
 rw[Vx7,ZoK];kernel_rfl
theorem Yjd(x:Sp):(Tryz.prog.info? 276).map (·.size)=some (stC x).length:=Ybl x
theorem Yh2(x:Sp):zStC.size=(stC x).toArray.size:=by
 have h:(stC x).toArray.size=33:=by rw[Vx7,ZoK]
 rw[h];rfl
theorem Yg2(x:Sp):(stC x).toArray.all (·.oneCell')=true:=all_oneCell_toArray (Yfj x)
theorem Yfv:Slot Tryz.prog Sp 277 276 (.agg zStC) 40 where
 under:=Tryz.underlying277
 info:=by kernel_rfl
 zero:=rfl
 pos:=by decide
theorem Yd6:Places Tryz.prog 276 (.agg zStC) [(0,32),(32,1)]:=by unfold Places;kernel_rfl
def runW(t0:Tr):Tr→List Sp→Tr×Int
 |t,[]=>(t,0)
 |t,s::ss=>if (s.f (getA t s.k)).1=0 then runW t0 (setT t s.k (s.f (getA t s.k)).2) ss else (t0,(s.f (getA t s.k)).1)
def WalkK(w:World)(A:Option Addr)(n c:Nat)(root:Int)(ns:List Nd)(W:World):Prop:=BoxT W w.heap.size A n c root∧(∃ cs:Array Value,W.heap[w.heap.size+1]? =some (.cells cs 24 (0,0))∧cs.size=2)∧Row (fun b=>b<w.heap.size) W A ns∧Below w.heap.size w W
def WalkJ(w:World)(A:Option Addr)(n c:Nat)(root z:Int)(ns:List Nd)(R:Tr)(a:Act)(W:World):Prop:=∃x0 x1 x3 y6 y7 y8 y9 y10 y11 y12 y13 y14 y15 y16 y17 y18 y19 y20 y21 y22 y23 y24 y25 y26 y27 y28 y29 y30 y31 y32 y33 y34 y35 y36 y37 y38 y39 y40 y41:Value,a={ tmps:=#[x0,x1,.pointer (some ⟨w.heap.size,0,none⟩),x3,.pointer (some ⟨w.heap.size+1,0,none⟩),.int .i64 z,y6,y7,y8,y9,y10,y11,y12,y13,y14,y15,y16,y17,y18,y19,y20,y21,y22,y23,y24,y25,y26,y27,y28,y29,y30,y31,y32,y33,y34,y35,y36,y37,y38,y39,y40,y41],defers:=[] }∧R=⟨ns,root⟩∧WalkK w A n c root ns W
theorem WalkK.bel{w W W':World}{A:Option Addr}{n c:Nat}{root:Int}{ns:List Nd}(h:WalkK w A n c root ns W)(hb:Below W.heap.size W W'):WalkK w A n c root ns W':=by
 obtain⟨h1,⟨cs,h2,h3⟩,h4,h5⟩:=h
 exact⟨h1.bel hb,⟨cs,(hb.block _ (block_lt h2)).trans h2,h3⟩,h4.bel hb,h5.trans (hb.mono h5.size)⟩
theorem WalkK.store{w W W':World}{A:Option Addr}{n c:Nat}{root:Int}{ns:List Nd}(h:WalkK w A n c root ns W)(hb:W.grownBy W' (some (w.heap.size+1))){cs:Array Value}(hg:W'.heap[w.heap.size+1]? =some (.cells cs 24 (0,0)))(hs:cs.size=2):WalkK w A n c root ns W':=by
 obtain⟨h1,-,h4,h5⟩:=h
 exact⟨BoxT.of (Zak h1.all (fun h=>hb.block _ h (fun e=>by injection e with e;omega))),⟨cs,hg,hs⟩,h4.kept (fun b hb' hl=>hb.block b hl (fun e=>by injection e with e;omega)) hb.size,h5.grown hb h5.size (fun k e=>by injection e with e;omega)⟩
theorem YeC{W:World}{g:Nat}{s:Sp}(h:W.heap[g]? =some (.cells (stC s).toArray 276 (0,0))):W.rangeAt g 0 (s.k.1.map bv)∧W.cell? ⟨g,32,none⟩=some (.func (.func s.N) #[] s.caps):=by
 have h1:=Zae (l:=stC s) h
 refine⟨fun j v hv=>h1 j v (by unfold stC;rw[List.getElem?_append_left (List.getElem?_eq_some_iff.1 hv).1];exact hv),?_⟩
 have:=h1 32 (.func (.func s.N) #[] s.caps) (by unfold stC;rw[List.getElem?_append_right (by rw[Vx6,s.k.2];omega)];simp[s.k.2])
 simpa using this
theorem ZgV{t0 t:Tr}{s:Sp}{ss:List Sp}(h:(s.f (getA t s.k)).1=0):runW t0 t (s::ss)=runW t0 (setT t s.k (s.f (getA t s.k)).2) ss:=if_pos h
theorem Zkc{t0 t:Tr}{s:Sp}{ss:List Sp}(h:¬(s.f (getA t s.k)).1=0):runW t0 t (s::ss)=(t0,(s.f (getA t s.k)).1):=if_neg h
theorem Ygx(l:List Sp):((l.map stC).flatten).length=l.length * 33:=by
 induction l with
 |nil=>rfl
 |cons a l ih=>simp only[List.map_cons,List.flatten_cons,Vx3,List.length_cons,ih,ZoK];omega
theorem Zo0(w:World)(ss:List Sp)(E:TypeId)(j:Nat)(h:j<ss.length):(w.alloc (.cells ((ss.map stC).flatten).toArray E)).rangeAt w.heap.size (j * 33) (stC ss[j]):=by
 have h1:=Zdx (ss.map stC) 0 j (by rw[Vx6];exact h) (Zae (Vx0 w (.cells ((ss.map stC).flatten).toArray E)))
 rw[List.getElem_map,←List.map_take,Ygx,List.length_take,Nat.min_eq_left (Nat.le_of_lt h),Nat.zero_add]at h1
 exact h1
theorem ZnZ{w:World}{ops:Array Oper}{rest:List Oper}{o:Oper}{a:Act}{Q:Exit→Act→World→Prop}(hg:Region.wanted o (yielded ops a.tmps)=true)(n:Nat)(parts:Array (Nat×Operand))(hop:o.op=.buildSlice 277 n parts)
  (ss:List Sp) (hn:ss.length=n) (h0:0<n) (hsm:n≤1000) (hp:parts.toList.map (fun (i,x)=>(i,a.eval x))=((ss.map fun s=>Value.agg (stC s).toArray).zipIdx 0).map fun x=>(x.2,x.1))
  (hK:∀g w',w.heap.size=g→(∀ j (h:j<ss.length),w'.rangeAt g (j * 33) (stC ss[j]))→Below w.heap.size w w'→wpList Tryz.prog ops Q rest (a.put o.dst (.slice (some ⟨g,0,none⟩) n n)) w'):wpList Tryz.prog ops Q (o::rest) a w:=
 Zdg Yfv hg n parts hop (ss.map stC) (ss.map fun s=>Value.agg (stC s).toArray) (by rw[Vx6];exact hn) h0 (by show n * 33≤_;omega) (by intro cs hcs;obtain⟨p,-,rfl⟩:=List.mem_map.1 hcs;exact ZoK p) (by rw[List.map_map,List.map_map];rfl) hp
  (hK _ _ rfl (Zo0 w ss _) (Zad _ _))
theorem ZlK{w:World}{ops:Array Oper}{o:Oper}{a:Act}{K:Act→World→Prop}{Q:Exit→Act→World→Prop}{X:Prop}(hg:Region.wanted o (yielded ops a.tmps)=true)(n:Nat)(parts:Array (Nat×Operand))(hop:o.op=.buildSlice 277 n parts)
  (ss:List Sp) (hn:ss.length=n) (h0:0<n) (hsm:n≤1000) (hp:parts.toList.map (fun (i,x)=>(i,a.eval x))=((ss.map fun s=>Value.agg (stC s).toArray).zipIdx 0).map fun x=>(x.2,x.1))
  (hK:∀g w',w.heap.size=g→(∀ j (h:j<ss.length),w'.rangeAt g (j * 33) (stC ss[j]))→Below w.heap.size w w'→K (a.put o.dst (.slice (some ⟨g,0,none⟩) n n)) w'):if Region.wanted o (yielded ops a.tmps)=true then Oper.wp Tryz.prog o a w K Q else X:=by
 rw[if_pos hg]
 have he:(parts.map fun (i,x)=>(i,a.eval x))=(((ss.map fun s=>Value.agg (stC s).toArray).zipIdx 0).map fun x=>(x.2,x.1)).toArray:=by
  apply Array.ext'
  rw[Array.toList_map,hp]
 unfold Oper.wp execOp
 simp only[hop,he,Sem.run_bind,Zfg Yfv n (ss.map stC) (by rw[Vx6];exact hn) h0 (by show n * 33≤_;omega) (by intro cs hcs;obtain⟨p,-,rfl⟩:=List.mem_map.1 hcs;exact ZoK p) (ss.map fun s=>Value.agg (stC s).toArray) (by rw[List.map_map,List.map_map];rfl) w,Result.andThen_ok]
 exact hK _ _ rfl (Zo0 w ss _) (Zad _ _)
theorem ZjH(s:Sp):Tryz.prog.built 276 [(0,.agg (s.k.1.map bv).toArray),(1,.func (.func s.N) #[] s.caps)]=some (stC s).toArray:=by
 rw[Za5 Yd6]
 have h:=Zgp (place:=fun i=>([(0,32),(32,1)]:List (Nat×Nat)).toArray[i]?) [(List.replicate 32 (0:UInt8)).map bv,[Value.nilFunc]] [.agg (s.k.1.map bv).toArray,.func (.func s.N) #[] s.caps] 0 [] (by
  refine⟨?_,?_,?_,?_,trivial⟩<;>simp[s.k.2,Value.cells])
 exact h
theorem ZuR{l:Nat}{J:Act→World→Prop}{Q:Exit→Act→World→Prop}{a:Act}{w:World}:Exit.jump l J Q .ret a w=Q .ret a w:=rfl
theorem ZiY(F:Nat→Prop)(A:Option Addr)(c:Nat)(ns:List Nd)(root:Int)(ss:List Sp)(sb cp:Nat)(w:World)(hr:Row F w A ns)(hm:mayA ⟨ns,root⟩=true)(hl:ns.length+257 * ss.length≤100000)(hn:0<ss.length)
  (hS:∀j (h:j<ss.length),w.rangeAt sb (j * 33) (stC ss[j])) (hT:∀s∈ss,TurnC s.N s.caps s.f w∧(∀ (args:Array Value) (W:World),(callFunc s.N args).run Tryz.prog W=.ok (.enter s.N args) W)∧∀a:Ac,a.ok→(s.f a).1=0→(s.f a).2.ok) (R:Tr) (z:Int) (hR:runW ⟨ns,root⟩ ⟨ns,root⟩ ss=(R,z)):
  Calls Tryz.prog 221 #[.agg #[.slice A ns.length c,.int .i64 root],.slice (some ⟨sb,0,none⟩) ss.length cp] w fun e w'=>∃A' c',e=.returned (.tuple #[.agg #[.slice A' R.ns.length c',.int .i64 R.root],.int .i64 z])∧OwnR 106 w' w.heap.size A' c' R.ns∧Below w.heap.size w w':=by
 have hut:=Tryz.underlying24
 have hu:=Tryz.underlying37
 have hua:=Tryz.underlying130
 have hus:=Tryz.underlying276
 obtain⟨T0,z0,W0,hsz⟩:=Zux w A ns.length c root
 have R0:=(hr.mono (G:=fun b=>b<w.heap.size) fun b _ h=>h).bel W0
 have e0:=hid z0
 have jT:=hid (show (Tryz.prog.info? 24).map (·.size)=some ([Value.slice A ns.length c,.int .i64 root]).length from Zah)
 go_enter Tryz.func221,Tryz.ntmps221
 replace T0:=hid T0
 replace W0:=hid W0
 replace R0:=hid R0
 clear z0
 go_wp2_with ((with_reducible refine Zac rfl 24 rfl zTrC Zas ?_))
 generalize (w.alloc (.cells #[.slice A ns.length c,.int .i64 root] 24)).alloc (.cells zTrC 24)=w0 at *
 refine wp_scope_jumps (rest:= ?rest) 0 (WalkJ w A ns.length c root z ns R) (fun _ _=>0) ?hf ?first ?pass
 case hf=>rfl
 case first=>
  go_wp2_with (first
   |(with_reducible refine lDr T0.out.all jT.out hut ?_)
   |((with_reducible refine stW 4 10 (w.heap.size+1) 24 zTrC ?_ ?_ ?_ ?_ ?_);exact e0.out;exact Zah;rfl;exact Zat A ns.length c root;intro w1 hg1 hb1 hs1;have K1:=hid (show WalkK w A ns.length c root ns w1 from ⟨BoxT.of (Zak T0.out.all (fun h=>hb1.block _ h (fun e=>by injection e with e;omega))),⟨_,hg1,rfl⟩,R0.out.kept (fun b hb hl=>hb1.block b hl (fun e=>by injection e with e;omega)) hb1.size,W0.out.grown hb1 W0.out.size (fun k e=>by injection e with e;omega)⟩);have g1:=hid hg1;clear hg1 hb1 hs1))
  have hR1:=K1.out.2.2.1
  go_loopw [13] (fun i wr=>∃(j:Nat) (T:Tr) (A':Option Addr) (c':Nat),j≤ss.length∧i=.int .i64 j∧wr.heap[w.heap.size+1]? =some (.cells #[.slice A' T.ns.length c',.int .i64 T.root] 24 (0,0))∧Row (fun b=>b≠w.heap.size+1) wr A' T.ns∧(0<j→OwnR 106 wr (w.heap.size+2) A' c' T.ns)∧mayA T=true∧T.ns.length+257 * (ss.length-j)≤100000∧runW ⟨ns,root⟩ T (ss.drop j)=(R,z)∧WalkK w A ns.length c root ns wr) (fun i _=>ss.length-(intOf i).toNat)
  case atStart=>exact⟨0,⟨ns,root⟩,A,c,Nat.zero_le _,rfl,g1.out,hR1.mono (fun b hb _=>by omega),fun h=>absurd h (by omega),hm,by simpa using hl,by simpa using hR,K1.out⟩
  case round=>
   obtain⟨j,T,A',c',hj,rfl,hg,hrow,hown,hmT,hlT,hrun,hK⟩:=hrel
   by_cases hlt:j<ss.length
   ·obtain⟨s,hs⟩:∃s,ss[j]=s:=⟨_,rfl⟩
    obtain⟨hTu,hFi,hok⟩:=hT s (hs▸List.getElem_mem hlt)
    have hS1:=hS j hlt
    rw[hs]at hS1
    rw[List.drop_eq_getElem_cons hlt,hs]at hrun
    have hao:(getA T s.k).ok:=by rw[Zdv hmT];exact ZhV _ _
    obtain⟨cf,hcf⟩:∃cf,(s.f (getA T s.k)).1=cf:=⟨_,rfl⟩
    have hPost:cf=0→∃T2,setT T s.k (s.f (getA T s.k)).2=T2∧(s.f (getA T s.k)).2.ok∧mayA T2=true∧T2.ns.length+257 * (ss.length-(j+1))≤100000∧runW ⟨ns,root⟩ T2 (ss.drop (j+1))=(R,z):=fun h0=>by
     have ho2:=hok _ hao (hcf.trans h0)
     obtain⟨q1,-,-,q2⟩:=ZdB (k:=s.k) ho2 hmT (by omega)
     exact⟨_,rfl,ho2,q1,by omega,by rw[ZgV (hcf.trans h0)]at hrun;exact hrun⟩
    have hNo:¬cf=0→R=⟨ns,root⟩∧z=cf:=fun h0=>by
     rw[Zkc (by rw[hcf];exact h0),hcf]at hrun
     injection hrun with e1 e2
     exact⟨e1.symm,e2.symm⟩
    have hlT2:T.ns.length≤1000000:=by omega
    have hG:∀W,Row (fun b=>b≠w.heap.size+1) W A' T.ns→Calls Tryz.prog 247 #[.agg #[.slice A' T.ns.length c',.int .i64 T.root],.agg (s.k.1.map bv).toArray] W fun e w'=>(∃ q,e=.returned (.tuple #[.agg (acC (getA T s.k)).toArray,.int .i64 q]))∧Below W.heap.size W w':=fun W hW=>(ZcG _ A' c' T.ns T.root s.k W hW hlT2).mono fun e w' h=>⟨⟨_,h.1⟩,h.2⟩
    have hSt:∀W,Row (fun b=>b≠w.heap.size+1) W A' T.ns→(s.f (getA T s.k)).2.ok→Calls Tryz.prog 248 #[.agg #[.slice A' T.ns.length c',.int .i64 T.root],.agg (s.k.1.map bv).toArray,.agg (acC (s.f (getA T s.k)).2).toArray] W fun e w'=>∃A2 c2 q,e=.returned (.tuple #[.agg #[.slice A2 (setT T s.k (s.f (getA T s.k)).2).ns.length c2,.int .i64 (setT T s.k (s.f (getA T s.k)).2).root],.int .i64 q])∧OwnR 106 w' W.heap.size A2 c2 (setT T s.k (s.f (getA T s.k)).2).ns∧Below W.heap.size W w':=fun W hW h=>(Zed _ A' c' T.ns T.root s.k (s.f (getA T s.k)).2 W h hW hlT2).mono fun e w' h=>by
     obtain⟨A2,c2,h1,h2,h3⟩:=h
     exact⟨A2,c2,_,h1,h2,h3⟩
    have hTn:=fun W (hW:Below w.heap.size w W) g (hg:w.heap.size≤g) h=>hTu W hW g (getA T s.k) hg hao h
    rw[hcf]at hTn
    replace hTn:=hid hTn
    replace hG:=hid hG
    replace hSt:=hid hSt
    have hP:=hid (fun W g=>YeC (W:=W) (g:=g) (s:=s))
    have jS:=hid (Yjd s)
    have aS:=hid (Ybl s)
    have zS:=hid (Yh2 s)
    have nS:=hid (Yg2 s)
    have i1:=hid (ZaF s.k)
    have jA:=hid (show (Tryz.prog.info? 130).map (·.size)=some (acC (getA T s.k)).length from ZaM)
    have nA:=hid (ZbW (getA T s.k))
    have hK1:=hK.2.2.2
    have y0:=hid (Zab hK1 hS1)
    have hsz1:=hK1.size
    obtain⟨cT,hcT⟩:∃cT,[Value.slice A' T.ns.length c',.int .i64 T.root]=cT:=⟨_,rfl⟩
    have l0:=hid hg
    have r0:=hid hrow
    have k0:=hid hK
    have iT:=hid (show (Tryz.prog.info? 24).map (·.size)=some ([Value.slice A' T.ns.length c',.int .i64 T.root]).length from Zah)
    have e1:=hid (Vx0 wr (.cells zStC 276))
    replace hPost:=hid hPost
    replace hNo:=hid hNo
    clear hTu hok hrun hown hcf hS1 hS hT hlT hg hrow hK hs hmT hao hK1 hR hlT2 hcT
    generalize hav:getA T s.k=av at *
    generalize ha2:(s.f av).2=a2 at *
    replace hav:=hid hav
    replace ha2:=hid ha2
    generalize hst:stC s=cs at *
    generalize hdk:s.k.1.map bv=dk at *
    replace hst:=hid hst
    replace hdk:=hid hdk
    go_wp2_with (first
     |(with_reducible refine lDr y0.out jS.out hus ?_)
     |(with_reducible refine Zac rfl 276 rfl zStC Yh1 ?_)
     |((with_reducible refine stW 7 16 _ 276 zStC ?_ ?_ ?_ ?_ ?_);exact e1.out;exact aS.out;exact zS.out;exact nS.out;intro w2 hgS hbS hsS;have X2:=hid (Zan rfl hbS);have l2:=hid ((X2.out.block _ (block_lt l0.out)).trans l0.out);have r2:=hid (r0.out.bel X2.out);have k2:=hid (k0.out.bel X2.out);have P2:=hid (hP.out _ _ hgS);have hT2:=hid (Zae (l:=[Value.slice A' T.ns.length c',.int .i64 T.root]) l2.out);have hD2:=hid P2.out.1;clear hgS hbS hsS X2 l0 r0 k0 y0 e1)
     |(with_reducible refine lDr hT2.out iT.out hut ?_)
     |(with_reducible refine lDr hD2.out i1.out hu ?_))
    refine(hG.out _ r2.out).mono ?_
    rintro e w3 ⟨⟨q,rfl⟩,hb⟩
    have l3:=hid ((hb.block _ (block_lt l2.out)).trans l2.out)
    have r3:=hid (r2.out.bel hb)
    have k3:=hid (k2.out.bel hb)
    have D3:=hid (Zab hb hD2.out)
    have F3:=hid ((hb.cell (Vx5 _ _ P2.out.2)).trans P2.out.2)
    have e3:=hid (Vx0 w3 (.cells (acC ac0).toArray 130))
    clear hb l2 r2 k2 P2 hT2 hD2 hG
    go_wp2_with (first
     |(with_reducible refine Zac rfl 130 rfl (acC ac0).toArray ZaZ ?_)
     |((with_reducible refine stW 8 22 _ 130 (acC ac0).toArray ?_ ?_ ?_ ?_ ?_);exact e3.out;exact ZaM;rfl;exact nA.out;intro w4 hgS hbS hsS;have X4:=hid (Zan rfl hbS);have l4:=hid ((X4.out.block _ (block_lt l3.out)).trans l3.out);have r4:=hid (r3.out.bel X4.out);have k4:=hid (k3.out.bel X4.out);have D4:=hid (Zab X4.out D3.out);have F4:=hid ((X4.out.cell (Vx5 _ _ F3.out)).trans F3.out);have f4:=F4.out;have a4:=hid hgS;clear hgS hbS hsS))
    have hs3:=k3.out.2.2.2.size
    refine(hTn.out _ k4.out.2.2.2 _ hs3 a4.out).mono ?_
    rintro e w5 ⟨a',rfl,a5,hz,hgr⟩
    have X5:=X4.out.grown hgr X4.out.size (fun k e=>by injection e with e;omega)
    have l5:=hid ((X5.block _ (block_lt l3.out)).trans l3.out)
    have r5:=hid (r3.out.bel X5)
    have k5:=hid (k3.out.bel X5)
    have D5:=hid (Zab X5 D3.out)
    replace a5:=hid a5
    replace hz:=hid hz
    clear hgr X5 X4 l4 r4 k4 D4 F4 f4 a4 l3 r3 k3 D3 F3 hTn e3
    cases hcb:(cf !=0) with
    |true=>
     obtain⟨hR0,hz0⟩:=hNo.out (by simpa using hcb)
     subst hz0
     go_wp2
     refine wp_goto ?_
     exact⟨rfl,_,_,_,_,_,_,_,_,_,_,_,_,_,_,_,_,_,_,_,_,_,_,_,_,_,_,_,_,_,_,_,_,_,_,_,_,_,_,_,rfl,hR0,k5.out⟩
    |false=>
     have h0:cf=0:=by simpa using hcb
     subst h0
     obtain rfl:=hz.out rfl
     obtain⟨T2,hT2,hao2,hm2,hl2,hrun2⟩:=hPost.out rfl
     rw[hT2]at hSt
     have j2:=hid (show (Tryz.prog.info? 130).map (·.size)=some (acC a').length from ZaM)
     have A5:=hid (Zae (l:=acC a') a5.out)
     have T5:=hid (Zae (l:=[Value.slice A' T.ns.length c',.int .i64 T.root]) l5.out)
     replace hSt:=hid (fun W hW=>hSt.out W hW hao2)
     replace hrun2:=hid hrun2
     clear hPost hNo hz hT2 hcb hao2 a5
     go_wp2_with (first
      |(with_reducible refine lDr T5.out iT.out hut ?_)
      |(with_reducible refine lDr D5.out i1.out hu ?_)
      |(with_reducible refine lDr A5.out j2.out hua ?_))
     refine(hSt.out _ r5.out).mono ?_
     rintro e w6 ⟨A6,c6,q6,rfl,ho,hb⟩
     have l6:=hid ((hb.block _ (block_lt l5.out)).trans l5.out)
     have k6:=hid (k5.out.bel hb)
     have hs5:=hid (block_lt l5.out)
     replace ho:=hid ho
     clear hb l5 r5 k5 D5 A5 T5 hSt
     go_wp2_with (((with_reducible refine wpList_store_row rfl 24 (.tmp 4) (.tmp 35) rfl (w.heap.size+1) _ rfl rfl 24 #[Value.slice A' T.ns.length c',.int .i64 T.root] ?_ ?_ ?_ ?_ ?_);exact l6.out;exact Zah;rfl;exact Zat A6 T2.ns.length c6 T2.root;intro w7 hg7 hb7 hs7;have l7:=hid hg7;have k7:=hid (k6.out.store hb7 hg7 rfl);have r7:=hid ((OwnR.row ho.out).kept (fun b hb' hl=>hb7.block b hl (fun e=>by have:=hs5.out;injection e with e;omega)) hb7.size);have o7:=hid (OwnQ.keptAtP ho.out hb7 hs5.out hs5.out);clear hg7 hb7 hs7))
     go_roundw
     case rel=>exact⟨j+1,T2,A6,c6,by omega,by go_num,l7.out,r7.out.mono (fun b hb' _=>by have:=hs5.out;omega),fun _=>OwnR.base o7.out (by have:=hs5.out;omega),hm2,hl2,hrun2.out,k7.out⟩
     case measure=>simp[intOf];omega
   ·obtain rfl:j=ss.length:=by omega
    rw[List.drop_length]at hrun
    injection hrun with e1 e2
    subst e1 e2
    have ho:=hid (hown hn)
    have iT:=hid (show (Tryz.prog.info? 24).map (·.size)=some ([Value.slice A' T.ns.length c',.int .i64 T.root]).length from Zah)
    have l0:=hid hg
    have hT0:=hid (Zae (l:=[Value.slice A' T.ns.length c',.int .i64 T.root]) hg)
    have k0:=hid hK
    clear hown hR hS hT hlT hg hrow hK hmT hR1
    go_wp2_with (first
     |(with_reducible refine lDr hT0.out iT.out hut ?_)
     |((with_reducible refine wpList_store_row rfl 24 (.tmp 4) (.tmp 38) rfl (w.heap.size+1) _ rfl rfl 24 #[Value.slice A' T.ns.length c',.int .i64 T.root] ?_ ?_ ?_ ?_ ?_);exact l0.out;exact Zah;rfl;exact Zat A' T.ns.length c' T.root;intro w7 hg7 hb7 hs7))
    rw[ZuR]
    exact Vy0 (Zce Tryz.results221 _ _ (w.heap.size+1) A' T.ns.length c' T.root rfl hg7) rfl ⟨A',c',rfl,OwnR.base (OwnQ.keptAtP ho.out hb7 (by omega) (by omega)) (by omega),(k0.out.store hb7 hg7 rfl).2.2.2⟩
 case pass=>
  rintro a W ⟨x0,x1,x3,y6,y7,y8,y9,y10,y11,y12,y13,y14,y15,y16,y17,y18,y19,y20,y21,y22,y23,y24,y25,y26,y27,y28,y29,y30,y31,y32,y33,y34,y35,y36,y37,y38,y39,y40,y41,rfl,rfl,hK⟩
  have hv:=Znh (Zft hm).1
  obtain⟨k1,⟨cs,k2,k3⟩,k4,k5⟩:=hK
  have hTw:=hid (fun V hV=>ZeC (fun b=>b<w.heap.size) A c ns root V hV (by omega) hv)
  have l0:=hid k2
  have t0:=hid k1.all
  have r0:=hid k4
  have b0:=hid k5
  have n0:=hid (show cs.size=(#[Value.slice A ns.length c,.int .i64 root]:Array Value).size from k3)
  clear hv k1 k2 k3 k4 k5 hS hT hR
  go_wp2_with ((with_reducible refine lDr t0.out jT.out hut ?_))
  refine(hTw.out _ r0.out).mono ?_
  rintro e W1 ⟨A1,c1,rfl,ho,hb⟩
  have l1:=hid ((hb.block _ (block_lt l0.out)).trans l0.out)
  have b1:=hid (b0.out.trans (hb.mono b0.out.size))
  have s1:=hid (block_lt l0.out)
  replace ho:=hid ho
  clear hb l0 t0 r0 b0 hTw
  go_wp2_with (((with_reducible refine stW 4 40 (w.heap.size+1) 24 cs ?_ ?_ ?_ ?_ ?_);exact l1.out;exact Zah;exact n0.out;exact Zat A1 ns.length c1 root;intro w7 hg7 hb7 hs7))
  rw[ZuR]
  exact Vy0 (Zce Tryz.results221 _ _ (w.heap.size+1) A1 ns.length c1 root rfl hg7) rfl ⟨A1,c1,rfl,OwnR.base (OwnQ.keptAtP ho.out hb7 s1.out s1.out) (by have:=s1.out;omega),b1.out.grown hb7 b1.out.size (fun k e=>by injection e with e;omega)⟩
def GivePost(t:Tr)(x:Dp)(w:World)(e:Ending)(w':World):Prop:=∃(o:Tr) (A':Option Addr) (c':Nat),e=.returned (.tuple #[.agg #[.slice A' o.ns.length c',.int .i64 o.root],.int .i64 (giveTC t x),.int .i64 (giveTE t)])∧OwnR 106 w' w.heap.size A' c' o.ns∧Below w.heap.size w w'∧GiveOk t x o
theorem Yf5(w:World)(A:Option Addr)(n c:Nat)(root:Int)(l:List Value)(t u v:TypeId):
  (((w.alloc (.cells #[.slice A n c,.int .i64 root] t)).alloc (.cells l.toArray u)).alloc (.cells zTrC v)).rangeAt w.heap.size 0 [.slice A n c,.int .i64 root]∧
  (((w.alloc (.cells #[.slice A n c,.int .i64 root] t)).alloc (.cells l.toArray u)).alloc (.cells zTrC v)).rangeAt (w.heap.size+1) 0 l∧
  (((w.alloc (.cells #[.slice A n c,.int .i64 root] t)).alloc (.cells l.toArray u)).alloc (.cells zTrC v)).heap[w.heap.size+1+1]? =some (.cells zTrC v (0,0))∧
  Below w.heap.size w (((w.alloc (.cells #[.slice A n c,.int .i64 root] t)).alloc (.cells l.toArray u)).alloc (.cells zTrC v)):=by
 have h1:=BoxT.new w A n c root t
 have h2:=Zae (Vx0 (w.alloc (.cells #[.slice A n c,.int .i64 root] t)) (.cells l.toArray u))
 have h3:=Vx0 ((w.alloc (.cells #[.slice A n c,.int .i64 root] t)).alloc (.cells l.toArray u)) (.cells zTrC v)
 simp only[Vx2]at h2 h3
 exact⟨((h1.bel (Zad _ _)).bel (Zad _ _)).all,Zab (Zad _ _) h2,h3,Zag (Zag (Zad _ _) (Zad _ _)) (Zad _ _)⟩
theorem YcS{W:World}{g:Nat}{x:Dp}(h:W.rangeAt g 0 (dpC x)):W.rangeAt g 1 (x.t.1.map bv)∧W.cell? ⟨g,33,none⟩=some (.int .u64 (x.a:Int)):=by
 have h1:=Zdx (dpS x) 0 1 (by simp[dpS]) h
 have h2:=Zdx (dpS x) 0 2 (by simp[dpS]) h
 simp[dpS]at h1
 simp[dpS,x.t.2]at h2
 exact⟨h1,by have:=h2 0 _ rfl;simpa using this⟩
theorem Zk7{fn:Func}{p u v:Tmp}(h:fn.results=#[.cell p 24,.tmp u,.tmp v])(tmps:Array Value)(w:World)(g:Nat)(A:Option Addr)(n c:Nat)(root:Int)(e1:tmps.getD p undef=.pointer (some ⟨g,0,none⟩))
  (hg:w.heap[g]? =some (.cells #[.slice A n c,.int .i64 root] 24 (0,0))):(results fn tmps).run Tryz.prog w=.ok (.tuple #[.agg #[.slice A n c,.int .i64 root],tmps.getD u undef,tmps.getD v undef]) w:=by
 have h2:=run_loadVar_mid (P:=Tryz.prog) w g 0 24 [.slice A n c,.int .i64 root] _ (Zae (l:=[Value.slice A n c,.int .i64 root]) hg) Tryz.underlying24 rfl Zah
 have e2:tmps[p]?.getD undef=.pointer (some ⟨g,0,none⟩):=by simpa using e1
 simp only[results,h]
 simp[Sem.run_bind,Result.andThen,e2,asAddr,Sem.run_pure,h2]
theorem Zpr:∀(args:Array Value) (W:World),(callFunc 249 args).run Tryz.prog W=.ok (.enter 249 args) W:=fun _ _=>by kernel_rfl
def spMore(k:Dg)(n nb:Nat):Sp:=⟨k,249,#[.pointer (some ⟨nb,0,none⟩)],moreF n⟩
theorem ZpE{n:Nat}{a:Ac}(ha:a.ok)(h:(moreF n a).1=0):(moreF n a).2.ok:=by
 unfold moreF at h ⊢
 split at h
 ·rename_i hlt
  rw[if_pos hlt]
  exact⟨ha.1,hlt⟩
 ·exact absurd h (show ¬(151:Int)=0 by decide)
theorem ZkX{n:Nat}{a:Ac}(h:a.b+n<18446744073709551616):moreF n a=(0,⟨a.n,a.b+n⟩):=if_pos h
theorem ZpD{n:Nat}{a:Ac}(h:¬a.b+n<18446744073709551616):moreF n a=(151,a):=if_neg h
theorem Zzv{t:Tr}{x:Dp}(nb:Nat)(hm:mayA t=true)(hl:t.ns.length≤90000):∃R,runW t t [spMore x.t x.a nb]=(R,giveTC t x)∧giveTE t=0∧GiveOk t x R:=by
 have hz:giveTE t=0:=by rw[Zej (by omega),if_pos hm]
 have hc:giveTC t x=giveC (allT t) x.t x.a:=by unfold giveTC;rw[if_pos hz]
 rw[hc]
 by_cases hb:moreB (allT t) x.t x.a=true
 ·have hlt:(getA t x.t).b+x.a<18446744073709551616:=by rw[Zdv hm];exact of_decide_eq_true hb
  have e:moreF x.a (getA t x.t)=(0,⟨(inA (allT t) x.t).n,(inA (allT t) x.t).b+x.a⟩):=by rw[ZkX hlt,Zdv hm]
  refine⟨_,?_,hz,Zzr hz hb ((StOf.self hm).more hb (by omega)) (by omega)⟩
  rw[ZgV (by show (moreF x.a (getA t x.t)).1=0;rw[e])]
  show (setT t x.t (moreF x.a (getA t x.t)).2,(0:Int))=_
  rw[e]
  unfold giveC
  rw[if_pos hb]
 ·have hlt:¬(getA t x.t).b+x.a<18446744073709551616:=by rw[Zdv hm];exact fun h=>hb (Vy2 h)
  have e:moreF x.a (getA t x.t)=(151,getA t x.t):=ZpD hlt
  refine⟨t,?_,hz,Zzs hz (Bool.eq_false_iff.2 hb) (StOf.self hm) (by omega)⟩
  rw[Zkc (by show ¬(moreF x.a (getA t x.t)).1=0;rw[e];exact(show ¬(151:Int)=0 by decide))]
  show (t,(moreF x.a (getA t x.t)).1)=_
  rw[e]
  unfold giveC
  rw[if_neg hb]
theorem Zmn(F:Nat→Prop)(A:Option Addr)(c:Nat)(ns:List Nd)(root:Int)(x:Dp)(w:World)(hx:x.ok)(hr:Row F w A ns)(hc:ns.length≤90000):
  Calls Tryz.prog 184 #[.agg #[.slice A ns.length c,.int .i64 root],.agg (dpC x).toArray] w (GivePost ⟨ns,root⟩ x w):=by
 have hut:=Tryz.underlying24
 have hu:=Tryz.underlying37
 obtain⟨T0,P0,z0,W0⟩:=Yf5 w A ns.length c root (dpC x) 24 142 24
 have R0:=(hr.mono (G:=fun b=>b<w.heap.size) fun b _ h=>h).bel W0
 replace T0:=hid T0
 replace P0:=hid P0
 replace z0:=hid z0
 replace W0:=hid W0
 replace R0:=hid R0
 have jT:=hid (show (Tryz.prog.info? 24).map (·.size)=some ([Value.slice A ns.length c,.int .i64 root]).length from Zah)
 have i1:=hid (ZaF x.t)
 have hbt:=hid ZbU
 have hC:=fun W hW=>ZcT (fun b=>b<w.heap.size) A c ns root W hW (by omega)
 unfold GivePost
 cases hm:mayA ⟨ns,root⟩with
 |false=>
  have hE:giveTE ⟨ns,root⟩=8:=by unfold giveTE;rw[hm];rfl
  have hCd:giveTC ⟨ns,root⟩ x=0:=by unfold giveTC;rw[hE];rfl
  rw[hE,hCd]
  have hok:=hid (Yc8 (t:=⟨ns,root⟩) (d:=x) (by rw[hE];decide))
  rw[hm]at hC
  simp only[Bool.false_eq_true,if_false]at hC
  replace hC:=hid hC
  clear hE hCd hm hr
  generalize dpC x=cx at *
  go_enter Tryz.func184,Tryz.ntmps184
  go_wp2_with (first
   |(with_reducible refine Zac rfl 24 rfl zTrC Zas ?_)
   |(with_reducible refine lDr T0.out jT.out hut ?_))
  refine(hC.out _ R0.out).mono ?_
  rintro e w1 ⟨rfl,hB⟩
  have W1:=hid (W0.out.trans (hB.mono W0.out.size))
  have z1:=hid ((hB.block _ (block_lt z0.out)).trans z0.out)
  clear hB
  go_wp2_with (first
   |((with_reducible refine Zaf rfl 24 _ rfl zTrC [] ?_ ?_ ?_);exact hbt.out;rfl)
   |((with_reducible refine stW 4 12 (w.heap.size+1+1) 24 zTrC ?_ ?_ ?_ ?_ ?_);exact z1.out;exact Zah;rfl;exact ZeP;intro w9 hg9 hb9 hs9))
  exact Vy0 (Zk7 Tryz.results184 _ _ (w.heap.size+1+1) none 0 0 0 rfl hg9) rfl ⟨⟨[],0⟩,none,0,rfl,OwnR.nil _ _,W1.out.grown hb9 W1.out.size (fun g e=>by injection e with e;omega),hok.out⟩
 |true=>
  rw[hm]at hC
  simp only[if_true]at hC
  obtain⟨P1,P2⟩:=YcS P0.out
  have hFl:∀W,Calls Tryz.prog 220 #[.agg #[.slice A ns.length c,.int .i64 root]] W fun e w'=>e=.returned (.bool false)∧Below W.heap.size W w':=fun W=>by
   have:=Zmm A c ns.length root W
   rwa [Vy1 (by omega)]at this
  have hMo:=hid (fun W=>Zmo x.a W)
  have hWk:=hid (fun W (hW:Row (fun b=>b<w.heap.size) W A ns) sb nb (hn:nb<W.heap.size) (h:W.cell? ⟨nb,0,none⟩=some (.int .u64 (x.a:Int))) (hS:∀j (h:j<[spMore x.t x.a nb].length),W.rangeAt sb (j * 33) (stC [spMore x.t x.a nb][j]))=>(show Calls Tryz.prog 221 #[.agg #[.slice A ns.length c,.int .i64 root],.slice (some ⟨sb,0,none⟩) 1 1] W fun e w'=>∃(R:Tr) (A':Option Addr) (c':Nat),e=.returned (.tuple #[.agg #[.slice A' R.ns.length c',.int .i64 R.root],.int .i64 (giveTC ⟨ns,root⟩ x)])∧OwnR 106 w' W.heap.size A' c' R.ns∧Below W.heap.size W w'∧GiveOk ⟨ns,root⟩ x R from by
   obtain⟨R,hR1,-,hR2⟩:=Zzv (x:=x) nb hm hc
   exact(ZiY (fun b=>b<w.heap.size) A c ns root [spMore x.t x.a nb] sb 1 W hW hm (by simp only[List.length_singleton];omega) (by simp) hS (fun s hs=>by
    simp only[Vy4]at hs
    subst hs
    exact⟨ZhE x.a hx.2 W nb hn h,Zpr,fun a ha h0=>ZpE ha h0⟩) R _ hR1).mono fun e w' h=>by
     obtain⟨A',c',k1,k2,k3⟩:=h
     exact⟨R,A',c',k1,k2,k3,hR2⟩))
  have hbu:=hid (fun nb=>ZjH (spMore x.t x.a nb))
  have hE:giveTE ⟨ns,root⟩=0:=by rw[Zej (by dsimp only;omega),if_pos hm]
  rw[hE]
  replace hC:=hid hC
  replace hFl:=hid hFl
  replace P1:=hid P1
  replace P2:=hid P2
  clear hE hm hr P0
  generalize giveTC ⟨ns,root⟩ x=gc at *
  generalize dpC x=cx at *
  go_enter Tryz.func184,Tryz.ntmps184
  go_wp2_with (first
   |(with_reducible refine Zac rfl 24 rfl zTrC Zas ?_)
   |(with_reducible refine lDr T0.out jT.out hut ?_))
  refine(hC.out _ R0.out).mono ?_
  rintro e w1 ⟨rfl,hB⟩
  have T1:=hid (Zab hB T0.out)
  have p1:=hid (Zab hB P1.out)
  have q1:=hid ((hB.cell (Vx5 _ _ P2.out)).trans P2.out)
  have W1:=hid (W0.out.trans (hB.mono W0.out.size))
  have z1:=hid ((hB.block _ (block_lt z0.out)).trans z0.out)
  have R1:=hid (R0.out.bel hB)
  clear hB T0 P1 P2 W0 z0 R0
  go_wp2_with ((with_reducible refine lDr T1.out jT.out hut ?_))
  refine(hFl.out _).mono ?_
  rintro e w2 ⟨rfl,hB⟩
  have T2:=hid (Zab hB T1.out)
  have p2:=hid (Zab hB p1.out)
  have q2:=hid ((hB.cell (Vx5 _ _ q1.out)).trans q1.out)
  have W2:=hid (W1.out.trans (hB.mono W1.out.size))
  have z2:=hid ((hB.block _ (block_lt z1.out)).trans z1.out)
  have R2:=hid (R1.out.bel hB)
  clear hB T1 p1 q1 W1 z1 R1
  go_wp2_with fail
  have hs2:=hid (block_lt z2.out)
  refine wp_region_noPanic ?_
  refine wp_region_held_drew (S:=fun W=>Below (w.heap.size+1+1) w2 W) (by kernel_rfl) ?_ (fun hHeld=>?_)
  ·exact(Zao w2).mono (Nat.le_of_lt hs2.out)
  refine' tkM 0 rfl (fun _ h=>Zak T2.out (fun _=>h.block _ (by omega))) hut jT.out ?_
  refine' tkP 1 rfl ?_
  refine' tkM 2 rfl (fun _ h=>Zak p2.out (fun _=>h.block _ (by omega))) hu i1.out ?_
  refine' tkP 3 rfl ?_
  simp only[sQ]
  refine' tkF 4 (fun W hSw=>(hSw.cell (by show w.heap.size+1<w.heap.size+1+1;omega)).trans q2.out) rfl ?_
  simp only[sQ]
  refine rdH 5 rfl fun K hK=>?_
  go_simp
  refine(hMo.out _).mono ?_
  rintro e v1 ⟨nb,rfl,hn1,hc1,hB⟩
  have z3:=hid ((hB.block _ (block_lt (show w2.drew.heap[w.heap.size+1+1]? =_ from z2.out))).trans z2.out)
  have R3:=hid ((R2.out.bel (Zao w2)).bel hB)
  go_wp2_with fail
  refine hK.out _ _ (hHeld.trans (hB.mono (Vx1 (Nat.le_of_lt hs2.out) hHeld.size))) fun hHeld=>?_
  clear hK K
  try simp only[sQ]
  refine' tkH 6 rfl (Yb1 (by rfl) _ _ rfl _ _ (hbu.out nb) rfl) ?_
  simp only[sQ]
  refine rdH 7 rfl fun K hK=>?_
  refine ZlK rfl 1 _ rfl [spMore x.t x.a nb] rfl (by decide) (by decide) rfl ?_
  intro g7 v2 e7 r7 hB7
  have z4:=hid ((hB7.block _ (block_lt z3.out)).trans z3.out)
  have R4:=hid (R3.out.bel hB7)
  have hn4:=hid (Vx4 hn1 hB7.size)
  have hc4:=hid ((hB7.cell (Vx5 _ _ hc1)).trans hc1)
  refine hK.out _ _ (hHeld.trans (hB7.mono (by have:=hHeld.size;have:=hs2.out;omega))) fun hHeld=>?_
  clear hK K
  try simp only[sQ]
  refine rdH 8 rfl fun K hK=>?_
  go_simp
  refine(hWk.out _ R4.out g7 nb hn4.out hc4.out r7).mono ?_
  rintro e v3 ⟨R,A3,c3,rfl,ho,hB,hok⟩
  have z5:=hid ((hB.block _ (block_lt z4.out)).trans z4.out)
  have m5:=hid hHeld.size
  have lt4:=hid (block_lt z4.out)
  replace ho:=hid ho
  replace hok:=hid hok
  go_wp2_with fail
  refine hK.out _ _ (hHeld.trans (hB.mono (by have:=lt4.out;omega))) fun hHeld=>?_
  clear hK K
  try simp only[sQ]
  refine' tkW 9 10 ?_
  refine' tkP 11 rfl ?_
  simp only[sQ]
  refine rdH 12 rfl fun K hK=>?_
  refine Zaj rfl 24 (.tmp 4) (.tmp 27) rfl (w.heap.size+1+1) _ rfl rfl 24 zTrC z5.out Zah rfl (Zat _ _ _ _) ?_
  intro w9 d9 hG9
  have z9:=hid d9
  refine hK.out _ _ (hHeld.grown hG9 (by have:=hHeld.size;have:=hs2.out;omega) (fun g e=>by injection e with e;omega)) fun hHeld=>?_
  clear hK K
  try simp only[sQ]
  refine' tkP 13 rfl ?_
  simp only[sQ]
  refine dnN ?_
  have b9:=hid (W2.out.trans (hHeld.mono (by omega)))
  have y9:=hid (Zae (l:=[Value.slice A3 R.ns.length c3,.int .i64 R.root]) z9.out)
  have jR:=hid (show (Tryz.prog.info? 24).map (·.size)=some ([Value.slice A3 R.ns.length c3,.int .i64 R.root]).length from Zah)
  have ho9:=hid (OwnQ.keptAtP ho.out hG9 lt4.out lt4.out)
  have m9:=hid (show w.heap.size+1+1<v2.heap.size from lt4.out)
  clear hHeld hG9 d9 ho
  go_wp2_with (first
   |(with_reducible refine lDr y9.out jR.out hut ?_)
   |((with_reducible refine wpList_store_row rfl 24 (.tmp 4) (.tmp 29) rfl (w.heap.size+1+1) _ rfl rfl 24 #[Value.slice A3 R.ns.length c3,.int .i64 R.root] ?_ ?_ ?_ ?_ ?_);exact z9.out;exact Zah;rfl;exact Zat _ _ _ _;intro w7 hg7 hb7 hs7))
  exact Vy0 (Zk7 Tryz.results184 _ _ (w.heap.size+1+1) A3 R.ns.length c3 R.root rfl hg7) rfl ⟨R,A3,c3,rfl,OwnR.base (OwnQ.keptAtP ho9.out hb7 m9.out m9.out) (by have:=m9.out;omega),b9.out.grown hb7 b9.out.size (fun k e=>by injection e with e;omega),hok.out⟩
end Go.Proofs.YtnnclggeifnomaaGreatDoor
